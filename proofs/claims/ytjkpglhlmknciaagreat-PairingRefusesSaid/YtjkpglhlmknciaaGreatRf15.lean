/- Rf15 -/
import Derived.ProofKit
import Derived.LaidMore
import Derived.OpenShut
import Derived.Stop.Joined
import Derived.Carry
import Derived.RowKit
import Derived.ChangeSame
import Derived.JoinedOf
import Derived.JoinedAt
import Derived.Laws.IdiomArrays
import Derived.Deep.Strs
import Derived.Deep.Slices
import Derived.Test.YtjkpglhlmknciaaGreatRf14
import Derived.Test.YtjkpglhlmknciaaGreatRf11
import Derived.Test.YtjkpglhlmknciaaGreatRows
import Derived.Test.YtjkpglhlmknciaaGreatRf05
import Derived.Test.YtjkpglhlmknciaaGreatRf04
import Derived.Test.YtjkpglhlmknciaaGreatRf10
import Derived.Test.YtjkpglhlmknciaaGreatProg
set_option maxRecDepth 100000
set_option linter.unusedVariables false
set_option linter.unusedSimpArgs false
set_option linter.unnecessarySimpa false
noncomputable section
namespace Go.Proofs.YtjkpglhlmknciaaGreat.Ex
open Go.Proofs.Tryz
open Go.RowKit
theorem aHK (p:iU):aU prog (qG prog) (fun _=>⟨fun _=>gH,fun _=>true,fun _=>none⟩) f20 60 [.v (.fl (eK p))]=some ([],.one (.im (.int .i64 (zO p.1 p.2.1 p.2.2).1))):=by kernel_rfl
theorem aPi (p:iU) (args:List Value) (w:World) (ha:bU w [.v (.fl (eK p))] args):Good prog 20 (.one (.im (.int .i64 (zO p.1 p.2.1 p.2.2).1))) args w :=
 aB aG (fun _ _=>fA) (aJ prog) func20 (aHK p) trivial ha
theorem aHI (p:iU):aU prog (qG prog) (fun _=>⟨fun _=>gH,fun _=>true,fun _=>none⟩) f10 60 [.v (.fl (eK p))]=some ([],.one (.im (.int .i64 (zO p.1 p.2.1 p.2.2).1))):=by kernel_rfl
theorem aOM (p:iU) (args:List Value) (w:World) (ha:bU w [.v (.fl (eK p))] args):Good prog 10 (.one (.im (.int .i64 (zO p.1 p.2.1 p.2.2).1))) args w :=
 aB aG (fun _ _=>fA) (aJ prog) func10 (aHI p) trivial ha
theorem Rw:∃g:cZ→Int,∀p,g p=if (iN p.1 p.2.1 p.2.2).1≠0 then (iN p.1 p.2.1 p.2.2).1 else if oT p=true then 0 else 42:=⟨fun p=>if (iN p.1 p.2.1 p.2.2).1≠0 then (iN p.1 p.2.1 p.2.2).1 else if oT p=true then 0 else 42,fun _=>rfl⟩
def zA:cZ→Int:=Classical.choose Rw
theorem Rx (p:cZ):zA p=if (iN p.1 p.2.1 p.2.2).1≠0 then (iN p.1 p.2.1 p.2.2).1 else if oT p=true then 0 else 42:=Classical.choose_spec Rw p
def aEo (k:Bool):kI:=g1 Dg fun p=>bif k then ([(iN p.1 p.2.1 p.2.2).1=0],.one (.im (.int .i64 0)))else ([],.one (.im (.int .i64 (iN p.1 p.2.1 p.2.2).1)))
theorem Bt {f:FuncId} (h:∀(p:cZ) (args:List Value) (w:World),bU w [.v (.fl (cJ p))] args→Good prog f (.one (.im (.int .i64 (iN p.1 p.2.1 p.2.2).1))) args w) (k:Bool) :
  ∀cs pre r,aEo k cs=some (pre,r)→aZ pre→∀(args:List Value) (w:World),bU w cs args→Good prog f r args w :=
 bJ iY fun p hp args w ha=>by
  cases k
  ·exact h p args w ha
  ·have e:(iN p.1 p.2.1 p.2.2).1=0:=hp.1;have:=h p args w ha;rw[e]at this;exact this
theorem Wt (p:cZ):tT 48 [.v (.fl (cJ p))]=some ([],.one (.im (.int .i64 (iN p.1 p.2.1 p.2.2).1))):=by kernel_rfl
theorem Hl (p:cZ):tT 18 [.v (.fl (cJ p))]=some ([],.one (.im (.int .i64 (iN p.1 p.2.1 p.2.2).1))):=by kernel_rfl
theorem aCp (p:cZ) (args:List Value) (w:World) (ha:bU w [.v (.fl (cJ p))] args):Good prog 48 (.one (.im (.int .i64 (iN p.1 p.2.1 p.2.2).1))) args w:=(oQ _ _ _ _ (Wt p) trivial).2 args w ha
theorem Vy (p:cZ) (args:List Value) (w:World) (ha:bU w [.v (.fl (cJ p))] args):Good prog 18 (.one (.im (.int .i64 (iN p.1 p.2.1 p.2.2).1))) args w:=(oQ _ _ _ _ (Hl p) trivial).2 args w ha
def aXg (c:Bool):Tab:=(tT.add 49 (gIc c)).add 19 (gIc c)
theorem aUW (c:Bool):TabOk prog (aXg c):=(oQ.add func49 (by kernel_rfl) (by kernel_rfl) (aQQ c)).add func19 (by kernel_rfl) (by kernel_rfl) (aQO c)
def aGk (k c:Bool):Tab:=((aXg c).add 48 (aEo k)).add 18 (aEo k)
theorem NF (k c:Bool):TabOk prog (aGk k c):=((aUW c).add func48 (by kernel_rfl) (by kernel_rfl) (Bt aCp k)).add func18 (by kernel_rfl) (by kernel_rfl) (Bt Vy k)
theorem Fz (p:cZ):aU prog (qG prog) (fun _=>⟨fun _=>aGk false true,fun _=>true,fun n=>bif Nat.beq n 7 then some (.bool true)else none⟩) f21 60 [.v (.fl (cJ p))]=some ([aH .neq .i64 (iN p.1 p.2.1 p.2.2).1 0=some (.bool true)],.one (.im (.int .i64 (iN p.1 p.2.1 p.2.2).1))):=by kernel_rfl
theorem FW (p:cZ) (c:Bool):aU prog (qG prog) (fun _=>⟨fun _=>aGk true c,fun _=>true,fun _=>none⟩) f21 60 [.v (.fl (cJ p))]=some ([(iN p.1 p.2.1 p.2.2).1=0,oT p=c],.one (.im (.int .i64 (bif c then 0 else 42)))):=by cases c<;>kernel_rfl
theorem aJj (p:cZ) (args:List Value) (w:World) (ha:bU w [.v (.fl (cJ p))] args):Good prog 21 (.one (.im (.int .i64 (zA p)))) args w:=by
 rw[Rx]
 by_cases h:(iN p.1 p.2.1 p.2.2).1=0
 ·rw[if_neg (fun e=>e h)];cases hc:oT p
  ·rw[if_neg (by simp)];exact aB aG (fun _ _=>NF true false) (aJ prog) func21 (FW p false) ⟨h,hc,trivial⟩ ha
  ·rw[if_pos rfl];exact aB aG (fun _ _=>NF true true) (aJ prog) func21 (FW p true) ⟨h,hc,trivial⟩ ha
 ·rw[if_pos h];exact aB aG (fun _ _=>NF false true) (aJ prog) func21 (Fz p) ⟨by show some (Value.bool ((iN p.1 p.2.1 p.2.2).1 != 0))=_; rw[bne_iff_ne.2 h],trivial⟩ ha
theorem Fu (p:cZ):aU prog (qG prog) (fun _=>⟨fun _=>aGk false true,fun _=>true,fun n=>bif Nat.beq n 7 then some (.bool false)else none⟩) f11 60 [.v (.fl (cJ p))]=some ([aH .eql .i64 (iN p.1 p.2.1 p.2.2).1 0=some (.bool false)],.one (.im (.int .i64 (iN p.1 p.2.1 p.2.2).1))):=by kernel_rfl
theorem FT (p:cZ) (c:Bool):aU prog (qG prog) (fun _=>⟨fun _=>aGk true c,fun _=>true,fun _=>none⟩) f11 60 [.v (.fl (cJ p))]=some ([(iN p.1 p.2.1 p.2.2).1=0,oT p=c],.one (.im (.int .i64 (bif c then 0 else 42)))):=by cases c<;>kernel_rfl
theorem aID (p:cZ) (args:List Value) (w:World) (ha:bU w [.v (.fl (cJ p))] args):Good prog 11 (.one (.im (.int .i64 (zA p)))) args w:=by
 rw[Rx]
 by_cases h:(iN p.1 p.2.1 p.2.2).1=0
 ·rw[if_neg (fun e=>e h)];cases hc:oT p
  ·rw[if_neg (by simp)];exact aB aG (fun _ _=>NF true false) (aJ prog) func11 (FT p false) ⟨h,hc,trivial⟩ ha
  ·rw[if_pos rfl];exact aB aG (fun _ _=>NF true true) (aJ prog) func11 (FT p true) ⟨h,hc,trivial⟩ ha
 ·rw[if_pos h];exact aB aG (fun _ _=>NF false true) (aJ prog) func11 (Fu p) ⟨by show some (Value.bool ((iN p.1 p.2.1 p.2.2).1==0))=_; rw[beq_eq_false_iff_ne.2 h],trivial⟩ ha
def PV {α:Type} (g:α→List At) (w:World) (v:Value) (N:Nat) (ps:Nat→α):Prop:=∃p m,v=.slice p N m∧N≤m∧(0<N→∃b o,p=some ⟨b,o,none⟩∧b<w.heap.size∧w.rangeAt b o (aA (fM (fun j=>g (ps j)) 0 N)))
theorem PV.on {α:Type} {g:α→List At} {w w':World} {v:Value} {N:Nat} {ps:Nat→α} (h:PV g w v N ps) (hb:Below w.heap.size w w'):PV g w' v N ps:=by
 obtain⟨p,m,h1,h2,h4⟩:=h;exact⟨p,m,h1,h2,fun h=>by
  obtain⟨b,o,e,h5,h6⟩:=h4 h;exact⟨b,o,e,Nat.lt_of_lt_of_le h5 hb.size,gB hb h5 h6⟩⟩
theorem PV.one {α:Type} {g:α→List At} {w:World} {l:List At} {n m:Nat} {x:α} {v:Value} (h:CA.ok w (.s l n m) v) (h1:aA l=aA (g x)) (h2:n=1) (h3:1≤m):PV g w v 1 (fun _=>x):=by
 obtain⟨b,o,rfl,hb,hr⟩:=h;have e:aA (fM (fun j=>g x) 0 1)=aA (g x):=by show aA (g x++[])=_; rw[List.append_nil]
 exact⟨_,m,by rw[h2],h3,fun _=>⟨b,o,rfl,hb,by rw[e,←h1]; exact hr⟩⟩
def xj (w:World) (idx:Nat→Option Nat) (ld:Nat→Option (List At)) (gen:Nat→Option Value) (mks:Nat→Option (Nat×List At)):Ext:={ Ext.none with idx:=idx,ld:=ld,gen:=gen,mks:=mks,old:=oldOf w,T2:=Fr0,T3:=Fs0,T4:=Wr0,T5:=Lm,T6:=Pb0 }
theorem rR (w:World) (idx:Nat→Option Nat) (ld:Nat→Option (List At)) (gen:Nat→Option Value) (mks:Nat→Option (Nat×List At)):dC prog { qG prog with x:=xj w idx ld gen mks } w.heap.size w :=
 ⟨(aJ _).1,aKD (fun b o l h=>h) (fun w' _=>FrAt.none _ _) (fun w' _=>FsAt.none _ _)⟩
theorem Wu {w:World} {b o N i:Nat} {ps:Nat→iU} (hb:b<w.heap.size) (hr:w.rangeAt b o (aA (fM (fun j=>eK (ps j)) 0 N))) (hi:i<N):oldOf w b (o+i*9) (eK (ps i)) :=
 ⟨hb,pJ (f:=fun j=>eK (ps j)) (c:=9) (fun _=>rfl) hi hr⟩
theorem aCr {w:World} {b o N i:Nat} {qs:Nat→cZ} (hb:b<w.heap.size) (hr:w.rangeAt b o (aA (fM (fun j=>cJ (qs j)) 0 N))) (hi:i<N):oldOf w b (o+i*17) (cJ (qs i)) :=
 ⟨hb,pJ (f:=fun j=>cJ (qs j)) (c:=17) (fun _=>rfl) hi hr⟩
theorem aUV {w:World} {b o:Nat} {p:iU} {t:Bool} (h:oldOf w b o (eK p)) (ht:p.2.2=t):oldOf w b (o+8) [.c (.bool t)]:=by
 refine⟨h.1,fun j v hj => ?_⟩;subst ht;rw[Nat.add_assoc];refine h.2 (8+j) v ?_
 match j,hj with
 | 0,hj=>exact hj
 | j+1,hj=>simp[aA,At.cells]at hj
theorem aUU {w:World} {b o:Nat} {p:cZ} {t:Bool} (h:oldOf w b o (cJ p)) (ht:p.2.2=t):oldOf w b (o+16) [.c (.bool t)]:=by
 refine⟨h.1,fun j v hj => ?_⟩;subst ht;rw[Nat.add_assoc];refine h.2 (16+j) v ?_
 match j,hj with
 | 0,hj=>exact hj
 | j+1,hj=>simp[aA,At.cells]at hj
def Bo (p:iU):Int:=(zO p.1 p.2.1 p.2.2).1
def er (p:iU) (q:cZ):Int:=if Bo p≠0 then Bo p else zA q
def nM (e:Nat→Int):Nat→Int
 | 0=>0
 | n+1=>if nM e n≠0 then nM e n else e n
theorem JD {e:Nat→Int}:∀n,nM e n=0→∀i,i<n→e i=0
 | n+1,h,i,hi=>by
  unfold nM at h
  by_cases c:nM e n=0
  ·rw[if_neg (fun q=>q c)]at h
   rcases Nat.lt_or_ge i n with q|q
   ·exact JD n c i q
   ·rw[show i=n by omega]; exact h
  ·rw[if_pos c]at h; exact absurd h c
theorem BL {e:Nat→Int}:∀n,nM e n≠0→∃k,k<n∧(∀i,i<k→e i=0)∧e k≠0∧nM e n=e k
 | 0,h=>absurd rfl h
 | n+1,h=>by
  unfold nM at h ⊢
  by_cases c:nM e n=0
  ·rw[if_neg (fun q=>q c)]at h ⊢;exact⟨n,by omega,JD n c,h,rfl⟩
  ·rw[if_pos c]at h ⊢;obtain⟨k,h1,h2,h3,h4⟩:=BL n c;exact⟨k,by omega,h2,h3,h4⟩
def Xp (N:Nat) (ps:Nat→iU) (M:Nat) (qs:Nat→cZ):Int:=if N≠M then 3 else if 256<N then 3 else nM (fun i=>er (ps i) (qs i)) N
def gJ1:kI:=Ex.g1 rg1 fun p=>([],.one (.im (.int .i64 (Bo p))))
def gJ2:kI:=Ex.g1 Dg fun p=>([],.one (.im (.int .i64 (zA p))))
theorem aEs {f:FuncId} (h:∀(p:iU) (args:List Value) (w:World),bU w [.v (.fl (eK p))] args→Good prog f (.one (.im (.int .i64 (zO p.1 p.2.1 p.2.2).1))) args w):∀cs pre r,gJ1 cs=some (pre,r)→aZ pre→∀(args:List Value) (w:World),bU w cs args→Good prog f r args w :=
 bJ (op:=fun p=>([],.one (.im (.int .i64 (Bo p))))) AF fun p hp args w ha=>h p args w ha
theorem aEr {f:FuncId} (h:∀(p:cZ) (args:List Value) (w:World),bU w [.v (.fl (cJ p))] args→Good prog f (.one (.im (.int .i64 (zA p)))) args w):∀cs pre r,gJ2 cs=some (pre,r)→aZ pre→∀(args:List Value) (w:World),bU w cs args→Good prog f r args w :=
 bJ (op:=fun p=>([],.one (.im (.int .i64 (zA p))))) iY fun p hp args w ha=>h p args w ha
def aSE:Tab:=(T0.add 20 gJ1).add 21 gJ2
theorem aLY:TabOk prog aSE:=((zK _).add func20 (by kernel_rfl) (by kernel_rfl) (aEs aPi)).add func21 (by kernel_rfl) (by kernel_rfl) (aEr aJj)
def DR:Tab:=(T0.add 10 gJ1).add 11 gJ2
theorem aUX:TabOk prog DR:=((zK _).add func10 (by kernel_rfl) (by kernel_rfl) (aEs aOM)).add func11 (by kernel_rfl) (by kernel_rfl) (aEr aID)
def jC (T:Tab) (num:Nat→Option Value) (_:Nat):Cfg:=⟨fun _=>T,fun _=>true,num⟩
theorem aIc (p:iU) (q:cZ):aU prog (qG prog) (jC aSE (assoc [(9,.bool true)])) f12 60 [.v (.fl (eK p)),.v (.fl (cJ q))]=some ([aH .neq .i64 (Bo p) 0=some (.bool true)],.one (.im (.int .i64 (Bo p)))):=by kernel_rfl
theorem aIb (p:iU) (q:cZ):aU prog (qG prog) (jC aSE (assoc [(9,.bool false)])) f12 60 [.v (.fl (eK p)),.v (.fl (cJ q))]=some ([aH .neq .i64 (Bo p) 0=some (.bool false)],.one (.im (.int .i64 (zA q)))):=by kernel_rfl
theorem nzt {c:Int} (h:c≠0):aH .neq .i64 c 0=some (.bool true):=by show some (Value.bool (c != 0))=_; rw[bne_iff_ne.2 h]
theorem nzf {c:Int} (h:c=0):aH .neq .i64 c 0=some (.bool false):=by rw[h]; rfl
theorem ezt {c:Int} (h:c=0):aH .eql .i64 c 0=some (.bool true):=by rw[h]; rfl
theorem ezf {c:Int} (h:c≠0):aH .eql .i64 c 0=some (.bool false):=by show some (Value.bool (c==0))=_; rw[beq_eq_false_iff_ne.2 h]
theorem aFx (p:iU) (q:cZ) (args:List Value) (w:World) (ha:bU w [.v (.fl (eK p)),.v (.fl (cJ q))] args):Good prog 12 (.one (.im (.int .i64 (er p q)))) args w:=by
 unfold er
 by_cases h:Bo p=0
 ·rw[if_neg (fun q=>q h)];exact aB aG (fun _ _=>aLY) (aJ _) func12 (aIb p q) ⟨nzf h,trivial⟩ ha
 ·rw[if_pos h];exact aB aG (fun _ _=>aLY) (aJ _) func12 (aIc p q) ⟨nzt h,trivial⟩ ha
def bgN (p:iU) (q:cZ):List At:=[.q p.1,.q p.2.1,.c (.bool p.2.2),.q q.1.1,.q q.1.2,.q q.2.1.1,.q q.2.1.2,.c (.bool q.2.2),.q q.1.1,.q q.1.2,.q q.2.1.1,.q q.2.1.2,.f F1.one,.f F1.zero]
theorem aOE (p:iU) (q:cZ):aU prog (qG prog) (wq tP) f13 60 [.v (.fl (eK p)),.v (.fl (cJ q))]=some ([],.one (.fl (bgN p q))):=by kernel_rfl
def aKr (op:iU→cZ→RV):kI
 | [.v (.fl l),.v (.fl m)]=>match rg1 l,Dg m with
  | some p,some q=>some ([],op p q)
  | _,_=>none
 | _=>none
theorem Qf {f:FuncId} {op:iU→cZ→RV} (h:∀(p:iU) (q:cZ) (args:List Value) (w:World),bU w [.v (.fl (eK p)),.v (.fl (cJ q))] args→Good prog f (op p q) args w):∀cs pre r,aKr op cs=some (pre,r)→aZ pre→∀(args:List Value) (w:World),bU w cs args→Good prog f r args w:=by
 intro cs pre r hg hp args w ha;unfold aKr at hg;split at hg
 ·rename_i l m;split at hg
  ·rename_i p q hx hy;cases hg;refine h p q args w ?_
   match args,ha with
   | [v,u],ha =>
    refine⟨?_,?_,trivial⟩
    ·show v=.agg (aA (eK p)).toArray;rw[←AF l p hx]; exact ha.1
    ·show u=.agg (aA (cJ q)).toArray;rw[←iY m q hy]; exact ha.2.1
   | [],ha=>exact ha.elim
   | [_],ha=>exact ha.2.elim
   | _::_::_::_,ha=>exact ha.2.2.elim
  ·cases hg
 ·cases hg
def rQ:Tab:=(T0.add 12 (aKr fun p q=>.one (.im (.int .i64 (er p q))))).add 13 (aKr fun p q=>.one (.fl (bgN p q)))
theorem Oe:TabOk prog rQ:=((zK _).add func12 (by kernel_rfl) (by kernel_rfl) (Qf aFx)).add func13 (by kernel_rfl) (by kernel_rfl) (Qf fun p q args w ha=>aB aG (fun _ _=>mK) (aJ _) func13 (aOE p q) trivial ha)
def rC:Code:=(f4.body).getD .skip
def gv3:Code:=cB (cB rC)
def wQ:Code:=vG (vG (cB (cA gv3)))
theorem aKj:rC=.seq (cA rC) (.seq (cA (cB rC)) (.seq (.seq (cA (cA gv3)) (.block 0 (.loop wQ))) (cB gv3))):=by kernel_rfl
def jA (v v2:Value):List Fact:=[.slot 0 (.im v),.slot 1 (.im v2)]
def jE (e:Int):List Fact:=[.slot 4 (.im (.int .i64 e))]
def Qc (v v2:Value) (i:Nat):List Fact:=.slot 5 (.im (iI i))::jA v v2
theorem aWa (v v2:Value):bE prog (qG prog) f4.ntmps (jC DR fun _=>none) 40 (cA rC) (nU 0 [.v (.im v),.v (.im v2)]) (jA v v2)=some ([],.nrm,jA v v2):=by kernel_rfl
theorem aWe (p q:Option Addr) (N m M m2:Nat):bE prog (qG prog) f4.ntmps (jC DR (assoc [(11,.bool true)])) 40 (cA (cB rC)) (jA (.slice p N m) (.slice q M m2)) (jE 3)=some ([aH .neq .i64 (Int.ofNat N) (Int.ofNat M)=some (.bool true)],.rt,jE 3):=by kernel_rfl
theorem aWd (p q:Option Addr) (N m M m2:Nat):bE prog (qG prog) f4.ntmps (jC DR (assoc [(11,.bool false),(15,.bool true)])) 40 (cA (cB rC)) (jA (.slice p N m) (.slice q M m2)) (jE 3)=some ([aH .neq .i64 (Int.ofNat N) (Int.ofNat M)=some (.bool false),aH .gtr .i64 (Int.ofNat N) 256=some (.bool true)],.rt,jE 3):=by kernel_rfl
theorem aZB (p q:Option Addr) (N m M m2:Nat):bE prog (qG prog) f4.ntmps (jC DR (assoc [(11,.bool false),(15,.bool false)])) 40 (cA (cB rC)) (jA (.slice p N m) (.slice q M m2)) (jA (.slice p N m) (.slice q M m2))=some ([aH .neq .i64 (Int.ofNat N) (Int.ofNat M)=some (.bool false),aH .gtr .i64 (Int.ofNat N) 256=some (.bool false)],.nrm,jA (.slice p N m) (.slice q M m2)):=by kernel_rfl
theorem aZC (v v2:Value):bE prog (qG prog) f4.ntmps (jC DR fun _=>none) 40 (cA (cA gv3)) (jA v v2) (Qc v v2 0)=some ([],.nrm,Qc v v2 0):=by kernel_rfl
theorem aWc (p q:Option Addr) (N m M m2 i:Nat):bE prog (qG prog) f4.ntmps (jC DR (assoc [(20,.bool false)])) 40 wQ (Qc (.slice p N m) (.slice q M m2) i) []=some ([aH .lss .i64 (Int.ofNat i) (Int.ofNat N)=some (.bool false)],.ex 0,[]):=by kernel_rfl
theorem aZA:bE prog (qG prog) f4.ntmps (jC DR fun _=>none) 40 (cB gv3) [] (jE 0)=some ([],.rt,jE 0):=by kernel_rfl
theorem aWb (w:World) (b o N m b' o' M m2 i:Nat) (p:iU) (q:cZ):bE prog { qG prog with x:=xj w (assoc [(25,i),(32,i)]) (assoc [(26,eK p),(33,cJ q)]) (fun _=>none) (fun _=>none) } f4.ntmps (jC DR (assoc [(20,.bool true),(29,.bool true),(36,.bool false),(22,iI (i+1))])) 60 wQ (Qc (dG b o N m) (dG b' o' M m2) i) (Qc (dG b o N m) (dG b' o' M m2) (i+1)) =
  some ([aH .lss .i64 (Int.ofNat i) (Int.ofNat N)=some (.bool true),Int.ofNat i=Int.ofNat i,i<N,oldOf w b (o+i*9) (eK p),cF (eK p)=9,aH .eql .i64 (Bo p) 0=some (.bool true),Int.ofNat i=Int.ofNat i,i<M,oldOf w b' (o'+i*17) (cJ q),cF (cJ q)=17,aH .neq .i64 (zA q) 0=some (.bool false),aH .add .i64 (Int.ofNat i) 1=some (iI (i+1))],.nrm,Qc (dG b o N m) (dG b' o' M m2) (i+1)):=by kernel_rfl
theorem aVZ (w:World) (b o N m:Nat) (v2:Value) (i:Nat) (p:iU):bE prog { qG prog with x:=xj w (assoc [(25,i)]) (assoc [(26,eK p)]) (fun _=>none) (fun _=>none) } f4.ntmps (jC DR (assoc [(20,.bool true),(29,.bool false),(36,.bool true)])) 60 wQ (Qc (dG b o N m) v2 i) (jE (Bo p)) =
  some ([aH .lss .i64 (Int.ofNat i) (Int.ofNat N)=some (.bool true),Int.ofNat i=Int.ofNat i,i<N,oldOf w b (o+i*9) (eK p),cF (eK p)=9,aH .eql .i64 (Bo p) 0=some (.bool false),aH .neq .i64 (Bo p) 0=some (.bool true)],.rt,jE (Bo p)):=by kernel_rfl
theorem aVY (w:World) (b o N m b' o' M m2 i:Nat) (p:iU) (q:cZ):bE prog { qG prog with x:=xj w (assoc [(25,i),(32,i)]) (assoc [(26,eK p),(33,cJ q)]) (fun _=>none) (fun _=>none) } f4.ntmps (jC DR (assoc [(20,.bool true),(29,.bool true),(36,.bool true)])) 60 wQ (Qc (dG b o N m) (dG b' o' M m2) i) (jE (zA q)) =
  some ([aH .lss .i64 (Int.ofNat i) (Int.ofNat N)=some (.bool true),Int.ofNat i=Int.ofNat i,i<N,oldOf w b (o+i*9) (eK p),cF (eK p)=9,aH .eql .i64 (Bo p) 0=some (.bool true),Int.ofNat i=Int.ofNat i,i<M,oldOf w b' (o'+i*17) (cJ q),cF (cJ q)=17,aH .neq .i64 (zA q) 0=some (.bool true)],.rt,jE (zA q)):=by kernel_rfl
theorem aWv {p:iU} {q:cZ} (h:er p q=0):Bo p=0∧zA q=0:=by
 unfold er at h
 by_cases c:Bo p=0
 ·rw[if_neg (fun q=>q c)]at h; exact⟨c,h⟩
 ·rw[if_pos c]at h; exact absurd h c
theorem aDc {a b:Nat} (h:a≠b):aH .neq .i64 (Int.ofNat a) (Int.ofNat b)=some (.bool true):=by rw[Ou,decide_eq_true h]
theorem Ay {a b:Nat} (h:a=b):aH .neq .i64 (Int.ofNat a) (Int.ofNat b)=some (.bool false):=by rw[Ou,decide_eq_false (fun q=>q h)]
theorem IZ {a:Nat} {t:Bool} (h:decide (256<a)=t):aH .gtr .i64 (Int.ofNat a) 256=some (.bool t):=by rw[←h]; exact NJ (i:=a) (n:=256)
theorem Bq {w0:World} {v v2:Value} {N:Nat} {ps:Nat→iU} {M:Nat} {qs:Nat→cZ} (hv:PV eK w0 v N ps) (hv2:PV cJ w0 v2 M qs):Good prog 4 (.one (.im (.int .i64 (Xp N ps M qs)))) [v,v2] w0:=by
 have hG:dC prog (qG prog) w0.heap.size w0:=(aJ _).w _ _;have hT:∀n d:Nat,TabOkW prog DR w0.heap.size w0:=fun _ _=>aUX.w _ _
 obtain⟨p,m,rfl,hm,hmem⟩:=hv;obtain⟨q,m2,rfl,hm2,hmem2⟩:=hv2;have out:∀{a:Act} {w:World} (c:Int),Holds f4.ntmps w0.heap.size w0 (jE c) a w→bodyPost prog f4 (fun e w'=>e=.returned (RV.den (.one (.im (.int .i64 c))))∧Below w0.heap.size w0 w') .ret a w:=fun c hA=>gZ (l:=[.im (.int .i64 c)]) (r:=.one (.im (.int .i64 c))) (by kernel_rfl) (by kernel_rfl) hA
 refine fT func4 (cs:=[.v (.im (.slice p N m)),.v (.im (.slice q M m2))]) (args:=[.slice p N m,.slice q M m2]) (c:=rC) rfl ⟨rfl,rfl,trivial⟩ (Nat.le_of_ble_eq_true (by kernel_rfl)) fun a w1 hA => ?_
 rw[aKj];refine wp_seq (aF aG hT hG (aWa _ _) trivial hA fun a w1 hA => ?_);unfold Xp
 by_cases h1:N=M
 ·subst h1;rw[if_neg (fun q=>q rfl)]
  by_cases h2:256<N
  ·rw[if_pos h2];exact wp_seq (aF aG hT hG (aWd p q N m N m2) ⟨Ay rfl,IZ (decide_eq_true h2),trivial⟩ hA fun a w hA=>out 3 hA)
  ·rw[if_neg h2];refine wp_seq (aF aG hT hG (aZB p q N m N m2) ⟨Ay rfl,IZ (decide_eq_false h2),trivial⟩ hA fun a w1 hA => ?_);refine wp_seq (wp_seq (aF aG hT hG (aZC _ _) trivial hA fun a w1 hA => ?_));refine wp_block ?_;obtain⟨F,hF⟩:∃F,nM (fun i=>er (ps i) (qs i)) N=F:=⟨_,rfl⟩
   rw[hF];have step:∀{b o b' o' i:Nat},b<w0.heap.size→w0.rangeAt b o (aA (fM (fun j=>eK (ps j)) 0 N))→b'<w0.heap.size→w0.rangeAt b' o' (aA (fM (fun j=>cJ (qs j)) 0 N))→i<N→er (ps i) (qs i)=0→Ok prog w0.heap.size w0 f4.ntmps wQ (Qc (dG b o N m) (dG b' o' N m2) i) .nrm (Qc (dG b o N m) (dG b' o' N m2) (i+1)):=fun {b o b' o' i} e1 e2 e3 e4 hi he =>
    ⟨_,_,_,_,rR w0 _ _ _ _,hT,aWb w0 b o N m b' o' N m2 i (ps i) (qs i),cK hi,rfl,hi,Wu e1 e2 hi,rfl,ezt (aWv he).1,rfl,hi,aCr e3 e4 hi,rfl,nzf (aWv he).2,pR (k:=1) (by omega),trivial⟩
   by_cases h3:F=0
   ·subst h3;have hz:=JD N hF;have fin:∀{a:Act} {w:World},Holds f4.ntmps w0.heap.size w0 [] a w→(cB gv3).wp prog (bodyPost prog f4 (fun e w'=>e=.returned (RV.den (.one (.im (.int .i64 0))))∧Below w0.heap.size w0 w')) a w:=fun hA=>aF aG hT hG aZA trivial hA fun a w hA=>out 0 hA
    by_cases h0:N=0
    ·subst h0;exact mD aG (fun i=>Qc (.slice p 0 m) (.slice q 0 m2) i) 0 (fun i hi=>by omega) (.ex 0) (by simp) [] ⟨_,_,_,_,hG,hT,aWc p q 0 m 0 m2 0,gQ (by omega),trivial⟩ hA fun a w hA=>fin hA
    ·obtain⟨b,o,rfl,e1,e2⟩:=hmem (by omega);obtain⟨b',o',rfl,e3,e4⟩:=hmem2 (by omega);exact mD aG (fun i=>Qc (dG b o N m) (dG b' o' N m2) i) N (fun i hi=>step e1 e2 e3 e4 hi (hz i hi)) (.ex 0) (by simp) [] ⟨_,_,_,_,hG,hT,aWc (some ⟨b,o,none⟩) (some ⟨b',o',none⟩) N m N m2 N,gQ (by omega),trivial⟩ hA fun a w hA=>fin hA
   ·obtain⟨k,hk,hz,hkn,hke⟩:=BL N (by rw[hF]; exact h3);rw[hF]at hke;subst hke;obtain⟨b,o,rfl,e1,e2⟩:=hmem (by omega);obtain⟨b',o',rfl,e3,e4⟩:=hmem2 (by omega);have hbad:Ok prog w0.heap.size w0 f4.ntmps wQ (Qc (dG b o N m) (dG b' o' N m2) k) .rt (jE (er (ps k) (qs k))):=by
     unfold er
     by_cases c:Bo (ps k)=0
     ·rw[if_neg (fun q=>q c)];have h4:zA (qs k)≠0:=by
       unfold er at hkn
       rwa [if_neg (fun q=>q c)]at hkn
      exact⟨_,_,_,_,rR w0 _ _ _ _,hT,aVY w0 b o N m b' o' N m2 k (ps k) (qs k),cK hk,rfl,hk,Wu e1 e2 hk,rfl,ezt c,rfl,hk,aCr e3 e4 hk,rfl,nzt h4,trivial⟩
     ·rw[if_pos c];exact⟨_,_,_,_,rR w0 _ _ _ _,hT,aVZ w0 b o N m _ k (ps k),cK hk,rfl,hk,Wu e1 e2 hk,rfl,ezf c,nzt c,trivial⟩
    exact mD aG (fun i=>Qc (dG b o N m) (dG b' o' N m2) i) k (fun i hi=>step e1 e2 e3 e4 (by omega) (hz i hi)) .rt (by simp) (jE (er (ps k) (qs k))) hbad hA fun a w hA=>out _ hA
 ·rw[if_pos h1];exact wp_seq (aF aG hT hG (aWe p q N m M m2) ⟨aDc h1,trivial⟩ hA fun a w hA=>out 3 hA)
def qD {α:Type} (g:α→List At):List α→List At
 | []=>[]
 | x::r=>g x++qD g r
theorem JR {α:Type} (g:α→List At):∀a b:List α,qD g (a++b)=qD g a++qD g b
 | [],b=>rfl
 | x::a,b=>by show g x++qD g (a++b)=(g x++qD g a)++qD g b; rw[JR g a b,List.append_assoc]
theorem TE {α:Type} {g:α→List At} {c:Nat} (h:∀x,cF (g x)=c):∀l:List α,cF (qD g l)=l.length*c
 | []=>by rw[List.length_nil,Nat.zero_mul]; rfl
 | x::r=>by
  show cF (g x++qD g r)=_;rw[rE,h,TE h r,List.length_cons,Nat.succ_mul,Nat.add_comm]
theorem VU {α:Type} {g:α→List At} {c:Nat} (h:∀x,cF (g x)=c) {l:List α} {j:Nat} {x:α} (hj:l[j]?=some x):gS (qD g l) (0+j*c) c=some (g x):=by
 obtain⟨a,b,rfl,rfl,_⟩:=nS hj;rw[JR,Nat.zero_add,←TE h];show gS (qD g a++(g x++qD g b)) _ c=_;unfold gS;rw[show cF (qD g a)=cF (qD g a)+0 from rfl,EN,Rf];show tk (g x++qD g b) c=_;have:=PK (g x) (qD g b)
 rwa [h]at this
theorem Cr:∀(x y:List At) (m:Nat),cellAt (x++y) (cF x+m)=cellAt y m
 | [],y,m=>by show cellAt y (0+m)=_; rw[Nat.zero_add]
 | a::x,y,m=>by
  show (bif Nat.blt (a.sz+cF x+m) a.sz then a.cells[a.sz+cF x+m]? else cellAt (x++y) (a.sz+cF x+m-a.sz))=_;have e:Nat.blt (a.sz+cF x+m) a.sz=false:=by
   cases hb:Nat.blt (a.sz+cF x+m) a.sz
   ·rfl
   ·have:a.sz+cF x+m<a.sz:=by simpa using hb
    omega
  rw[e,show a.sz+cF x+m-a.sz=cF x+m by omega];exact Cr x y m
theorem ON {α:Type} {g:α→List At} {c o:Nat} {v:Value} (h:∀x,cF (g x)=c) {l:List α} {j:Nat} {x:α} (hj:l[j]?=some x) (hv:∀y,cellAt (g x++y) o=some v):cellAt (qD g l) (0+j*c+o)=some v:=by
 obtain⟨a,b,rfl,rfl,_⟩:=nS hj;rw[JR,Nat.zero_add,←TE h,Cr];exact hv (qD g b)
def aOR (l:List C1):List At:=qD (fun P=>nZ P.1) l
def aOQ (l:List C2):List At:=qD (fun P=>gI P.1) l
def rdA (n i:Nat) (lp lq:List At) (p:Pt Fq) (q:Pt Q2):Prop:=i<n∧gS lp (0+i*9) 9=some (nZ p)∧gS lq (0+i*17) 17=some (gI q)∧cellAt lp (0+i*9+8)=some (.bool (uY p))∧cellAt lq (0+i*17+16)=some (.bool (uY q))
theorem aOK {Ps:List C1} {Qs:List C2} {i n:Nat} (hi:i<n) {P:C1} {Q:C2} (hP:Ps[i]?=some P) (hQ:Qs[i]?=some Q):rdA n i (aOR Ps) (aOQ Qs) P.1 Q.1 :=
 ⟨hi,VU (g:=fun P:C1=>nZ P.1) (c:=9) (fun _=>rfl) hP,VU (g:=fun P:C2=>gI P.1) (c:=17) (fun _=>rfl) hQ,ON (g:=fun P:C1=>nZ P.1) (c:=9) (o:=8) (v:=.bool (uY P.1)) (fun _=>rfl) hP fun y=>rfl,ON (g:=fun P:C2=>gI P.1) (c:=17) (o:=16) (v:=.bool (uY Q.1)) (fun _=>rfl) hQ fun y=>rfl⟩
def zq:Fq×Fq:=(F1.zero,F1.zero)
def UO:Q2×Q2:=(F2.zero,F2.zero)
def lR (i:Nat):List (Nat×Value):=[(23,.bool true),(64,iI (i+1))]
theorem aUO (n m m' i:Nat) (lp lq:List At):bE prog (qR i none none zq UO) oF (cP (DS none none zq UO) (lR i)) 40 AK (pP n m m' lp lq i []) (pP n m m' lp lq (i+1) [])=some ([aH .lss .i64 (Int.ofNat i) (Int.ofNat n)=some (.bool true),Int.ofNat i=Int.ofNat i,i<n,gS lp (0+i*9) 9=some (nZ none),Int.ofNat i=Int.ofNat i,i<n,gS lq (0+i*17) 17=some (gI none),aA (nZ none)=aA (nZ none),aA (gI none)=aA (gI none),Int.ofNat i=Int.ofNat i,i<n,cellAt lp (0+i*9+8)=some (.bool (uY (none:Pt Fq))),aH .add .i64 (Int.ofNat i) 1=some (iI (i+1))],.nrm,pP n m m' lp lq (i+1) []):=by kernel_rfl
theorem aUM (n m m' i:Nat) (lp lq:List At) (q:Q2×Q2):bE prog (qR i none (some q) zq UO) oF (cP (DS none (some q) zq UO) (lR i)) 40 AK (pP n m m' lp lq i []) (pP n m m' lp lq (i+1) [])=some ([aH .lss .i64 (Int.ofNat i) (Int.ofNat n)=some (.bool true),Int.ofNat i=Int.ofNat i,i<n,gS lp (0+i*9) 9=some (nZ none),Int.ofNat i=Int.ofNat i,i<n,gS lq (0+i*17) 17=some (gI (some q)),aA (nZ none)=aA (nZ none),aA (gI (some q))=aA (gI (some q)),Int.ofNat i=Int.ofNat i,i<n,cellAt lp (0+i*9+8)=some (.bool (uY (none:Pt Fq))),aH .add .i64 (Int.ofNat i) 1=some (iI (i+1))],.nrm,pP n m m' lp lq (i+1) []):=by kernel_rfl
theorem aYM (n m m' i:Nat) (lp lq:List At) (a:Fq×Fq):bE prog (qR i (some a) none zq UO) oF (cP (DS (some a) none zq UO) (lR i)) 40 AK (pP n m m' lp lq i []) (pP n m m' lp lq (i+1) [])=some ([aH .lss .i64 (Int.ofNat i) (Int.ofNat n)=some (.bool true),Int.ofNat i=Int.ofNat i,i<n,gS lp (0+i*9) 9=some (nZ (some a)),Int.ofNat i=Int.ofNat i,i<n,gS lq (0+i*17) 17=some (gI none),aA (nZ (some a))=aA (nZ (some a)),aA (gI none)=aA (gI none),Int.ofNat i=Int.ofNat i,i<n,cellAt lp (0+i*9+8)=some (.bool (uY (some a))),Int.ofNat i=Int.ofNat i,i<n,cellAt lq (0+i*17+16)=some (.bool (uY (none:Pt Q2))),aH .add .i64 (Int.ofNat i) 1=some (iI (i+1))],.nrm,pP n m m' lp lq (i+1) []):=by kernel_rfl
theorem aUN (n m m' i:Nat) (lp lq:List At) (W:Wk) (r:List Wk):bE prog (qR i none none zq UO) oF (cP (DS none none zq UO) (lR i)) 40 AK (pP n m m' lp lq i (W::r)) (pP n m m' lp lq (i+1) (W::r))=some ([aH .lss .i64 (Int.ofNat i) (Int.ofNat n)=some (.bool true),Int.ofNat i=Int.ofNat i,i<n,gS lp (0+i*9) 9=some (nZ none),Int.ofNat i=Int.ofNat i,i<n,gS lq (0+i*17) 17=some (gI none),aA (nZ none)=aA (nZ none),aA (gI none)=aA (gI none),Int.ofNat i=Int.ofNat i,i<n,cellAt lp (0+i*9+8)=some (.bool (uY (none:Pt Fq))),aH .add .i64 (Int.ofNat i) 1=some (iI (i+1))],.nrm,pP n m m' lp lq (i+1) (W::r)):=by kernel_rfl
theorem aUL (n m m' i:Nat) (lp lq:List At) (q:Q2×Q2) (W:Wk) (r:List Wk):bE prog (qR i none (some q) zq UO) oF (cP (DS none (some q) zq UO) (lR i)) 40 AK (pP n m m' lp lq i (W::r)) (pP n m m' lp lq (i+1) (W::r))=some ([aH .lss .i64 (Int.ofNat i) (Int.ofNat n)=some (.bool true),Int.ofNat i=Int.ofNat i,i<n,gS lp (0+i*9) 9=some (nZ none),Int.ofNat i=Int.ofNat i,i<n,gS lq (0+i*17) 17=some (gI (some q)),aA (nZ none)=aA (nZ none),aA (gI (some q))=aA (gI (some q)),Int.ofNat i=Int.ofNat i,i<n,cellAt lp (0+i*9+8)=some (.bool (uY (none:Pt Fq))),aH .add .i64 (Int.ofNat i) 1=some (iI (i+1))],.nrm,pP n m m' lp lq (i+1) (W::r)):=by kernel_rfl
theorem aYL (n m m' i:Nat) (lp lq:List At) (a:Fq×Fq) (W:Wk) (r:List Wk):bE prog (qR i (some a) none zq UO) oF (cP (DS (some a) none zq UO) (lR i)) 40 AK (pP n m m' lp lq i (W::r)) (pP n m m' lp lq (i+1) (W::r))=some ([aH .lss .i64 (Int.ofNat i) (Int.ofNat n)=some (.bool true),Int.ofNat i=Int.ofNat i,i<n,gS lp (0+i*9) 9=some (nZ (some a)),Int.ofNat i=Int.ofNat i,i<n,gS lq (0+i*17) 17=some (gI none),aA (nZ (some a))=aA (nZ (some a)),aA (gI none)=aA (gI none),Int.ofNat i=Int.ofNat i,i<n,cellAt lp (0+i*9+8)=some (.bool (uY (some a))),Int.ofNat i=Int.ofNat i,i<n,cellAt lq (0+i*17+16)=some (.bool (uY (none:Pt Q2))),aH .add .i64 (Int.ofNat i) 1=some (iI (i+1))],.nrm,pP n m m' lp lq (i+1) (W::r)):=by kernel_rfl
theorem aYK (n m m' i:Nat) (lp lq:List At) (a:Fq×Fq) (q:Q2×Q2):bE prog (qR i (some a) (some q) a q) oF (cP (DS (some a) (some q) a q) (lR i)) 40 AK (pP n m m' lp lq i []) (pP n m m' lp lq (i+1) [bW (a,q)])=some ([aH .lss .i64 (Int.ofNat i) (Int.ofNat n)=some (.bool true),Int.ofNat i=Int.ofNat i,i<n,gS lp (0+i*9) 9=some (nZ (some a)),Int.ofNat i=Int.ofNat i,i<n,gS lq (0+i*17) 17=some (gI (some q)),aA (nZ (some a))=aA (nZ (some a)),aA (gI (some q))=aA (gI (some q)),Int.ofNat i=Int.ofNat i,i<n,cellAt lp (0+i*9+8)=some (.bool (uY (some a))),Int.ofNat i=Int.ofNat i,i<n,cellAt lq (0+i*17+16)=some (.bool (uY (some q))),Int.ofNat i=Int.ofNat i,i<n,gS lp (0+i*9) 9=some (KT a),Int.ofNat i=Int.ofNat i,i<n,gS lq (0+i*17) 17=some (kF q),aA (KT a)=aA (KT a),aA (kF q)=aA (kF q),aH .add .i64 (Int.ofNat i) 1=some (iI (i+1))],.nrm,pP n m m' lp lq (i+1) [bW (a,q)]):=by kernel_rfl
theorem aYJ (n m m' i:Nat) (lp lq:List At) (a:Fq×Fq) (q:Q2×Q2) (W0:Wk):bE prog (qR i (some a) (some q) a q) oF (cP (DS (some a) (some q) a q) (lR i)) 40 AK (pP n m m' lp lq i [W0]) (pP n m m' lp lq (i+1) [W0,bW (a,q)])=some ([aH .lss .i64 (Int.ofNat i) (Int.ofNat n)=some (.bool true),Int.ofNat i=Int.ofNat i,i<n,gS lp (0+i*9) 9=some (nZ (some a)),Int.ofNat i=Int.ofNat i,i<n,gS lq (0+i*17) 17=some (gI (some q)),aA (nZ (some a))=aA (nZ (some a)),aA (gI (some q))=aA (gI (some q)),Int.ofNat i=Int.ofNat i,i<n,cellAt lp (0+i*9+8)=some (.bool (uY (some a))),Int.ofNat i=Int.ofNat i,i<n,cellAt lq (0+i*17+16)=some (.bool (uY (some q))),Int.ofNat i=Int.ofNat i,i<n,gS lp (0+i*9) 9=some (KT a),Int.ofNat i=Int.ofNat i,i<n,gS lq (0+i*17) 17=some (kF q),aA (KT a)=aA (KT a),aA (kF q)=aA (kF q),aH .add .i64 (Int.ofNat i) 1=some (iI (i+1))],.nrm,pP n m m' lp lq (i+1) [W0,bW (a,q)]):=by kernel_rfl
theorem aYI (n m m' i:Nat) (lp lq:List At) (a:Fq×Fq) (q:Q2×Q2) (W0 W1:Wk):bE prog (qR i (some a) (some q) a q) oF (cP (DS (some a) (some q) a q) (lR i)) 40 AK (pP n m m' lp lq i [W0,W1]) (pP n m m' lp lq (i+1) [W0,W1,bW (a,q)])=some ([aH .lss .i64 (Int.ofNat i) (Int.ofNat n)=some (.bool true),Int.ofNat i=Int.ofNat i,i<n,gS lp (0+i*9) 9=some (nZ (some a)),Int.ofNat i=Int.ofNat i,i<n,gS lq (0+i*17) 17=some (gI (some q)),aA (nZ (some a))=aA (nZ (some a)),aA (gI (some q))=aA (gI (some q)),Int.ofNat i=Int.ofNat i,i<n,cellAt lp (0+i*9+8)=some (.bool (uY (some a))),Int.ofNat i=Int.ofNat i,i<n,cellAt lq (0+i*17+16)=some (.bool (uY (some q))),Int.ofNat i=Int.ofNat i,i<n,gS lp (0+i*9) 9=some (KT a),Int.ofNat i=Int.ofNat i,i<n,gS lq (0+i*17) 17=some (kF q),aA (KT a)=aA (KT a),aA (kF q)=aA (kF q),aH .add .i64 (Int.ofNat i) 1=some (iI (i+1))],.nrm,pP n m m' lp lq (i+1) [W0,W1,bW (a,q)]):=by kernel_rfl
theorem aYH (n m m' i:Nat) (lp lq:List At) (a:Fq×Fq) (q:Q2×Q2) (W0 W1 W2:Wk):bE prog (qR i (some a) (some q) a q) oF (cP (DS (some a) (some q) a q) (lR i)) 40 AK (pP n m m' lp lq i [W0,W1,W2]) (pP n m m' lp lq (i+1) [W0,W1,W2,bW (a,q)])=some ([aH .lss .i64 (Int.ofNat i) (Int.ofNat n)=some (.bool true),Int.ofNat i=Int.ofNat i,i<n,gS lp (0+i*9) 9=some (nZ (some a)),Int.ofNat i=Int.ofNat i,i<n,gS lq (0+i*17) 17=some (gI (some q)),aA (nZ (some a))=aA (nZ (some a)),aA (gI (some q))=aA (gI (some q)),Int.ofNat i=Int.ofNat i,i<n,cellAt lp (0+i*9+8)=some (.bool (uY (some a))),Int.ofNat i=Int.ofNat i,i<n,cellAt lq (0+i*17+16)=some (.bool (uY (some q))),Int.ofNat i=Int.ofNat i,i<n,gS lp (0+i*9) 9=some (KT a),Int.ofNat i=Int.ofNat i,i<n,gS lq (0+i*17) 17=some (kF q),aA (KT a)=aA (KT a),aA (kF q)=aA (kF q),aH .add .i64 (Int.ofNat i) 1=some (iI (i+1))],.nrm,pP n m m' lp lq (i+1) [W0,W1,W2,bW (a,q)]):=by kernel_rfl
theorem aYG (n m m' i:Nat) (lp lq:List At) (a:Fq×Fq) (q:Q2×Q2) (W0 W1 W2 W3:Wk):bE prog (qR i (some a) (some q) a q) oF (cP (DS (some a) (some q) a q) (lR i)) 40 AK (pP n m m' lp lq i [W0,W1,W2,W3]) (pP n m m' lp lq (i+1) [W0,W1,W2,W3,bW (a,q)])=some ([aH .lss .i64 (Int.ofNat i) (Int.ofNat n)=some (.bool true),Int.ofNat i=Int.ofNat i,i<n,gS lp (0+i*9) 9=some (nZ (some a)),Int.ofNat i=Int.ofNat i,i<n,gS lq (0+i*17) 17=some (gI (some q)),aA (nZ (some a))=aA (nZ (some a)),aA (gI (some q))=aA (gI (some q)),Int.ofNat i=Int.ofNat i,i<n,cellAt lp (0+i*9+8)=some (.bool (uY (some a))),Int.ofNat i=Int.ofNat i,i<n,cellAt lq (0+i*17+16)=some (.bool (uY (some q))),Int.ofNat i=Int.ofNat i,i<n,gS lp (0+i*9) 9=some (KT a),Int.ofNat i=Int.ofNat i,i<n,gS lq (0+i*17) 17=some (kF q),aA (KT a)=aA (KT a),aA (kF q)=aA (kF q),aH .add .i64 (Int.ofNat i) 1=some (iI (i+1))],.nrm,pP n m m' lp lq (i+1) [W0,W1,W2,W3,bW (a,q)]):=by kernel_rfl
theorem p_x (n m m' i:Nat) (lp lq:List At):bE prog q0 oF (cP tP [(23,.bool false)]) 40 AK (pP n m m' lp lq i []) (pA3 [])=some ([aH .lss .i64 (Int.ofNat i) (Int.ofNat n)=some (.bool false)],.ex 0,pA3 []):=by kernel_rfl
theorem p_y (n m m' i:Nat) (lp lq:List At) (W:Wk) (r:List Wk):bE prog q0 oF (cP tP [(23,.bool false)]) 40 AK (pP n m m' lp lq i (W::r)) (pA3 (W::r))=some ([aH .lss .i64 (Int.ofNat i) (Int.ofNat n)=some (.bool false)],.ex 0,pA3 (W::r)):=by kernel_rfl
abbrev Pq:=(Fq×Fq)×(Q2×Q2)
def DP:Pt Fq→Pt Q2→List Pq
 | some a,some q=>[(a,q)]
 | _,_=>[]
def jP:List (C1×C2)→List Pq
 | []=>[]
 | x::r=>DP x.1.1 x.2.1++jP r
theorem Bz:∀a b:List (C1×C2),jP (a++b)=jP a++jP b
 | [],b=>rfl
 | x::a,b=>by show DP _ _++jP (a++b)=(DP _ _++jP a)++jP b; rw[Bz a b,List.append_assoc]
theorem JF:∀l:List (C1×C2),(jP l).length≤l.length
 | []=>Nat.le_refl _
 | x::r=>by
  show (DP x.1.1 x.2.1++jP r).length≤r.length+1;rw[List.length_append];have h:=JF r;have h2:(DP x.1.1 x.2.1).length≤1:=by unfold DP; split<;>simp
  omega
theorem Xt {L:List (C1×C2)} {i:Nat} {x:C1×C2} (h:L[i]?=some x):jP (L.take (i+1))=jP (L.take i)++DP x.1.1 x.2.1:=by
 obtain⟨a,b,_,_,h1,_,h2,_⟩:=nS h;rw[h1,h2,Bz];show jP a++(DP x.1.1 x.2.1++[])=_;rw[List.append_nil]
theorem Qo:∀(l:List (C1×C2)),∀x∈jP l,On F2 dE (some x.2)
 | [],x,h=>by cases h
 | y::r,x,h=>by
  rcases List.mem_append.1 h with h|h
  ·obtain⟨⟨p,hp⟩,⟨q,hq⟩⟩:=y;cases p with
   | none=>cases h
   | some a =>
    cases q with
    | none=>cases h
    | some q=>cases List.mem_singleton.1 h; exact hq
  ·exact Qo r x h
section
variable {n m m' i base:Nat} {lp lq:List At} {w0 w:World} {a:Act} {Q0:Exit→Act→World→Prop}
theorem kD {T:Tab} (h:TabOk prog T) (l:List (Nat×Value)):∀n d,TabOkW prog ((cP T l n).T d) base w0:=fun _ _=>h.w _ _
theorem aBk (x:C1×C2) (hG:sD x.2) (hr:rdA n i lp lq x.1.1 x.2.1) (hn:n≤5) {l:List Pq} (hl:l.length≤i) (h:Holds oF base w0 (pP n m m' lp lq i (l.map bW)) a w)
  {R:Act→World→Prop} (hR:∀a w,Holds oF base w0 (pP n m m' lp lq (i+1) ((l++DP x.1.1 x.2.1).map bW)) a w→R a w):AK.wp prog (Exit.then R Q0) a w:=by
 obtain⟨hi,s1,s2,c1,c2⟩:=hr;obtain⟨⟨p,hp⟩,⟨q,hq⟩⟩:=x;have hk:=fun y z=>aUY ⟨p,hp⟩ (Q:=⟨q,hq⟩) hG y z
 have ha:aH .add .i64 (Int.ofNat i) 1=some (iI (i+1)):=pR (k:=1) (by omega);dsimp only at s1 s2 c1 c2 hk hR;cases p with
 | none =>
  have e:l++DP none q=l:=List.append_nil l;rw[e]at hR;cases q with
  | none =>
   cases hW:l.map bW with
   | nil=>rw[hW]at h hR; exact aF aG (kD (hk zq UO) _) (jT (eV _) _ _) (aUO n m m' i lp lq) ⟨cK hi,rfl,hi,s1,rfl,hi,s2,rfl,rfl,rfl,hi,c1,ha,trivial⟩ h fun a w hA=>hR a w hA
   | cons W r=>rw[hW]at h hR; exact aF aG (kD (hk zq UO) _) (jT (eV _) _ _) (aUN n m m' i lp lq W r) ⟨cK hi,rfl,hi,s1,rfl,hi,s2,rfl,rfl,rfl,hi,c1,ha,trivial⟩ h fun a w hA=>hR a w hA
  | some q =>
   cases hW:l.map bW with
   | nil=>rw[hW]at h hR; exact aF aG (kD (hk zq UO) _) (jT (eV _) _ _) (aUM n m m' i lp lq q) ⟨cK hi,rfl,hi,s1,rfl,hi,s2,rfl,rfl,rfl,hi,c1,ha,trivial⟩ h fun a w hA=>hR a w hA
   | cons W r=>rw[hW]at h hR; exact aF aG (kD (hk zq UO) _) (jT (eV _) _ _) (aUL n m m' i lp lq q W r) ⟨cK hi,rfl,hi,s1,rfl,hi,s2,rfl,rfl,rfl,hi,c1,ha,trivial⟩ h fun a w hA=>hR a w hA
 | some pa =>
  cases q with
  | none =>
   have e:l++DP (some pa) none=l:=List.append_nil l;rw[e]at hR;cases hW:l.map bW with
   | nil=>rw[hW]at h hR; exact aF aG (kD (hk zq UO) _) (jT (eV _) _ _) (aYM n m m' i lp lq pa) ⟨cK hi,rfl,hi,s1,rfl,hi,s2,rfl,rfl,rfl,hi,c1,rfl,hi,c2,ha,trivial⟩ h fun a w hA=>hR a w hA
   | cons W r=>rw[hW]at h hR; exact aF aG (kD (hk zq UO) _) (jT (eV _) _ _) (aYL n m m' i lp lq pa W r) ⟨cK hi,rfl,hi,s1,rfl,hi,s2,rfl,rfl,rfl,hi,c1,rfl,hi,c2,ha,trivial⟩ h fun a w hA=>hR a w hA
  | some qq =>
   have e:(l++DP (some pa) (some qq)).map bW=l.map bW++[bW (pa,qq)]:=List.map_append;rw[e]at hR;have hlW:(l.map bW).length≤4:=by rw[List.length_map]; omega
   match hW:l.map bW,hlW with
   | [],_=>rw[hW]at h hR; exact aF aG (kD (hk pa qq) _) (jT (eV _) _ _) (aYK n m m' i lp lq pa qq) ⟨cK hi,rfl,hi,s1,rfl,hi,s2,rfl,rfl,rfl,hi,c1,rfl,hi,c2,rfl,hi,s1,rfl,hi,s2,rfl,rfl,ha,trivial⟩ h fun a w hA=>hR a w hA
   | [W0],_=>rw[hW]at h hR; exact aF aG (kD (hk pa qq) _) (jT (eV _) _ _) (aYJ n m m' i lp lq pa qq W0) ⟨cK hi,rfl,hi,s1,rfl,hi,s2,rfl,rfl,rfl,hi,c1,rfl,hi,c2,rfl,hi,s1,rfl,hi,s2,rfl,rfl,ha,trivial⟩ h fun a w hA=>hR a w hA
   | [W0,W1],_=>rw[hW]at h hR; exact aF aG (kD (hk pa qq) _) (jT (eV _) _ _) (aYI n m m' i lp lq pa qq W0 W1) ⟨cK hi,rfl,hi,s1,rfl,hi,s2,rfl,rfl,rfl,hi,c1,rfl,hi,c2,rfl,hi,s1,rfl,hi,s2,rfl,rfl,ha,trivial⟩ h fun a w hA=>hR a w hA
   | [W0,W1,W2],_=>rw[hW]at h hR; exact aF aG (kD (hk pa qq) _) (jT (eV _) _ _) (aYH n m m' i lp lq pa qq W0 W1 W2) ⟨cK hi,rfl,hi,s1,rfl,hi,s2,rfl,rfl,rfl,hi,c1,rfl,hi,c2,rfl,hi,s1,rfl,hi,s2,rfl,rfl,ha,trivial⟩ h fun a w hA=>hR a w hA
   | [W0,W1,W2,W3],_=>rw[hW]at h hR; exact aF aG (kD (hk pa qq) _) (jT (eV _) _ _) (aYG n m m' i lp lq pa qq W0 W1 W2 W3) ⟨cK hi,rfl,hi,s1,rfl,hi,s2,rfl,rfl,rfl,hi,c1,rfl,hi,c2,rfl,hi,s1,rfl,hi,s2,rfl,rfl,ha,trivial⟩ h fun a w hA=>hR a w hA
   | _::_::_::_::_::_,h5=>exact absurd h5 (by simp)
theorem Vx {L:List (C1×C2)} (hn:L.length=n) (h5:n≤5) (hG:∀x∈L,sD x.2) (hlp:lp=aOR (L.map Prod.fst)) (hlq:lq=aOQ (L.map Prod.snd)) (h:Holds oF base w0 (pP n m m' lp lq 0 []) a w)
  (hQ:∀a w,Holds oF base w0 (pA3 ((jP L).map bW)) a w→Q0 .normal a w):(Code.block 0 (.loop AK)).wp prog Q0 a w:=by
 refine wp_block ?_;refine pU (fun i a w=>Holds oF base w0 (pP n m m' lp lq i ((jP (L.take i)).map bW)) a w) n (fun i hi a w hA R hR => ?_) (fun a w hA R => ?_) (by rw[List.take_zero]; exact h)
 ·obtain⟨x,hx⟩:∃x,L[i]?=some x:=⟨_,List.getElem?_eq_getElem (by omega)⟩
  have hlen:(jP (L.take i)).length≤i:=Nat.le_trans (JF _) (by rw[List.length_take]; omega);refine aBk x (hG x (List.mem_of_getElem? hx)) ?_ h5 hlen hA fun a w hA => ?_
  ·rw[hlp,hlq];exact aOK hi (by rw[List.getElem?_map,hx]; rfl) (by rw[List.getElem?_map,hx]; rfl)
  ·rw[←Xt hx]at hA;exact hR a w hA
 ·have e:L.take n=L:=by rw[←hn,List.take_length]
  rw[e]at hA;cases hW:(jP L).map bW with
  | nil =>
   rw[hW]at hA hQ;exact aF aG (kD mK _) (gV _ _) (p_x n m m' n lp lq) ⟨gQ (Nat.le_refl _),trivial⟩ hA fun a w hA=>hQ a w hA
  | cons W r =>
   rw[hW]at hA hQ;exact aF aG (kD mK _) (gV _ _) (p_y n m m' n lp lq W r) ⟨gQ (Nat.le_refl _),trivial⟩ hA fun a w hA=>hQ a w hA
end
def aQH:kI
 | [.v (.im v)]=>some ([v=.slice none 0 0],.one (.fl (aQ aD.one)))
 | _=>none
theorem aKn:∀cs pre r,aQH cs=some (pre,r)→aZ pre→∀(args:List Value) (w:World),bU w cs args→Good prog 15 r args w:=by
 intro cs pre r hg hp args w ha;unfold aQH at hg;split at hg
 ·cases hg;obtain⟨rfl,_⟩:=hp;exact aB aG (fun _ _=>aUZ) (aJ _) func15 aHM ⟨rfl,trivial⟩ ha
 ·cases hg
def Ys:Tab:=(tP.add 15 aQH).add 14 (g1 qO oLa)
theorem Og:TabOk prog Ys:=(mK.add func15 (by kernel_rfl) (by kernel_rfl) aKn).add func14 (by kernel_rfl) (by kernel_rfl) (bJ (op:=oLa) eW fun z hp args w ha=>wla z hp.1 args w ha)
def pZ (z:aV):List Fact:=[.slot 4 (.pt 4 0),.row 4 true (aQ (mC z)),.slot 5 (.im (.int .i64 0))]
theorem aUK:bE prog q0 oF (cP Ys []) 40 Yx (pA3 []) (pZ aD.one)=some ([Value.slice none 0 0=.slice none 0 0,aD.one≠aD.zero],.rt,pZ aD.one):=by kernel_rfl
def pB1 (W:Wk) (r:List Wk):List Fact:=[.slot 4 (.pt 4 0),.row 4 true (aQ aD.zero),.slot 65 (.so 63 (r.length+1)),.row 63 true (rows (W::r))]
def pB2 (z:aV):List Fact:=[.slot 4 (.pt 4 0),.row 4 true (aQ aD.zero),.slot 66 (.fl (aQ z))]
theorem aYF (W:Wk) (r:List Wk):xU prog q0 oF (cP Ys [] 0) ((eI (cA Yx)).extract 0 1) (pA3 (W::r)) (pB1 W r)=some ([],pB1 W r):=by kernel_rfl
theorem aYE (z:aV):xU prog q0 oF (cP Ys [] 0) ((eI (cA Yx)).extract 2 5) (pB2 z) (pZ z)=some ([z≠aD.zero],pZ z):=by kernel_rfl
theorem aBM:Yx=.seq (cA Yx) .ret:=by kernel_rfl
theorem aBN {base:Nat} {β:Nat→Bk} {a:Act} {w w':World} {d k b:Nat} {M:List Fact} {l0 l':List At} (v:TV) (h:d<a.tmps.size) (hkd:k≠d) (hrow:Fact.row k true l0∈M) (hat:Fact.at k b∈M) (hM:∀φ∈M,φ.ok base β a w)
  (hwr:WrC w w' b) (hrg:w'.rangeAt b 0 (aA l')):PostB base β β a w (some d) M [.slot d v.av,.row k true l'] (some k) (a.put (some d) v.den) w':=by
 obtain⟨r1,r2,r3,r4⟩:=hM _ hrow;obtain⟨r5,r6,r7⟩:=r3 rfl;obtain⟨e1,e2⟩:=hM _ hat;refine⟨kQ _ _ _,fP _ _ _,fun s hs=>lZ _ _ _ _ hs,fun _ _=>rfl,hwr.below.size,fun p hp hne=>hwr.mem p hp (by rw[←e1]; exact hne k rfl),hwr.shape,fun w0 h0=>h0.trans (hwr.below.mono (by omega)),fun φ hφ => ?_,fun k' l1 hk => ?_,fun k1 k2 l1 l2 hk hk' => ?_,fun k' hk => ?_,fun k' l1 hk=>by cases v<;>simp[TV.av]at hk⟩
 ·simp only[List.mem_cons,List.not_mem_nil,or_false]at hφ
  rcases hφ with rfl|rfl
  ·show (a.put (some d) _).tmps[d]?=_;rw[iQ _ _ _ h,TV.av_den]
  ·exact⟨Nat.lt_of_lt_of_le r1 hwr.below.size,by rw[e1,e2]; exact hrg,fun _=>⟨r5,r6,fun q=>by rw[e1]; exact hwr.free q⟩,fun h=>by cases h⟩
 ·simp only[List.mem_cons,List.not_mem_nil,or_false]at hk
  rcases hk with hk|hk
  ·cases v<;>cases hk
  ·cases hk;exact Or.inr (Or.inl ⟨fun e=>hkd (by injection e with e; exact e.symm),l0,hrow⟩)
 ·simp only[List.mem_cons,List.not_mem_nil,or_false]at hk hk'
  rcases hk with hk|hk
  ·cases v<;>cases hk
  ·rcases hk' with hk'|hk'
   ·cases v<;>cases hk'
   ·cases hk; cases hk'; rfl
 ·cases hk;exact⟨l0,hrow⟩
theorem Holds.soAt {nt base:Nat} {w0:World} {A:List Fact} {a:Act} {w:World} (h:Holds nt base w0 A a w) {s k n b:Nat} {l:List At} (h1:Fact.slot s (.so k n)∈A) (h2:Fact.at k b∈A) (h3:Fact.row k true l∈A):∃cap,a.tmps[s]?=some (dG b 0 n cap)∧Own w b l:=by
 obtain⟨β,g1,_⟩:=h.facts;have e1:=g1 _ h1;have e2:=g1 _ h2;obtain⟨e3,e4,e5,_⟩:=g1 _ h3;obtain⟨_,_,e6⟩:=e5 rfl;simp only[Fact.ok]at e1 e2;refine⟨(β k).2.2,by rw[e1]; simp[AV.den,e2,dG],by rw[←e2.1]; exact e3,?_,fun j=>by rw[←e2.1]; exact e6 j⟩;rw[e2.1,e2.2]at e4;exact e4
theorem Ht {R:Type} (K:CR R) (x:R) (l:List R):dZ K (x::l)=K.mul x (dZ K l):=rfl
theorem Wg (M:Pq→aV) (x:Pq) (l:List Pq):dZ aD ((x::l).map M)=aD.mul (M x) (dZ aD (l.map M)):=by rw[List.map_cons,Ht]
theorem aFU (M:Pq→aV) (hM:∀(a:Fq×Fq) (q:Q2×Q2) (hp:On F1 (fm 3) (some a)) (hq:On F2 dE (some q)),sD ⟨some q,hq⟩→M (a,q)≠aD.zero∧lv (M (a,q))=UR ⟨some a,hp⟩ ⟨some q,hq⟩) :
  ∀L:List (C1×C2),(∀x∈L,sD x.2)→dZ aD ((jP L).map M)≠aD.zero∧lv (dZ aD ((jP L).map M))=L.foldr (fun x s=>vg.add (UR x.1 x.2) s) vg.zero
 | [],_=>⟨jJ.1,AY ⟨jJ.1,yN⟩⟩
 | x::r,hG=>by
  obtain⟨h1,h2⟩:=aFU M hM r fun y hy=>hG y (List.mem_cons_of_mem _ hy)
  have hx:=hG x List.mem_cons_self;obtain⟨⟨p,hp⟩,⟨q,hq⟩⟩:=x;rw[List.foldr_cons,←h2];cases p with
  | none =>
   have e:UR ⟨none,hp⟩ ⟨q,hq⟩=vg.zero:=aSl hx;have ef:jP ((⟨none,hp⟩,⟨q,hq⟩)::r)=jP r:=by cases q<;>rfl
   rw[ef];dsimp only;rw[e,vg.zadd];exact⟨h1,rfl⟩
  | some a =>
   cases q with
   | none =>
    have e:UR ⟨some a,hp⟩ ⟨none,hq⟩=vg.zero:=aSk _;have ef:jP ((⟨some a,hp⟩,⟨none,hq⟩)::r)=jP r:=rfl;rw[ef];dsimp only;rw[e,vg.zadd];exact⟨h1,rfl⟩
   | some q =>
    obtain⟨m1,m2⟩:=hM a q hp hq hx;have ef:jP ((⟨some a,hp⟩,⟨some q,hq⟩)::r)=(a,q)::jP r:=rfl;rw[ef,Wg];dsimp only;rw[←m2,RP m1 h1];exact⟨nY m1 h1,rfl⟩
theorem aJO (L:List (C1×C2)) (hG:∀x∈L,sD x.2):dZ aD ((jP L).map fun x=>mil x.1 x.2)≠aD.zero∧lv (dZ aD ((jP L).map fun x=>mil x.1 x.2))=L.foldr (fun x s=>vg.add (UR x.1 x.2) s) vg.zero :=
 aFU (fun x=>mil x.1 x.2) (fun a q hp hq h=>aJN (P:=⟨some a,hp⟩) (a:=a) rfl (Q:=⟨some q,hq⟩) (q:=q) rfl h) L hG
def aXd (L:List (C1×C2)):Vq:=L.foldr (fun x s=>vg.add (UR x.1 x.2) s) vg.zero
theorem aDr (L:List (C1×C2)) (hG:∀x∈L,sD x.2):yO (jP L)≠aD.zero∧mC (yO (jP L))=(aXd L).1:=by
 obtain⟨h1,h2⟩:=aJO L hG;rw[Bf];refine⟨h1,?_⟩;rw[←dD h1,h2];rfl
theorem GM {w w':World} {a:Act} {z:aV} (hA:Holds oF w.heap.size w (pZ z) a w'):bodyPost prog f5 (fun e w'=>e=.returned (RV.many [.fl (aQ (mC z)),.im (.int .i64 0)]).den∧Below w.heap.size w w') .ret a w' :=
 gZ (l:=[.fl (aQ (mC z)),.im (.int .i64 0)]) (by kernel_rfl) (by kernel_rfl) hA
theorem Xu (l:List Pq) (h:l=[]):yO l=aD.one:=by
 rw[h,Bf];rfl
theorem uZ (L:List (C1×C2)) (h5:L.length≤5) (hG:∀x∈L,sD x.2) {m m':Nat} {args:List Value} {w:World} (ha:bU w [.s (aOR (L.map Prod.fst)) L.length m,.s (aOQ (L.map Prod.snd)) L.length m'] args) :
  Good prog 5 (.many [.fl (aQ (aXd L).1),.im (.int .i64 0)]) args w:=by
 obtain⟨hz,hv⟩:=aDr L hG;rw[←hv];refine fT func5 (c:=gM) rfl ha (Nat.le_of_ble_eq_true (by kernel_rfl)) fun a w1 hA => ?_
 rw[Mx];refine wp_seq (aF aG (kD mK _) (gV _ _) (aYD L.length m m' _ _) trivial hA fun a w2 hA => ?_);refine wp_seq (aF aG (kD mK _) (gV _ _) (aYC L.length m m' _ _) ⟨by rw[Ou,decide_eq_false (fun h=>h rfl)],by rw[show (256:Int)=Int.ofNat 256 from rfl,NJ,decide_eq_false (by omega)],trivial⟩ hA fun a w3 hA => ?_);refine wp_seq (aF aG (kD mK _) (gV _ _) (aYB L.length m m' _ _) trivial hA fun a w4 hA => ?_);refine wp_seq (wp_seq (aF aG (kD mK _) (gV _ _) (aYA L.length m m' _ _) trivial hA fun a w5 hA => ?_));refine Vx rfl h5 hG rfl rfl hA fun a w6 hA => ?_
 clear hv;cases hf:jP L with
 | nil =>
  rw[hf]at hA hz;rw[Xu [] rfl]at hz ⊢;exact aF aG (kD Og _) (gV _ _) aUK ⟨rfl,hz,trivial⟩ hA fun a w7 hA=>GM hA
 | cons x r =>
  have hon:∀y∈(x::r:List Pq),On F2 dE (some y.2):=fun y hy=>Qo L y (by rw[hf]; exact hy)
  have hlen:(x::r:List Pq).length<4611686018427387904:=by
   have:=JF L;rw[hf]at this;omega
  rw[hf]at hA hz;show Yx.wp _ _ _ _;rw[aBM];refine wp_seq (tU (l:=List.range' 0 ((eI (cA Yx)).extract 0 1).size++(1::(List.range' 2 ((eI (cA Yx)).extract 2 5).size++[]))) (by kernel_rfl) ?_);refine dO (c:=cP Ys [] 0) (fun d=>Og.w _ _) (gV _ _) (aYF (bW x) (r.map bW)) trivial (by kernel_rfl) hA fun a w7 hA => ?_
  obtain⟨b,hA⟩:=hA.at (k:=63) (l:=rows (bW x::r.map bW)) (by simp[pB1]);obtain⟨cap,h65,hO⟩:=hA.soAt (s:=65) (k:=63) (n:=(r.map bW).length+1) (b:=b) (l:=rows (bW x::r.map bW)) (by simp[pB1]) (by simp) (by simp[pB1]);rw[List.length_map]at h65;obtain⟨L',hc⟩:=Xi (x::r) hlen hon (b:=b) (m:=cap) (w:=w7) hO;obtain⟨o,ho,hoo,hod,hog⟩:∃o,(eI (cA Yx))[1]?=some o∧(∃ts,o.op=.call ⟨.value (.func 15),#[.tmp 65],ts⟩)∧o.dst=some 66∧o.guard=none:=⟨_,rfl,⟨_,rfl⟩,rfl,rfl⟩
  obtain⟨ts,hoo⟩:=hoo;refine pE ho hog (FA hoo (vs:=[dG b 0 (x::r).length cap]) (by simp[Act.eval,h65]) (fV func15 (by kernel_rfl) (by kernel_rfl) · _) hc fun e w8 hR => ?_);obtain⟨rfl,h1,h2⟩:=hR;refine⟨_,rfl,?_⟩;rw[hod];have hA:=hA.post (dst:=some 66) (kill:=some 63) fun β hβ=>⟨_,aBN (l0:=rows (bW x::r.map bW)) (b:=b) (.fl (aQ (yO (x::r)))) (by rw[hA.size]; exact Nat.le_of_ble_eq_true (by kernel_rfl)) (by decide) (by simp[pB1]) (by simp) hβ h1 h2⟩
  have hA:=hA.sub (A':=pB2 (yO (x::r))) fun φ hφ=>by
   simp only[pB2,List.mem_cons,List.not_mem_nil,or_false]at hφ
   rcases hφ with rfl|rfl|rfl
   ·exact List.mem_append_right _ (List.mem_filter.2 ⟨by simp[pB1],rfl⟩)
   ·exact List.mem_append_right _ (List.mem_filter.2 ⟨by simp[pB1],rfl⟩)
   ·exact List.mem_append_left _ List.mem_cons_self
  exact dO (c:=cP Ys [] 0) (fun d=>Og.w _ _) (gV _ _) (aYE (yO (x::r))) ⟨hz,trivial⟩ (by kernel_rfl) hA fun a w9 hA=>wp_ret (GM hA)
def Xl (v v2:Value):List Fact:=[.slot 0 (.im v),.slot 1 (.im v2),.slot 4 (.pt 4 0),.row 4 true (aQ aD.zero)]
def jpZ (z:aV) (e:Int):List Fact:=[.slot 4 (.pt 4 0),.row 4 true (aQ z),.slot 5 (.im (.int .i64 e))]
theorem aVz (v v2:Value):bE prog (qG prog) oF (jC rQ fun _=>none) 40 (cA gM) (nU 0 [.v (.im v),.v (.im v2)]) (Xl v v2)=some ([],.nrm,Xl v v2):=by kernel_rfl
theorem aVE (p q:Option Addr) (N m M m2:Nat):bE prog (qG prog) oF (jC rQ (assoc [(13,.bool true)])) 40 (cA (cB gM)) (Xl (.slice p N m) (.slice q M m2)) (jpZ aD.zero 3)=some ([aH .neq .i64 (Int.ofNat N) (Int.ofNat M)=some (.bool true)],.rt,jpZ aD.zero 3):=by kernel_rfl
theorem aVD (p q:Option Addr) (N m M m2:Nat):bE prog (qG prog) oF (jC rQ (assoc [(13,.bool false),(17,.bool true)])) 40 (cA (cB gM)) (Xl (.slice p N m) (.slice q M m2)) (jpZ aD.zero 3)=some ([aH .neq .i64 (Int.ofNat N) (Int.ofNat M)=some (.bool false),aH .gtr .i64 (Int.ofNat N) 256=some (.bool true)],.rt,jpZ aD.zero 3):=by kernel_rfl
theorem aVA (p q:Option Addr) (N m M m2:Nat):bE prog (qG prog) oF (jC rQ (assoc [(13,.bool false),(17,.bool false)])) 40 (cA (cB gM)) (Xl (.slice p N m) (.slice q M m2)) (Xl (.slice p N m) (.slice q M m2))=some ([aH .neq .i64 (Int.ofNat N) (Int.ofNat M)=some (.bool false),aH .gtr .i64 (Int.ofNat N) 256=some (.bool false)],.nrm,Xl (.slice p N m) (.slice q M m2)):=by kernel_rfl
def uS:List Fact:=[.slot 6 (.im (.slice none 0 0))]
def Xk (k:Nat) (Z:List At):List Fact:=[.slot 6 (.so 63 k),.row 63 true Z,.app 63 54 50 k]
theorem aVJ (v v2:Value):bE prog (qG prog) oF (jC rQ fun _=>none) 40 (cA (cB (cB gM))) (Xl v v2) (Xl v v2++uS)=some ([],.nrm,Xl v v2++uS):=by kernel_rfl
def zN (v v2:Value) (N i:Nat) (R:List Fact):List Fact:=.slot 21 (.im (iI N)) :: .slot 22 (.im (iI i))::(Xl v v2++R)
theorem aVI (p:Option Addr) (N m:Nat) (v2:Value):bE prog (qG prog) oF (jC rQ fun _=>none) 40 (cA pr3) (Xl (.slice p N m) v2++uS) (zN (.slice p N m) v2 N 0 uS)=some ([],.nrm,zN (.slice p N m) v2 N 0 uS):=by kernel_rfl
theorem aZu (v v2:Value) (N i:Nat):bE prog (qG prog) oF (jC rQ (assoc [(23,.bool false)])) 40 AK (zN v v2 N i uS) (pA3 [])=some ([aH .lss .i64 (Int.ofNat i) (Int.ofNat N)=some (.bool false)],.ex 0,pA3 []):=by kernel_rfl
theorem aVH (w:World) (b o N m b' o' M m2 i:Nat) (p:iU) (q:cZ):bE prog { qG prog with x:=xj w (assoc [(27,i),(31,i),(40,i)]) (assoc [(28,eK p),(32,cJ q)]) (assoc [(42,.bool true)]) (assoc []) } oF (jC rQ (assoc [(23,.bool true),(35,.bool false),(64,iI (i+1))])) 60 AK (zN (dG b o N m) (dG b' o' M m2) N i uS) (zN (dG b o N m) (dG b' o' M m2) N (i+1) uS) =
  some ([aH .lss .i64 (Int.ofNat i) (Int.ofNat N)=some (.bool true),Int.ofNat i=Int.ofNat i,i<N,oldOf w b (o+i*9) (eK p),cF (eK p)=9,Int.ofNat i=Int.ofNat i,i<M,oldOf w b' (o'+i*17) (cJ q),cF (cJ q)=17,aH .neq .i64 (er p q) 0=some (.bool false),Int.ofNat i=Int.ofNat i,i<N,oldOf w b (o+i*9+8) [.c (.bool true)],aH .add .i64 (Int.ofNat i) 1=some (iI (i+1))],.nrm,zN (dG b o N m) (dG b' o' M m2) N (i+1) uS):=by kernel_rfl
theorem aVF (w:World) (b o N m b' o' M m2 i:Nat) (p:iU) (q:cZ):bE prog { qG prog with x:=xj w (assoc [(27,i),(31,i),(40,i),(47,i)]) (assoc [(28,eK p),(32,cJ q)]) (assoc [(42,.bool false),(49,.bool true)]) (assoc []) } oF (jC rQ (assoc [(23,.bool true),(35,.bool false),(64,iI (i+1))])) 60 AK (zN (dG b o N m) (dG b' o' M m2) N i uS) (zN (dG b o N m) (dG b' o' M m2) N (i+1) uS) =
  some ([aH .lss .i64 (Int.ofNat i) (Int.ofNat N)=some (.bool true),Int.ofNat i=Int.ofNat i,i<N,oldOf w b (o+i*9) (eK p),cF (eK p)=9,Int.ofNat i=Int.ofNat i,i<M,oldOf w b' (o'+i*17) (cJ q),cF (cJ q)=17,aH .neq .i64 (er p q) 0=some (.bool false),Int.ofNat i=Int.ofNat i,i<N,oldOf w b (o+i*9+8) [.c (.bool false)],Int.ofNat i=Int.ofNat i,i<M,oldOf w b' (o'+i*17+16) [.c (.bool true)],aH .add .i64 (Int.ofNat i) 1=some (iI (i+1))],.nrm,zN (dG b o N m) (dG b' o' M m2) N (i+1) uS):=by kernel_rfl
theorem aVC (w:World) (b o N m b' o' M m2 i:Nat) (p:iU) (q:cZ) (Z':List At):bE prog { qG prog with x:=xj w (assoc [(27,i),(31,i),(40,i),(47,i),(55,i),(59,i)]) (assoc [(28,eK p),(32,cJ q),(56,eK p),(60,cJ q)]) (assoc [(42,.bool false),(49,.bool false)]) (assoc [(63,(1,Z'))]) } oF (jC rQ (assoc [(23,.bool true),(35,.bool false),(64,iI (i+1))])) 60 AK (zN (dG b o N m) (dG b' o' M m2) N i uS) (zN (dG b o N m) (dG b' o' M m2) N (i+1) (Xk 1 Z')) =
  some ([aH .lss .i64 (Int.ofNat i) (Int.ofNat N)=some (.bool true),Int.ofNat i=Int.ofNat i,i<N,oldOf w b (o+i*9) (eK p),cF (eK p)=9,Int.ofNat i=Int.ofNat i,i<M,oldOf w b' (o'+i*17) (cJ q),cF (cJ q)=17,aH .neq .i64 (er p q) 0=some (.bool false),Int.ofNat i=Int.ofNat i,i<N,oldOf w b (o+i*9+8) [.c (.bool false)],Int.ofNat i=Int.ofNat i,i<M,oldOf w b' (o'+i*17+16) [.c (.bool false)],Int.ofNat i=Int.ofNat i,i<N,oldOf w b (o+i*9) (eK p),cF (eK p)=9,Int.ofNat i=Int.ofNat i,i<M,oldOf w b' (o'+i*17) (cJ q),cF (cJ q)=17,∀v∈aA (bgN p q),v.oneCell'=true,0<1,(0+1)*400≤140737488355328,0+1≤4611686018427387904,1=0+1,aA Z'=aA ([]++bgN p q),aH .add .i64 (Int.ofNat i) 1=some (iI (i+1))],.nrm,zN (dG b o N m) (dG b' o' M m2) N (i+1) (Xk 1 Z')):=by kernel_rfl
theorem aVy (w:World) (b o N m b' o' M m2 i:Nat) (p:iU) (q:cZ):bE prog { qG prog with x:=xj w (assoc [(27,i),(31,i)]) (assoc [(28,eK p),(32,cJ q)]) (assoc []) (assoc []) } oF (jC rQ (assoc [(23,.bool true),(35,.bool true)])) 60 AK (zN (dG b o N m) (dG b' o' M m2) N i uS) (jpZ aD.zero (er p q)) =
  some ([aH .lss .i64 (Int.ofNat i) (Int.ofNat N)=some (.bool true),Int.ofNat i=Int.ofNat i,i<N,oldOf w b (o+i*9) (eK p),cF (eK p)=9,Int.ofNat i=Int.ofNat i,i<M,oldOf w b' (o'+i*17) (cJ q),cF (cJ q)=17,aH .neq .i64 (er p q) 0=some (.bool true)],.rt,jpZ aD.zero (er p q)):=by kernel_rfl
theorem aVG (w:World) (b o N m b' o' M m2 i k:Nat) (p:iU) (q:cZ) (Z:List At):bE prog { qG prog with x:=xj w (assoc [(27,i),(31,i),(40,i)]) (assoc [(28,eK p),(32,cJ q)]) (assoc [(42,.bool true)]) (assoc []) } oF (jC rQ (assoc [(23,.bool true),(35,.bool false),(64,iI (i+1))])) 60 AK (zN (dG b o N m) (dG b' o' M m2) N i (Xk k Z)) (zN (dG b o N m) (dG b' o' M m2) N (i+1) (Xk k Z)) =
  some ([aH .lss .i64 (Int.ofNat i) (Int.ofNat N)=some (.bool true),Int.ofNat i=Int.ofNat i,i<N,oldOf w b (o+i*9) (eK p),cF (eK p)=9,Int.ofNat i=Int.ofNat i,i<M,oldOf w b' (o'+i*17) (cJ q),cF (cJ q)=17,aH .neq .i64 (er p q) 0=some (.bool false),Int.ofNat i=Int.ofNat i,i<N,oldOf w b (o+i*9+8) [.c (.bool true)],aH .add .i64 (Int.ofNat i) 1=some (iI (i+1))],.nrm,zN (dG b o N m) (dG b' o' M m2) N (i+1) (Xk k Z)):=by kernel_rfl
theorem aQh (w:World) (b o N m b' o' M m2 i k:Nat) (p:iU) (q:cZ) (Z:List At):bE prog { qG prog with x:=xj w (assoc [(27,i),(31,i),(40,i),(47,i)]) (assoc [(28,eK p),(32,cJ q)]) (assoc [(42,.bool false),(49,.bool true)]) (assoc []) } oF (jC rQ (assoc [(23,.bool true),(35,.bool false),(64,iI (i+1))])) 60 AK (zN (dG b o N m) (dG b' o' M m2) N i (Xk k Z)) (zN (dG b o N m) (dG b' o' M m2) N (i+1) (Xk k Z)) =
  some ([aH .lss .i64 (Int.ofNat i) (Int.ofNat N)=some (.bool true),Int.ofNat i=Int.ofNat i,i<N,oldOf w b (o+i*9) (eK p),cF (eK p)=9,Int.ofNat i=Int.ofNat i,i<M,oldOf w b' (o'+i*17) (cJ q),cF (cJ q)=17,aH .neq .i64 (er p q) 0=some (.bool false),Int.ofNat i=Int.ofNat i,i<N,oldOf w b (o+i*9+8) [.c (.bool false)],Int.ofNat i=Int.ofNat i,i<M,oldOf w b' (o'+i*17+16) [.c (.bool true)],aH .add .i64 (Int.ofNat i) 1=some (iI (i+1))],.nrm,zN (dG b o N m) (dG b' o' M m2) N (i+1) (Xk k Z)):=by kernel_rfl
theorem aVB (w:World) (b o N m b' o' M m2 i k:Nat) (p:iU) (q:cZ) (Z:List At) (Z':List At):bE prog { qG prog with x:=xj w (assoc [(27,i),(31,i),(40,i),(47,i),(55,i),(59,i)]) (assoc [(28,eK p),(32,cJ q),(56,eK p),(60,cJ q)]) (assoc [(42,.bool false),(49,.bool false)]) (assoc [(63,((k+1),Z'))]) } oF (jC rQ (assoc [(23,.bool true),(35,.bool false),(64,iI (i+1))])) 60 AK (zN (dG b o N m) (dG b' o' M m2) N i (Xk k Z)) (zN (dG b o N m) (dG b' o' M m2) N (i+1) (Xk (k+1) Z')) =
  some ([aH .lss .i64 (Int.ofNat i) (Int.ofNat N)=some (.bool true),Int.ofNat i=Int.ofNat i,i<N,oldOf w b (o+i*9) (eK p),cF (eK p)=9,Int.ofNat i=Int.ofNat i,i<M,oldOf w b' (o'+i*17) (cJ q),cF (cJ q)=17,aH .neq .i64 (er p q) 0=some (.bool false),Int.ofNat i=Int.ofNat i,i<N,oldOf w b (o+i*9+8) [.c (.bool false)],Int.ofNat i=Int.ofNat i,i<M,oldOf w b' (o'+i*17+16) [.c (.bool false)],Int.ofNat i=Int.ofNat i,i<N,oldOf w b (o+i*9) (eK p),cF (eK p)=9,Int.ofNat i=Int.ofNat i,i<M,oldOf w b' (o'+i*17) (cJ q),cF (cJ q)=17,k=k,cF Z=k*50,∀v∈aA (bgN p q),v.oneCell'=true,0<1,(k+1)*400≤140737488355328,k+1≤4611686018427387904,(k+1)=k+1,aA Z'=aA (Z++bgN p q),aH .add .i64 (Int.ofNat i) 1=some (iI (i+1))],.nrm,zN (dG b o N m) (dG b' o' M m2) N (i+1) (Xk (k+1) Z')):=by kernel_rfl
theorem aVx (w:World) (b o N m b' o' M m2 i k:Nat) (p:iU) (q:cZ) (Z:List At):bE prog { qG prog with x:=xj w (assoc [(27,i),(31,i)]) (assoc [(28,eK p),(32,cJ q)]) (assoc []) (assoc []) } oF (jC rQ (assoc [(23,.bool true),(35,.bool true)])) 60 AK (zN (dG b o N m) (dG b' o' M m2) N i (Xk k Z)) (jpZ aD.zero (er p q)) =
  some ([aH .lss .i64 (Int.ofNat i) (Int.ofNat N)=some (.bool true),Int.ofNat i=Int.ofNat i,i<N,oldOf w b (o+i*9) (eK p),cF (eK p)=9,Int.ofNat i=Int.ofNat i,i<M,oldOf w b' (o'+i*17) (cJ q),cF (cJ q)=17,aH .neq .i64 (er p q) 0=some (.bool true)],.rt,jpZ aD.zero (er p q)):=by kernel_rfl
def jst (s:Nat×List At) (p:iU) (q:cZ):Nat×List At:=match p.2.2,q.2.2 with
 | false,false=>(s.1+1,match s.1 with|0=>bgN p q|_=>s.2++bgN p q)
 | _,_=>s
def jN (ps:Nat→iU) (qs:Nat→cZ):Nat→Nat×List At
 | 0=>(0,[])
 | i+1=>jst (jN ps qs i) (ps i) (qs i)
def jpW (s:Nat×List At):List Fact:=match s.1 with
 | 0=>uS
 | k+1=>Xk (k+1) s.2
theorem aQf {s:Nat×List At} {i:Nat} (h1:s.1≤i) (h2:0<s.1→cF s.2=s.1*50) (p:iU) (q:cZ):(jst s p q).1≤i+1∧(0<(jst s p q).1→cF (jst s p q).2=(jst s p q).1*50):=by
 unfold jst;split
 ·refine⟨by show s.1+1≤_; omega,fun _ => ?_⟩;obtain⟨k,Z⟩:=s;cases k with
  | zero=>rfl
  | succ k =>
   show cF (Z++bgN p q)=(k+1+1)*50;rw[rE,h2 (Nat.succ_pos k),Nat.succ_mul (k+1)];rfl
 ·exact⟨by omega,h2⟩
theorem aDP (ps:Nat→iU) (qs:Nat→cZ):∀i,(jN ps qs i).1≤i∧(0<(jN ps qs i).1→cF (jN ps qs i).2=(jN ps qs i).1*50)
 | 0=>⟨Nat.le_refl _,fun h=>absurd h (Nat.lt_irrefl 0)⟩
 | i+1=>aQf (aDP ps qs i).1 (aDP ps qs i).2 _ _
theorem Sc (p:iU) (q:cZ):∀v∈aA (bgN p q),v.oneCell'=true:=by
 have h:(aA (bgN p q)).all Value.oneCell'=true:=by kernel_rfl
 exact fun v hv=>List.all_eq_true.1 h v hv
theorem aJW {w0:World} {b o N m b' o' m2 i:Nat} {ps:Nat→iU} {qs:Nat→cZ} (e1:b<w0.heap.size) (e2:w0.rangeAt b o (aA (fM (fun j=>eK (ps j)) 0 N))) (e3:b'<w0.heap.size) (e4:w0.rangeAt b' o' (aA (fM (fun j=>cJ (qs j)) 0 N))) (hi:i<N) (hN:N≤256) (he:er (ps i) (qs i)=0) :
  Ok prog w0.heap.size w0 oF AK (zN (dG b o N m) (dG b' o' N m2) N i (jpW (jN ps qs i))) .nrm (zN (dG b o N m) (dG b' o' N m2) N (i+1) (jpW (jN ps qs (i+1)))):=by
 have hT:∀n d:Nat,TabOkW prog rQ w0.heap.size w0:=fun _ _=>Oe.w _ _
 obtain⟨h1,h2⟩:=aDP ps qs i;show Ok _ _ _ _ _ _ _ (zN _ _ N (i+1) (jpW (jst (jN ps qs i) (ps i) (qs i))));generalize jN ps qs i=s at *;have f1:=Wu e1 e2 hi;have f2:=aCr e3 e4 hi;have ha:aH .add .i64 (Int.ofNat i) 1=some (iI (i+1)):=pR (k:=1) (by omega);have hl:=cK hi;generalize ps i=p at *;generalize qs i=q at *;obtain⟨k,Z⟩:=s;have h1:k≤i:=h1;obtain⟨x,y,t⟩:=p;obtain⟨x',y',t'⟩:=q;have g1:oldOf w0 b (o+i*9+8) [.c (.bool t)]:=aUV f1 rfl;have g2:oldOf w0 b' (o'+i*17+16) [.c (.bool t')]:=aUU f2 rfl;cases t with
 | true=>cases k with
  | zero=>exact⟨_,_,_,_,rR w0 _ _ _ _,hT,aVH w0 b o N m b' o' N m2 i _ _,hl,rfl,hi,f1,rfl,rfl,hi,f2,rfl,nzf he,rfl,hi,g1,ha,trivial⟩
  | succ k=>exact⟨_,_,_,_,rR w0 _ _ _ _,hT,aVG w0 b o N m b' o' N m2 i (k+1) _ _ Z,hl,rfl,hi,f1,rfl,rfl,hi,f2,rfl,nzf he,rfl,hi,g1,ha,trivial⟩
 | false=>cases t' with
  | true=>cases k with
   | zero=>exact⟨_,_,_,_,rR w0 _ _ _ _,hT,aVF w0 b o N m b' o' N m2 i _ _,hl,rfl,hi,f1,rfl,rfl,hi,f2,rfl,nzf he,rfl,hi,g1,rfl,hi,g2,ha,trivial⟩
   | succ k=>exact⟨_,_,_,_,rR w0 _ _ _ _,hT,aQh w0 b o N m b' o' N m2 i (k+1) _ _ Z,hl,rfl,hi,f1,rfl,rfl,hi,f2,rfl,nzf he,rfl,hi,g1,rfl,hi,g2,ha,trivial⟩
  | false=>cases k with
   | zero=>exact⟨_,_,_,_,rR w0 _ _ _ _,hT,aVC w0 b o N m b' o' N m2 i _ _ _,hl,rfl,hi,f1,rfl,rfl,hi,f2,rfl,nzf he,rfl,hi,g1,rfl,hi,g2,rfl,hi,f1,rfl,rfl,hi,f2,rfl,Sc _ _,by omega,by omega,by omega,rfl,rfl,ha,trivial⟩
   | succ k=>exact⟨_,_,_,_,rR w0 _ _ _ _,hT,aVB w0 b o N m b' o' N m2 i (k+1) _ _ Z _,hl,rfl,hi,f1,rfl,rfl,hi,f2,rfl,nzf he,rfl,hi,g1,rfl,hi,g2,rfl,hi,f1,rfl,rfl,hi,f2,rfl,rfl,h2 (Nat.succ_pos k),Sc _ _,by omega,by omega,by omega,rfl,rfl,ha,trivial⟩
theorem Ja {w0 w:World} {a:Act} {z:aV} (e:Int) (hA:Holds oF w0.heap.size w0 (jpZ z e) a w):bodyPost prog f5 (fun e' w'=>e'=.returned (RV.den (.many [.fl (aQ z),.im (.int .i64 e)]))∧Below w0.heap.size w0 w') .ret a w :=
 gZ (l:=[.fl (aQ z),.im (.int .i64 e)]) (r:=.many [.fl (aQ z),.im (.int .i64 e)]) (by kernel_rfl) (by kernel_rfl) hA
theorem Bn {w0:World} {p q:Option Addr} {N m M m2:Nat} {R:Ending→World→Prop} (hR:∀a w,Holds oF w0.heap.size w0 (Xl (.slice p N m) (.slice q M m2)) a w→(Code.seq (cA (cB gM)) (.seq (cA (cB (cB gM))) (.seq (.seq (cA pr3) (.block 0 (.loop AK))) Yx))).wp prog (bodyPost prog f5 R) a w):Calls prog 5 #[.slice p N m,.slice q M m2] w0 R:=by
 refine fT func5 (cs:=[.v (.im (.slice p N m)),.v (.im (.slice q M m2))]) (args:=[.slice p N m,.slice q M m2]) (c:=gM) rfl ⟨rfl,rfl,trivial⟩ (Nat.le_of_ble_eq_true (by kernel_rfl)) fun a w1 hA => ?_
 rw[Mx];exact wp_seq (aF aG (fun _ _=>Oe.w _ _) ((aJ _).w _ _) (aVz _ _) trivial hA fun a w1 hA=>hR a w1 hA)
theorem Jb {w0:World} {v v2:Value} {N:Nat} {ps:Nat→iU} {M:Nat} {qs:Nat→cZ} (hv:PV eK w0 v N ps) (hv2:PV cJ w0 v2 M qs) (he:Xp N ps M qs≠0):Good prog 5 (.many [.fl (aQ aD.zero),.im (.int .i64 (Xp N ps M qs))]) [v,v2] w0:=by
 have hG:dC prog (qG prog) w0.heap.size w0:=(aJ _).w _ _;have hT:∀n d:Nat,TabOkW prog rQ w0.heap.size w0:=fun _ _=>Oe.w _ _
 obtain⟨p,m,rfl,hm,hmem⟩:=hv;obtain⟨q,m2,rfl,hm2,hmem2⟩:=hv2;unfold Xp at he ⊢;refine Bn fun a w1 hA => ?_
 by_cases h1:N=M
 ·subst h1;rw[if_neg (fun q=>q rfl)]at he ⊢
  by_cases h2:256<N
  ·rw[if_pos h2];exact wp_seq (aF aG hT hG (aVD p q N m N m2) ⟨Ay rfl,IZ (decide_eq_true h2),trivial⟩ hA fun a w hA=>Ja 3 hA)
  ·rw[if_neg h2]at he ⊢;refine wp_seq (aF aG hT hG (aVA p q N m N m2) ⟨Ay rfl,IZ (decide_eq_false h2),trivial⟩ hA fun a w1 hA => ?_);refine wp_seq (aF aG hT hG (aVJ _ _) trivial hA fun a w1 hA => ?_);refine wp_seq (wp_seq (aF aG hT hG (aVI p N m _) trivial hA fun a w1 hA => ?_));refine wp_block ?_;obtain⟨k,hk,hz,hkn,hke⟩:=BL N he;rw[hke];obtain⟨b,o,rfl,e1,e2⟩:=hmem (Nat.lt_of_le_of_lt (Nat.zero_le _) hk);obtain⟨b',o',rfl,e3,e4⟩:=hmem2 (Nat.lt_of_le_of_lt (Nat.zero_le _) hk);clear hmem hmem2;refine mD aG (fun i=>zN (dG b o N m) (dG b' o' N m2) N i (jpW (jN ps qs i))) k (fun i hi=>aJW e1 e2 e3 e4 (Nat.lt_trans hi hk) (Nat.not_lt.1 h2) (hz i hi)) .rt (by simp) (jpZ aD.zero (er (ps k) (qs k))) ?_ hA fun a w hA=>Ja _ hA
   generalize jN ps qs k=s;obtain⟨c,Z⟩:=s;have f1:=Wu e1 e2 hk;have f2:=aCr e3 e4 hk;cases c with
   | zero=>exact⟨_,_,_,_,rR w0 _ _ _ _,hT,aVy w0 b o N m b' o' N m2 k _ _,cK hk,rfl,hk,f1,rfl,rfl,hk,f2,rfl,nzt hkn,trivial⟩
   | succ c=>exact⟨_,_,_,_,rR w0 _ _ _ _,hT,aVx w0 b o N m b' o' N m2 k (c+1) _ _ Z,cK hk,rfl,hk,f1,rfl,rfl,hk,f2,rfl,nzt hkn,trivial⟩
 ·rw[if_pos h1];exact wp_seq (aF aG hT hG (aVE p q N m M m2) ⟨aDc h1,trivial⟩ hA fun a w hA=>Ja 3 hA)
theorem Pu {w0:World} {v v2:Value} {ps:Nat→iU} {qs:Nat→cZ} (hv:PV eK w0 v 0 ps) (hv2:PV cJ w0 v2 0 qs):Good prog 5 (.many [.fl (aQ aD.one),.im (.int .i64 0)]) [v,v2] w0:=by
 have hG:dC prog (qG prog) w0.heap.size w0:=(aJ _).w _ _;have hT:∀n d:Nat,TabOkW prog rQ w0.heap.size w0:=fun _ _=>Oe.w _ _
 obtain⟨p,m,rfl,_⟩:=hv;obtain⟨q,m2,rfl,_⟩:=hv2;refine Bn fun a w1 hA => ?_
 refine wp_seq (aF aG hT hG (aVA p q 0 m 0 m2) ⟨Ay rfl,IZ (decide_eq_false (by omega)),trivial⟩ hA fun a w1 hA => ?_);refine wp_seq (aF aG hT hG (aVJ _ _) trivial hA fun a w1 hA => ?_);refine wp_seq (wp_seq (aF aG hT hG (aVI p 0 m _) trivial hA fun a w1 hA => ?_));refine wp_block ?_;refine mD aG (fun i=>zN (.slice p 0 m) (.slice q 0 m2) 0 i uS) 0 (fun i hi=>by omega) (.ex 0) (by simp) (pA3 []) ⟨_,_,_,_,hG,hT,aZu _ _ 0 0,gQ (by omega),trivial⟩ hA fun a w hA => ?_
 show Yx.wp _ _ _ _;have h:=aF aG (kD Og _) (gV _ _) aUK ⟨rfl,jJ.1,trivial⟩ hA fun a w7 hA=>GM hA
 rw[yN]at h;exact h
def gJV (v v2:Value) (r:RV):kI
 | [.v (.im u),.v (.im t)]=>some ([u=v,t=v2],r)
 | _=>none
theorem JA {w:World} {f:FuncId} {v v2:Value} {r0:RV} (h:Good prog f r0 [v,v2] w):∀cs pre r,gJV v v2 r0 cs=some (pre,r)→aZ pre→∀(args:List Value),bU w cs args→Good prog f r args w:=by
 intro cs pre r hg hp args ha;unfold gJV at hg;split at hg
 ·cases hg;obtain⟨rfl,rfl,_⟩:=hp
  match args,ha with
  | [a1,a2],ha =>
   have h1:a1=_:=ha.1;have h2:a2=_:=ha.2.1;subst h1; subst h2;exact h
  | [],ha=>exact ha.elim
  | [_],ha=>exact ha.2.elim
  | _::_::_::_,ha=>exact ha.2.2.elim
 ·cases hg
def jcC (v v2:Value) (z:aV) (e:Int) (b:Bool) (_:Nat):Cfg:=⟨fun _=>tP.add 5 (gJV v v2 (.many [.fl (aQ z),.im (.int .i64 e)])),fun _=>b,fun _=>none⟩
theorem aHV (v v2:Value) (z:aV) (e:Int):aU prog (qG prog) (jcC v v2 z e false) f6 60 [.v (.im v),.v (.im v2)]=some ([v=v,v2=v2,aA (aQ z)≠aA (aQ aD.one)],.many [.im (.bool false),.im (.int .i64 e)]):=by kernel_rfl
theorem aHU (v v2:Value) (z:aV) (e:Int):aU prog (qG prog) (jcC v v2 z e true) f6 60 [.v (.im v),.v (.im v2)]=some ([v=v,v2=v2,aA (aQ z)=aA (aQ aD.one)],.many [.im (.bool true),.im (.int .i64 e)]):=by kernel_rfl
theorem aDN {w0:World} {v v2:Value} {z:aV} {e:Int} {b:Bool} (h:∀w,Below w0.heap.size w0 w→Good prog 5 (.many [.fl (aQ z),.im (.int .i64 e)]) [v,v2] w):∀n d:Nat,TabOkW prog ((jcC v v2 z e b n).T d) w0.heap.size w0:=fun _ _ =>
 TabOkW.add (mK.w _ _) func5 (by kernel_rfl) (by kernel_rfl) fun w hw=>JA (h w hw)
theorem aRL {w0:World} {v v2:Value} {N:Nat} {ps:Nat→iU} {M:Nat} {qs:Nat→cZ} (hv:PV eK w0 v N ps) (hv2:PV cJ w0 v2 M qs) (he:Xp N ps M qs≠0):Good prog 6 (.many [.im (.bool false),.im (.int .i64 (Xp N ps M qs))]) [v,v2] w0 :=
 bX aG (aDN fun w hw=>Jb (hv.on hw) (hv2.on hw) he) ((aJ _).w _ _) func6 (aHV v v2 aD.zero _) ⟨rfl,rfl,fun h=>jJ.1 (Rc h).symm,trivial⟩ (args:=[v,v2]) ⟨rfl,rfl,trivial⟩
theorem aKY {w0:World} {v v2:Value} {ps:Nat→iU} {qs:Nat→cZ} (hv:PV eK w0 v 0 ps) (hv2:PV cJ w0 v2 0 qs):Good prog 6 (.many [.im (.bool true),.im (.int .i64 0)]) [v,v2] w0 :=
 bX aG (aDN fun w hw=>Pu (hv.on hw) (hv2.on hw)) ((aJ _).w _ _) func6 (aHU v v2 aD.one 0) ⟨rfl,rfl,rfl,trivial⟩ (args:=[v,v2]) ⟨rfl,rfl,trivial⟩
def gJS (p:iU) (q:cZ):kI
 | [.s l n m,.s l' n' m']=>some ([aA l=aA (eK p),n=1,1≤m,aA l'=aA (cJ q),n'=1,1≤m',er p q≠0],.many [.fl (aQ aD.zero),.im (.int .i64 (er p q))])
 | _=>none
theorem Qd (p:iU) (q:cZ):Xp 1 (fun _=>p) 1 (fun _=>q)=er p q:=by
 unfold Xp;rw[if_neg (fun h=>h rfl),if_neg (by omega)];rfl
theorem aQN {p:iU} {q:cZ}:∀cs pre r,gJS p q cs=some (pre,r)→aZ pre→∀(args:List Value) (w:World),bU w cs args→Good prog 5 r args w:=by
 intro cs pre r hg hp args w ha;unfold gJS at hg;split at hg
 ·cases hg;obtain⟨p1,p2,p3,p4,p5,p6,p7,_⟩:=hp
  match args,ha with
  | [a1,a2],ha =>
   have h:=Jb (PV.one ha.1 p1 p2 p3) (PV.one ha.2.1 p4 p5 p6) (by rw[Qd]; exact p7);rw[Qd]at h;exact h
  | [],ha=>exact ha.elim
  | [_],ha=>exact ha.2.elim
  | _::_::_::_,ha=>exact ha.2.2.elim
 ·cases hg
theorem aHT (p:iU) (q:cZ):aU prog (qG prog) (jC (T0.add 5 (gJS p q)) fun _=>none) f8 60 [.v (.fl (eK p)),.v (.fl (cJ q))]=some ([aA (eK p)=aA (eK p),1=1,1≤1,aA (cJ q)=aA (cJ q),1=1,1≤1,er p q≠0],.many [.fl (aQ aD.zero),.im (.int .i64 (er p q))]):=by kernel_rfl
theorem aPj {p:iU} {q:cZ} (h:er p q≠0) (args:List Value) (w:World) (ha:bU w [.v (.fl (eK p)),.v (.fl (cJ q))] args):Good prog 8 (.many [.fl (aQ aD.zero),.im (.int .i64 (er p q))]) args w :=
 aB aG (fun _ _=>(zK _).add func5 (by kernel_rfl) (by kernel_rfl) aQN) (aJ _) func8 (aHT p q) ⟨rfl,rfl,Nat.le_refl _,rfl,rfl,Nat.le_refl _,h,trivial⟩ ha
theorem aHL (z:Int):aU prog (qG prog) (jC T0 fun _=>none) f7 40 [.v (.im (.int .i64 z))]=some ([],.one (.im (.int .i64 z))):=by kernel_rfl
def gN6:kI
 | [.v (.im (.int .i64 z))]=>some ([],.one (.im (.int .i64 z)))
 | _=>none
theorem aQJ:∀cs pre r,gN6 cs=some (pre,r)→aZ pre→∀(args:List Value) (w:World),bU w cs args→Good prog 7 r args w:=by
 intro cs pre r hg hp args w ha;unfold gN6 at hg;split at hg
 ·cases hg;exact aB aG (fun _ _=>zK _) (aJ _) func7 (aHL _) trivial ha
 ·cases hg
theorem aOB:aU prog (qG prog) (jC tP fun _=>none) f9 40 []=some ([],.one (.fl (aQ aD.one))):=by kernel_rfl
def Yr (v v2:Value) (e:Int) (z:aV) (b:Bool):Tab:=(((((T0.add 7 gN6).add 9 (g0 (.one (.fl (aQ aD.one))))).add 4 (gJV v v2 (.one (.im (.int .i64 e))))).add 5 (gJV v v2 (.many [.fl (aQ z),.im (.int .i64 e)]))).add 6 (gJV v v2 (.many [.im (.bool b),.im (.int .i64 e)])))
theorem Od {w0:World} {v v2:Value} {e:Int} {z:aV} {b:Bool} (hg:∀w,Below w0.heap.size w0 w→Good prog 4 (.one (.im (.int .i64 e))) [v,v2] w) (hp:∀w,Below w0.heap.size w0 w→Good prog 5 (.many [.fl (aQ z),.im (.int .i64 e)]) [v,v2] w) (hc:∀w,Below w0.heap.size w0 w→Good prog 6 (.many [.im (.bool b),.im (.int .i64 e)]) [v,v2] w):TabOkW prog (Yr v v2 e z b) w0.heap.size w0 :=
 (((((((zK _).add func7 (by kernel_rfl) (by kernel_rfl) aQJ).add func9 (by kernel_rfl) (by kernel_rfl) (lO fun w=>aB aG (fun _ _=>mK) (aJ _) func9 aOB trivial trivial)).w _ _).add func4 (by kernel_rfl) (by kernel_rfl) fun w hw=>JA (hg w hw)).add func5 (by kernel_rfl) (by kernel_rfl) fun w hw=>JA (hp w hw)).add func6 (by kernel_rfl) (by kernel_rfl) fun w hw=>JA (hc w hw))
theorem aPH {w0:World} {v v2:Value} {e:Int} (hg:∀w,Below w0.heap.size w0 w→Good prog 4 (.one (.im (.int .i64 e))) [v,v2] w):TabOkW prog (T0.add 4 (gJV v v2 (.one (.im (.int .i64 e))))) w0.heap.size w0 :=
 TabOkW.add ((zK _).w _ _) func4 (by kernel_rfl) (by kernel_rfl) fun w hw=>JA (hg w hw)
def Qe (op:iU→cZ→List Prop×RV):kI
 | [.v (.fl l),.v (.fl m)]=>match rg1 l,Dg m with
  | some p,some q=>some (op p q)
  | _,_=>none
 | _=>none
theorem aEt {f:FuncId} {op:iU→cZ→List Prop×RV} (h:∀(p:iU) (q:cZ),aZ (op p q).1→∀(args:List Value) (w:World),bU w [.v (.fl (eK p)),.v (.fl (cJ q))] args→Good prog f (op p q).2 args w):∀cs pre r,Qe op cs=some (pre,r)→aZ pre→∀(args:List Value) (w:World),bU w cs args→Good prog f r args w:=by
 intro cs pre r hg hp args w ha;unfold Qe at hg;split at hg
 ·rename_i l m;split at hg
  ·rename_i p q hx hy;have e:=Option.some.inj hg;have h2:=h p q (by rw[e]; exact hp);rw[e]at h2;refine h2 args w ?_
   match args,ha with
   | [v,u],ha =>
    refine⟨?_,?_,trivial⟩
    ·show v=.agg (aA (eK p)).toArray;rw[←AF l p hx]; exact ha.1
    ·show u=.agg (aA (cJ q)).toArray;rw[←iY m q hy]; exact ha.2.1
   | [],ha=>exact ha.elim
   | [_],ha=>exact ha.2.elim
   | _::_::_::_,ha=>exact ha.2.2.elim
  ·cases hg
 ·cases hg
theorem aZD {a:Nat} {t:Bool} (h:decide (0<a)=t):aH .gtr .i64 (Int.ofNat a) 0=some (.bool t):=by rw[←h]; exact NJ (i:=a) (n:=0)
theorem aVi {a:Nat} (h:a≠1):aH .neq .i64 (Int.ofNat a) 1=some (.bool true):=by
 have e:(1:Int)=Int.ofNat 1:=rfl;rw[e]; exact aDc h
theorem Xb (c:Int):aH .neq .i64 c c=some (.bool false):=by
 show some (Value.bool (!(c==c)))=_;simp
theorem aZQ (c:Int):aH .eql .i64 c c=some (.bool true):=by
 show some (Value.bool (c==c))=_;simp
theorem aHS (p q:Option Addr) (N m M m2:Nat):aU prog (qG prog) (jC (T0.add 4 (gJV (.slice p N m) (.slice q M m2) (.one (.im (.int .i64 0))))) (assoc [(20,.bool true)])) f3 80 [.v (.im (.slice p N m)),.v (.im (.slice q M m2))]=some ([Value.slice p N m=.slice p N m,Value.slice q M m2=.slice q M m2,aH .gtr .i64 (Int.ofNat N) 0=some (.bool true)],.one (.im (.bool true))):=by kernel_rfl
theorem aHR (p q:Option Addr) (N m M m2:Nat) (e:Int):aU prog (qG prog) (jC (Yr (.slice p N m) (.slice q M m2) e aD.zero false) (assoc [(16,.bool false),(37,.bool false),(42,.bool false),(45,.bool true),(54,.bool true)])) f3 80 [.v (.im (.slice p N m)),.v (.im (.slice q M m2))]=some ([Value.slice p N m=.slice p N m,Value.slice q M m2=.slice q M m2,aH .eql .i64 e 0=some (.bool false),Value.slice p N m=.slice p N m,Value.slice q M m2=.slice q M m2,Value.slice p N m=.slice p N m,Value.slice q M m2=.slice q M m2,aH .neq .i64 e e=some (.bool false),aH .neq .i64 e e=some (.bool false),aH .neq .i64 e 0=some (.bool true),aA (aQ aD.zero)=aA (aQ aD.zero),aH .neq .i64 (Int.ofNat N) 1=some (.bool true)],.one (.im (.bool true))):=by kernel_rfl
theorem aHQ (p q:Option Addr) (N m M m2:Nat) (e:Int):aU prog (qG prog) (jC (Yr (.slice p N m) (.slice q M m2) e aD.zero false) (assoc [(16,.bool false),(37,.bool false),(42,.bool false),(45,.bool true),(54,.bool false),(58,.bool true)])) f3 80 [.v (.im (.slice p N m)),.v (.im (.slice q M m2))]=some ([Value.slice p N m=.slice p N m,Value.slice q M m2=.slice q M m2,aH .eql .i64 e 0=some (.bool false),Value.slice p N m=.slice p N m,Value.slice q M m2=.slice q M m2,Value.slice p N m=.slice p N m,Value.slice q M m2=.slice q M m2,aH .neq .i64 e e=some (.bool false),aH .neq .i64 e e=some (.bool false),aH .neq .i64 e 0=some (.bool true),aA (aQ aD.zero)=aA (aQ aD.zero),aH .neq .i64 (Int.ofNat N) 1=some (.bool false),aH .neq .i64 (Int.ofNat M) 1=some (.bool true)],.one (.im (.bool true))):=by kernel_rfl
theorem aHP (w:World) (b o m b' o' m2:Nat) (P:iU) (Q:cZ):aU prog { qG prog with x:=xj w (assoc [(62,0),(65,0)]) (assoc [(63,eK P),(66,cJ Q)]) (fun _=>none) (fun _=>none) } (jC ((Yr (dG b o 1 m) (dG b' o' 1 m2) (er P Q) aD.zero false).add 8 (Qe fun p q=>([er p q≠0],.many [.fl (aQ aD.zero),.im (.int .i64 (er p q))]))) (assoc [(16,.bool false),(37,.bool false),(42,.bool false),(45,.bool true),(77,.bool true)])) f3 80 [.v (.im (dG b o 1 m)),.v (.im (dG b' o' 1 m2))]=some ([Value.slice (some ⟨b,o,none⟩) 1 m=dG b o 1 m,Value.slice (some ⟨b',o',none⟩) 1 m2=dG b' o' 1 m2,aH .eql .i64 (er P Q) 0=some (.bool false),Value.slice (some ⟨b,o,none⟩) 1 m=dG b o 1 m,Value.slice (some ⟨b',o',none⟩) 1 m2=dG b' o' 1 m2,Value.slice (some ⟨b,o,none⟩) 1 m=dG b o 1 m,Value.slice (some ⟨b',o',none⟩) 1 m2=dG b' o' 1 m2,aH .neq .i64 (er P Q) (er P Q)=some (.bool false),aH .neq .i64 (er P Q) (er P Q)=some (.bool false),aH .neq .i64 (er P Q) 0=some (.bool true),aA (aQ aD.zero)=aA (aQ aD.zero),(0:Int)=Int.ofNat 0,0<1,oldOf w b (o+0*9) (eK P),cF (eK P)=9,(0:Int)=Int.ofNat 0,0<1,oldOf w b' (o'+0*17) (cJ Q),cF (cJ Q)=17,er P Q≠0,aA (aQ aD.zero)=aA (aQ aD.zero),aH .eql .i64 (er P Q) (er P Q)=some (.bool true)],.one (.im (.bool true))):=by kernel_rfl
theorem aHO (p q:Option Addr) (m m2:Nat):aU prog (qG prog) (jC (Yr (.slice p 0 m) (.slice q 0 m2) 0 aD.one true) fun _=>none) f3 80 [.v (.im (.slice p 0 m)),.v (.im (.slice q 0 m2))]=some ([Value.slice p 0 m=.slice p 0 m,Value.slice q 0 m2=.slice q 0 m2,Value.slice p 0 m=.slice p 0 m,Value.slice q 0 m2=.slice q 0 m2,Value.slice p 0 m=.slice p 0 m,Value.slice q 0 m2=.slice q 0 m2,aA (aQ aD.one)=aA (aQ aD.one)],.one (.im (.bool true))):=by kernel_rfl
theorem LJ {w0:World} {v v2:Value} {N:Nat} {ps:Nat→iU} {M:Nat} {qs:Nat→cZ} (hv:PV eK w0 v N ps) (hv2:PV cJ w0 v2 M qs):Good prog 3 (.one (.im (.bool true))) [v,v2] w0:=by
 have hG:dC prog (qG prog) w0.heap.size w0:=(aJ _).w _ _
 by_cases he:Xp N ps M qs=0
 ·have hg:∀w,Below w0.heap.size w0 w→Good prog 4 (.one (.im (.int .i64 0))) [v,v2] w:=fun w hw=>by
   have h:=Bq (hv.on hw) (hv2.on hw);rw[he]at h;exact h
  by_cases h0:0<N
  ·obtain⟨p,m,rfl,_⟩:=hv;obtain⟨q,m2,rfl,_⟩:=hv2;exact bX aG (fun _ _=>aPH hg) hG func3 (aHS p q N m M m2) ⟨rfl,rfl,aZD (decide_eq_true h0),trivial⟩ (args:=[.slice p N m,.slice q M m2]) ⟨rfl,rfl,trivial⟩
  ·have hN:N=0:=by omega
   subst hN;have hM:M=0:=by
    unfold Xp at he
    by_cases c:0=M
    ·exact c.symm
    ·rw[if_pos c]at he; cases he
   subst hM;have hp:=fun w hw=>Pu (hv.on (w':=w) hw) (hv2.on hw)
   have hc:=fun w hw=>aKY (hv.on (w':=w) hw) (hv2.on hw)
   obtain⟨p,m,rfl,_⟩:=hv;obtain⟨q,m2,rfl,_⟩:=hv2;exact bX aG (fun _ _=>Od hg hp hc) hG func3 (aHO p q m m2) ⟨rfl,rfl,rfl,rfl,rfl,rfl,rfl,trivial⟩ (args:=[.slice p 0 m,.slice q 0 m2]) ⟨rfl,rfl,trivial⟩
 ·have hg:=fun w hw=>Bq (hv.on (w':=w) hw) (hv2.on hw)
  have hp:=fun w hw=>Jb (hv.on (w':=w) hw) (hv2.on hw) he
  have hc:=fun w hw=>aRL (hv.on (w':=w) hw) (hv2.on hw) he
  by_cases h1:N=1
  ·by_cases h2:M=1
   ·subst h1; subst h2;have e1:Xp 1 ps 1 qs=er (ps 0) (qs 0):=by
     unfold Xp;rw[if_neg (fun h=>h rfl),if_neg (by omega)];rfl
    rw[e1]at he hg hp hc;obtain⟨p,m,rfl,_,hmem⟩:=hv;obtain⟨q,m2,rfl,_,hmem2⟩:=hv2;obtain⟨b,o,rfl,k1,k2⟩:=hmem (by omega);obtain⟨b',o',rfl,k3,k4⟩:=hmem2 (by omega);have hP:∀n d:Nat,TabOkW prog ((Yr (dG b o 1 m) (dG b' o' 1 m2) (er (ps 0) (qs 0)) aD.zero false).add 8 (Qe fun p q=>([er p q≠0],.many [.fl (aQ aD.zero),.im (.int .i64 (er p q))]))) w0.heap.size w0:=fun _ _=>(Od hg hp hc).add func8 (by kernel_rfl) (by kernel_rfl) fun w _ cs pre r h1 h2 args ha=>aEt (op:=fun p q=>([er p q≠0],.many [.fl (aQ aD.zero),.im (.int .i64 (er p q))])) (fun p q hp args w ha=>aPj hp.1 args w ha) cs pre r h1 h2 args w ha
    exact bX aG hP (rR w0 _ _ _ _) func3 (aHP w0 b o m b' o' m2 (ps 0) (qs 0)) ⟨rfl,rfl,ezf he,rfl,rfl,rfl,rfl,Xb _,Xb _,nzt he,rfl,rfl,by omega,Wu k1 k2 (by omega),rfl,rfl,by omega,aCr k3 k4 (by omega),rfl,he,rfl,aZQ _,trivial⟩ (args:=[dG b o 1 m,dG b' o' 1 m2]) ⟨rfl,rfl,trivial⟩
   ·subst h1;obtain⟨p,m,rfl,_⟩:=hv;obtain⟨q,m2,rfl,_⟩:=hv2;exact bX aG (fun _ _=>Od hg hp hc) hG func3 (aHQ p q 1 m M m2 _) ⟨rfl,rfl,ezf he,rfl,rfl,rfl,rfl,Xb _,Xb _,nzt he,rfl,rfl,aVi h2,trivial⟩ (args:=[.slice p 1 m,.slice q M m2]) ⟨rfl,rfl,trivial⟩
  ·obtain⟨p,m,rfl,_⟩:=hv;obtain⟨q,m2,rfl,_⟩:=hv2;exact bX aG (fun _ _=>Od hg hp hc) hG func3 (aHR p q N m M m2 _) ⟨rfl,rfl,ezf he,rfl,rfl,rfl,rfl,Xb _,Xb _,nzt he,rfl,aVi h1,trivial⟩ (args:=[.slice p N m,.slice q M m2]) ⟨rfl,rfl,trivial⟩
end Go.Proofs.YtjkpglhlmknciaaGreat.Ex
namespace Go.Proofs.YtjkpglhlmknciaaGreat
open Go.Proofs.Tryz
open Go.ChangeShapes Go.WideShapes Go.ChangeAt Go.RowKit
theorem ED:ownKnob prog.godebug=none:=by kernel_rfl
theorem Pl:laidOutB prog=true:=by kernel_rfl
theorem Sx:prog.cellsOf 25=1:=by kernel_rfl
theorem aVr {α:Type} (l:List α) (h:(⟨l⟩:Array α).size=4):∃a b c d,l=[a,b,c,d]:=by
 match l,h with
 | [a,b,c,d],_=>exact⟨a,b,c,d,rfl⟩
theorem uG {n:Int} (h:(Lit.int .u64 n).wf=true):∃k:Nat,n=(k:Int)∧k<18446744073709551616:=by
 obtain⟨h1,h2⟩:=bounds_u64 h;obtain⟨k,rfl⟩:=Int.eq_ofNat_of_zero_le h1;exact⟨k,rfl,by omega⟩
end Go.Proofs.YtjkpglhlmknciaaGreat
namespace Go.Proofs.YtjkpglhlmknciaaGreat.Ex
open Go.Proofs.Tryz
open Go.Deep Go.ChangeShapes Go.WideShapes Go.ChangeAt Go.RowKit
section
variable {H:Type} {enc:TypeId×Value→H} {W:World}
theorem c24:prog.cellsOf 27=4:=by kernel_rfl
theorem c26:prog.cellsOf 29=8:=by kernel_rfl
theorem Nh {fuel:Nat} {cs:List Value} {x:DataW H×List MemPlace} (hl:cs.length=4) (h:DataW.trod enc prog W 0 (fun _=>true) true fuel 27 cs=some x):∃n:Nat,cs=aA (q1 n):=by
 obtain⟨c0,c1,c2,c3,rfl⟩:=aVr cs hl;obtain⟨y0,y1,y2,y3,m,hx,hy0,hy1,hy2,hy3⟩:=trod_array4 underlying27 Sx h;obtain⟨x0,e0,rfl,w0⟩:=DataW.trod_int underlying25 hy0;obtain⟨x1,e1,rfl,w1⟩:=DataW.trod_int underlying25 hy1;obtain⟨x2,e2,rfl,w2⟩:=DataW.trod_int underlying25 hy2;obtain⟨x3,e3,rfl,w3⟩:=DataW.trod_int underlying25 hy3;simp at e0 e1 e2 e3;obtain⟨a0,rfl,k0⟩:=uG w0;obtain⟨a1,rfl,k1⟩:=uG w1;obtain⟨a2,rfl,k2⟩:=uG w2;obtain⟨a3,rfl,k3⟩:=uG w3;subst e0 e1 e2 e3;have hv:aC a0 a1 a2 a3<115792089237316195423570985008687907853269984665640564039457584007913129639936:=by unfold aC; omega
 obtain⟨q0,q1',q2',q3⟩:=pW ⟨k0,k1,k2,k3⟩ hv rfl;refine⟨aC a0 a1 a2 a3,?_⟩;show _=w4 (aC a0 a1 a2 a3);unfold w4;rw[←q0,←q1',←q2',←q3]
theorem aLS {fuel:Nat} {cs:List Value} {x:DataW H×List MemPlace} (h:DataW.trod enc prog W 0 (fun _=>true) true fuel 29 cs=some x):∃n:N2,cs=aA (q2 n):=by
 obtain⟨y0,y1,n,_,hl,h0,h1⟩:=trod_struct2 underlying29 h;rw[c26]at hl;simp only[c24]at h0 h1;obtain⟨a,ha⟩:=Nh (by simp[hl]) h0;obtain⟨b,hb⟩:=Nh (by simp[hl]) h1;refine⟨(a,b),?_⟩;rw[List.drop_zero]at ha;rw[List.take_of_length_le (by simp[hl])]at hb;show cs=w4 a++(w4 b++[]);rw[List.append_nil,←List.take_append_drop 4 cs];congr 1
 all_goals first|exact ha.trans (List.append_nil _)|exact hb.trans (List.append_nil _)
end
section
variable {H:Type} {enc:TypeId×Value→H} {W:World}
theorem cG1:prog.cellsOf 42=9:=by kernel_rfl
theorem cG2:prog.cellsOf 44=17:=by kernel_rfl
theorem cBo:prog.cellsOf 4=1:=by kernel_rfl
theorem aAu {α:Type} (a b:Nat) (cs:List α) (h:cs.length=a+b+1):cs=cs.take a++((cs.drop a).take b++(cs.drop (a+b)).take 1):=by
 have e:(cs.drop (a+b)).take 1=cs.drop (a+b):=List.take_of_length_le (by simp[h]);rw[e,←List.drop_drop,List.take_append_drop,List.take_append_drop]
theorem aUQ {fuel:Nat} {cs:List Value} {x:DataW H×List MemPlace} (h:DataW.trod enc prog W 0 (fun _=>true) true fuel 42 cs=some x):∃n:iU,cs=aA (eK n):=by
 obtain⟨y0,y1,y2,n,_,hl,h0,h1,h2⟩:=trod_struct3 underlying42 h;rw[cG1]at hl;simp only[c24,cBo]at h0 h1 h2;obtain⟨a,ha⟩:=Nh (by simp[hl]) h0;obtain⟨b,hb⟩:=Nh (by simp[hl]) h1;obtain⟨c,hc,_⟩:=DataW.trod_bool underlying4 h2;refine⟨(a,b,c),?_⟩;rw[aAu 4 4 cs hl,←List.drop_zero (l:=cs.take 4)];have e:aA (eK (a,b,c))=aA (q1 a)++(aA (q1 b)++[.bool c]):=by
  show w4 a++(w4 b++_)=(w4 a++[])++((w4 b++[])++_);rw[List.append_nil,List.append_nil];rfl
 rw[e];rw[List.drop_zero]at ha;have ha':cs.take 4=aA (q1 a):=ha.trans (by first|rfl|simp);have hb':(cs.drop 4).take 4=aA (q1 b):=hb.trans (by first|rfl|simp);have hc':(cs.drop (4+4)).take 1=[.bool c]:=hc;rw[List.drop_zero,ha',hb',hc']
theorem aUP {fuel:Nat} {cs:List Value} {x:DataW H×List MemPlace} (h:DataW.trod enc prog W 0 (fun _=>true) true fuel 44 cs=some x):∃n:cZ,cs=aA (cJ n):=by
 obtain⟨y0,y1,y2,n,_,hl,h0,h1,h2⟩:=trod_struct3 underlying44 h;rw[cG2]at hl;simp only[c26,cBo]at h0 h1 h2;obtain⟨a,ha⟩:=aLS h0;obtain⟨b,hb⟩:=aLS h1;obtain⟨c,hc,_⟩:=DataW.trod_bool underlying4 h2;refine⟨(a,b,c),?_⟩;rw[aAu 8 8 cs hl,←List.drop_zero (l:=cs.take 8)];have e:aA (cJ (a,b,c))=aA (q2 a)++(aA (q2 b)++[.bool c]):=by
  show w4 a.1++(w4 a.2++(w4 b.1++(w4 b.2++_)))=(w4 a.1++(w4 a.2++[]))++((w4 b.1++(w4 b.2++[]))++_);rw[List.append_nil,List.append_nil,List.append_assoc,List.append_assoc];rfl
 rw[e];rw[List.drop_zero]at ha;have hb':(cs.drop 8).take 8=aA (q2 b):=hb;have hc':(cs.drop (8+8)).take 1=[.bool c]:=hc;rw[List.drop_zero,ha,hb',hc']
end
theorem MF {α:Type} {g:α→List At} {c:Nat} {W:World} {b:Nat} {f:Nat→α} (hc:∀x,(aA (g x)).length=c):∀(n s off:Nat),(∀k,s≤k→k<s+n→∀(j:Nat) v,(aA (g (f k)))[j]?=some v→W.cell? ⟨b,off+k*c+j,none⟩=some v)→W.rangeAt b (off+s*c) (aA (fM (fun j=>g (f j)) s n))
 | 0,s,off,_=>fun j v hj=>by simp[fM,aA]at hj
 | n+1,s,off,h=>fun j v hj=>by
  have ih:=MF (g:=g) (c:=c) (W:=W) (b:=b) (f:=f) hc n (s+1) off fun k a e=>h k (by omega) (by omega)
  have hj:(aA (g (f s)++fM (fun j=>g (f j)) (s+1) n))[j]?=some v:=hj;rw[aP]at hj
  by_cases q:j<c
  ·rw[List.getElem?_append_left (by rw[hc]; exact q)]at hj;exact h s (Nat.le_refl _) (by omega) j v hj
  ·rw[List.getElem?_append_right (by rw[hc]; omega),hc]at hj;have:=ih (j-c) v hj;have e:off+(s+1)*c+(j-c)=off+s*c+j:=by
    rw[Nat.succ_mul]; omega
   rwa [e]at this
theorem Ng {α:Type} {g:α→List At} {c:Nat} {ts te:TypeId} {H:Type} {enc:TypeId×Value→H} {W:World} (hu:prog.underlying ts=some (.slice te)) (hcc:prog.cellsOf te=c) (hc0:0<c) (hc:∀x,(aA (g x)).length=c) (x0:α)
  (op:∀{fuel:Nat} {cs:List Value} {x:DataW H×List MemPlace},DataW.trod enc prog W 0 (fun _=>true) true fuel te cs=some x→∃n:α,cs=aA (g n))
  {o:Option Addr} {len cap:Nat} {d:DataW H} {ps:List MemPlace} (h:DataW.Trod enc prog W 0 (fun _=>true) true ts (.slice o len cap) d ps) (hl:∀x∈ps,x.block<W.heap.size):∃f:Nat→α,PV g W (.slice o len cap) len f:=by
 obtain⟨fuel,hf⟩:=h
 rcases DataW.trod_slice hu hf with⟨hcs,_⟩|⟨a,len',cap',elems,rest,n,_,hcs,hx,hb,hlc,hm,hlen,hel,_⟩
 ·simp[Value.cells]at hcs;obtain⟨rfl,rfl,rfl⟩:=hcs;exact⟨fun _=>x0,_,_,rfl,Nat.le_refl _,fun h=>absurd h (Nat.lt_irrefl 0)⟩
 ·simp[Value.cells]at hcs;obtain⟨rfl,rfl,rfl⟩:=hcs
  by_cases h0:len=0
  ·exact⟨fun _=>x0,_,_,rfl,hlc,fun h=>absurd h (by omega)⟩
  rw[hcc]at hel;have each:∀i,i<len→∃y:α,∀(j:Nat) v,(aA (g y))[j]?=some v→W.cell? (a.add (i*c+j))=some v:=by
   intro i hi;have e1:=hel i hi;rw[List.getElem?_eq_getElem (by omega),Option.bind_eq_some_iff]at e1;obtain⟨cs',h1,h2⟩:=e1;obtain⟨_,hlen',hcell⟩:=World.cells?_some h1;obtain⟨y,rfl⟩:=op h2;refine⟨y,fun j v hj => ?_⟩;have hjc:j<c:=by
    obtain⟨hlt,_⟩:=List.getElem?_eq_some_iff.1 hj;rw[hc]at hlt;exact hlt
   have g0:=hcell j hjc;rw[Go.Deep.add_add]at g0;rw[g0,hj]
  obtain⟨b,off,spot⟩:=a;obtain⟨y0,hy0⟩:=each 0 (by omega);have hspot:spot=none:=by
   have hlt:0<(aA (g y0)).length:=by rw[hc]; exact hc0
   have:=hy0 0 _ (List.getElem?_eq_getElem hlt);simpa[Addr.add]using World.cell?_spot this
  subst hspot;have hg:b<W.heap.size:=hl (.cell b off) (by
   have:=congrArg Prod.snd hx;simp only at this;rw[this];refine List.mem_append_left _ (MemPlace.mem_row.2 ⟨0,?_,by simp⟩);rw[hcc,hlen];exact Nat.mul_pos (by omega) hc0)
  have each':∀i,∃y:α,i<len→∀(j:Nat) v,(aA (g y))[j]?=some v→W.cell? ⟨b,off+i*c+j,none⟩=some v:=fun i=>by
   by_cases hi:i<len
   ·obtain⟨y,hy⟩:=each i hi;refine⟨y,fun _ j v hj => ?_⟩;have:=hy j v hj;simp only[add_plain]at this;rw[Nat.add_assoc];exact this
   ·exact⟨x0,fun h=>absurd h hi⟩
  refine⟨fun i=>Classical.choose (each' i),_,_,rfl,hlc,fun _=>⟨b,off,rfl,hg,?_⟩⟩;have:=MF (g:=g) (c:=c) (W:=W) (b:=b) (f:=fun i=>Classical.choose (each' i)) hc len 0 off fun k _ e=>Classical.choose_spec (each' k) (by omega)
  rw[Nat.zero_mul,Nat.add_zero]at this;exact this
theorem aZg (x:iU):(aA (eK x)).length=9:=rfl
theorem aZf (x:cZ):(aA (cJ x)).length=17:=rfl
theorem aCi {H:Type} {enc:TypeId×Value→H} {W:World} {o:Option Addr} {len cap:Nat} {d:DataW H} {ps:List MemPlace} (h:DataW.Trod enc prog W 0 (fun _=>true) true 22 (.slice o len cap) d ps) (hl:∀x∈ps,x.block<W.heap.size):∃f,PV eK W (.slice o len cap) len f :=
 Ng (te:=42) (c:=9) underlying22 cG1 (by omega) aZg (0,0,false) (fun h=>aUQ h) h hl
theorem aCh {H:Type} {enc:TypeId×Value→H} {W:World} {o:Option Addr} {len cap:Nat} {d:DataW H} {ps:List MemPlace} (h:DataW.Trod enc prog W 0 (fun _=>true) true 23 (.slice o len cap) d ps) (hl:∀x∈ps,x.block<W.heap.size):∃f,PV cJ W (.slice o len cap) len f :=
 Ng (te:=44) (c:=17) underlying23 cG2 (by omega) aZf ((0,0),(0,0),false) (fun h=>aUP h) h hl
end Go.Proofs.YtjkpglhlmknciaaGreat.Ex
