/- Pd10 -/
import Derived.ProofKit
import Derived.LaidMore
import Derived.OpenShut
import Derived.Stop.Joined
import Derived.Carry
import Derived.RowKit
import Derived.ChangeSame
import Derived.JoinedOf
import Derived.JoinedAt
import Derived.Laws.IdiomArrays
import Derived.Deep.Strs
import Derived.Deep.Slices
import Derived.SizedLaws
import Derived.Test.YtiginhbnaloghaaPd09
import Derived.Test.YtiginhbnaloghaaRows
import Derived.Test.YtiginhbnaloghaaPd03
import Derived.Test.YtiginhbnaloghaaPd06
import Derived.Test.YtiginhbnaloghaaPd04
import Derived.Test.YtiginhbnaloghaaProg
set_option maxRecDepth 100000
set_option linter.unusedVariables false
set_option linter.unusedSimpArgs false
set_option linter.unnecessarySimpa false
noncomputable section
namespace Go.Proofs.Ytiginhbnaloghaa.Ex
open Go.Proofs.Try
open Go.RowKit
theorem nB (a b:Int) (w:World):(Op.equalIn 9999 3 (iV a) (iV b)).run prog w=.ok (decide (a=b)) w:=by
 exact run_equalIn_int (P:=prog) w 9998 3 .i64 .i64 a b (by kernel_rfl)
theorem WQ (cs:List Value) (off:Nat) (h:off+1≤cs.length) (w:World):(part 3 cs.toArray off).run prog w=.ok (FF false ((cs.drop off).take 1)) w:=by
 have:=jP (P:=prog) (t:=3) (n:=1) (by kernel_rfl) (by kernel_rfl) (fun _=>rfl) cs off h w;rw[show iC prog 3=false by kernel_rfl]at this;exact this
theorem BS (a b c d a' b' c' d':Int) (w:World):(Op.equalIn 10000 45 (.agg #[iV a,iV b,iV c,iV d]) (.agg #[iV a',iV b',iV c',iV d'])).run prog w=.ok (decide (a=a'∧b=b'∧c=c'∧d=d')) w:=by
 refine (gK (P:=prog) w 9999 45 4 3 1 _ _ (by kernel_rfl) (by kernel_rfl)).trans ?_;have p:∀(x y z u:Int) (i:Nat) (h:i+1≤4) (w:World),(part 3 #[iV x,iV y,iV z,iV u] i).run prog w=.ok (FF false (([iV x,iV y,iV z,iV u].drop i).take 1)) w:=fun x y z u i h w=>WQ [iV x,iV y,iV z,iV u] i h w
 simp only[gM,Sem.run_bind,Nat.zero_mul,Nat.mul_one,Nat.zero_add,Nat.reduceAdd,Nat.reduceMul,p _ _ _ _ 0 (by omega),p _ _ _ _ 1 (by omega),p _ _ _ _ 2 (by omega),p _ _ _ _ 3 (by omega),List.drop,List.take,FF,nB,Result.andThen_ok]
 by_cases h1:a=a'
 ·by_cases h2:b=b'
  ·by_cases h3:c=c'
   ·by_cases h4:d=d'
    ·simp[h1,h2,h3,h4,p,FF,nB]
    ·simp[h1,h2,h3,h4,p,FF,nB]
   ·simp[h1,h2,h3,p,FF,nB]
  ·simp[h1,h2,p,FF,nB]
 ·simp[h1,p,FF,nB]
def wG:List At→Bool
 | [.c (.int .i64 _),.c (.int .i64 _),.c (.int .i64 _),.c (.int .i64 _)]=>true
 | _=>false
theorem tD {l:List At} (h:wG l=true):∃a b c d:Int,l=[.c (iV a),.c (iV b),.c (iV c),.c (iV d)]:=by
 unfold wG at h;split at h
 ·exact⟨_,_,_,_,rfl⟩
 ·cases h
def qI:EqT:={ qG prog with q:=fun t=>bif Nat.beq t 45 then some 4 else (qG prog).q t,n:=fun t=>bif Nat.beq t 45 then some 4 else (qG prog).n t,fit:=fun t l=>bif Nat.beq t 45 then wG l else (qG prog).fit t l }
theorem WP:qF prog qI:=by
 obtain⟨⟨h1,h2⟩,h3⟩:=bD prog;refine⟨fun t n h => ?_,fun t n h => ?_⟩
 ·by_cases e:Nat.beq t 45=true
  ·have ht:=Nat.eq_of_beq_eq_true e;subst ht;refine⟨by kernel_rfl,fun l w hl hf => ?_⟩;obtain⟨a,b,c,d,rfl⟩:=tD (show wG l=true from hf);refine (BS a b c d a b c d w).trans ?_;rw[decide_eq_true ⟨rfl,rfl,rfl,rfl⟩]
  ·have e':Nat.beq t 45=false:=Bool.eq_false_iff.2 e;have h':(qG prog).q t=some n:=by
    have:(bif Nat.beq t 45 then some 4 else (qG prog).q t)=some n:=h;rw[e']at this;exact this
   obtain⟨g1,g2⟩:=h1 t n h';refine⟨g1,fun l w hl hf=>g2 l w hl ?_⟩;have:(bif Nat.beq t 45 then wG l else (qG prog).fit t l)=true:=hf;rw[e']at this;exact this
 ·by_cases e:Nat.beq t 45=true
  ·have ht:=Nat.eq_of_beq_eq_true e;subst ht;refine⟨by kernel_rfl,fun l m w hl hm hf hg hne => ?_⟩;obtain⟨a,b,c,d,rfl⟩:=tD (show wG l=true from hf);obtain⟨a',b',c',d',rfl⟩:=tD (show wG m=true from hg);refine (BS a b c d a' b' c' d' w).trans ?_;rw[decide_eq_false]
   rintro⟨rfl,rfl,rfl,rfl⟩
   exact hne rfl
  ·have e':Nat.beq t 45=false:=Bool.eq_false_iff.2 e;have h':(qG prog).n t=some n:=by
    have:(bif Nat.beq t 45 then some 4 else (qG prog).n t)=some n:=h;rw[e']at this;exact this
   obtain⟨g1,g2⟩:=h2 t n h';have c:∀l:List At,(bif Nat.beq t 45 then wG l else (qG prog).fit t l)=true→(qG prog).fit t l=true:=fun l hf=>by
    rw[e']at hf;exact hf
   exact⟨g1,fun l m w hl hm hf hg hne=>g2 l m w hl hm (c l hf) (c m hg) hne⟩
def XP (N:Nat) (f:Nat→Nat) (log:Nat):List CA→Option (List Prop×FR)
 | [.s l n m,.v (.im (.int .i64 z)),.v (.fl r)]=>match mI r with
  | some x=>some ([aC l=aC (aS (el f) 0 N),n=N,N≤m,(∀j,j<N→f j<bJ),N≤65536,x<bJ,z=Int.ofNat log,ZX N f (Int.ofNat log) x=0],⟨aS (el (CP N f log x)) 0 (2^log),2^log,2^log,[.im (.int .i64 0)]⟩)
  | none=>none
 | _=>none
theorem PT {N log:Nat} {f:Nat→Nat}:∀cs pre r,XP N f log cs=some (pre,r)→aQ pre→∀(args:List Value) (w:World),cQ w cs args→Calls prog 9 args.toArray w (fun e w'=>r.ok w e w'):=by
 intro cs pre r hg hp args w ha;unfold XP at hg;split at hg
 ·rename_i l n m z r0;split at hg
  ·rename_i x hx;cases hg
   match args,ha with
   | [a1,a2,a3],ha =>
    have h2:a2=iV z:=ha.2.1;have h3:a3=.agg (aC r0).toArray:=ha.2.2.1;rw[cH r0 x hx]at h3;obtain⟨p1,p2,p3,p4,p5,p6,p7,p8,_⟩:=hp;subst h2; subst h3; subst p7;exact (GC (LV.ofS ha.1 p1 p2 p3 p4) (by omega) p6).2 p8
   | [],ha=>exact ha.elim
   | [_],ha=>exact ha.2.elim
   | [_,_],ha=>exact ha.2.2.elim
   | _::_::_::_::_,ha=>exact ha.2.2.2.elim
  ·cases hg
 ·cases hg
def YJ (N:Nat) (f:Nat→Nat):List CA→Option (List Prop×FR)
 | [.s l n m,.v (.fl r)]=>match mI r with
  | some x=>some ([aC l=aC (aS (el f) 0 N),n=N,N≤m,(∀j,j<N→f j<bJ),N≤65536,x<bJ,jA N f x=0],⟨aS (el (rF x (aD f N) f)) 0 (zE x (aD f N) f),zE x (aD f N) f,zE x (aD f N) f,[.fl [.q (XI x (aD f N) f)],.im (.int .i64 0)]⟩)
  | none=>none
 | _=>none
theorem QK {N:Nat} {f:Nat→Nat}:∀cs pre r,YJ N f cs=some (pre,r)→aQ pre→∀(args:List Value) (w:World),cQ w cs args→Calls prog 16 args.toArray w (fun e w'=>r.ok w e w'):=by
 intro cs pre r hg hp args w ha;unfold YJ at hg;split at hg
 ·rename_i l n m r0;split at hg
  ·rename_i x hx;cases hg
   match args,ha with
   | [a1,a3],ha =>
    have h3:a3=.agg (aC r0).toArray:=ha.2.1;rw[cH r0 x hx]at h3;obtain⟨p1,p2,p3,p4,p5,p6,p8,_⟩:=hp;subst h3;exact (pD (LV.ofS ha.1 p1 p2 p3 p4) (by omega) p6).2 p8
   | [],ha=>exact ha.elim
   | [_],ha=>exact ha.2.elim
   | _::_::_::_,ha=>exact ha.2.2.elim
  ·cases hg
 ·cases hg
def EI (N:Nat) (f:Nat→Nat) (M:Nat) (g:Nat→Nat):jB
 | [c,d]=>match EV N f c,EV M g d with
  | some p,some q=>some (p++(q++[N≤4611686018427387904,jW N f M g]),.one (.im (.bool true)))
  | _,_=>none
 | _=>none
theorem BK {N M:Nat} {f g:Nat→Nat}:∀cs pre r,EI N f M g cs=some (pre,r)→aQ pre→∀(args:List Value) (w:World),cQ w cs args→bC prog 13 r args w:=by
 intro cs pre r hg hp args w ha;unfold EI at hg;split at hg
 ·rename_i c d;split at hg
  ·rename_i p q hc hd;cases hg;rw[bM,bM]at hp;have h:=XW (N:=N) (M:=M) (f:=f) (g:=g) [c,d] (p++(q++[N≤4611686018427387904])) (.one (.im (.bool (decide (jW N f M g))))) (by unfold Kl; simp only[hc,hd]) (by rw[bM,bM]; exact⟨hp.1,hp.2.1,hp.2.2.1,trivial⟩) args w ha;rw[decide_eq_true hp.2.2.2.1]at h;exact h
  ·cases hg
 ·cases hg
def lA (j:Nat):Nat:=if j=0 then 1 else 2
def lB (j:Nat):Nat:=if j=0 then TB 1 else if j=1 then 0 else 1
def lC (j:Nat):Nat:=if j=0 then 3 else TB 1
def lD (_:Nat):Nat:=1
def lX (j:Nat):Int:=if j=0 then 1 else if j=1 then 2 else if j=2 then 3 else 4
def Lk:Tab2:=(tM.add 9 (XP 2 lA 1)).add 16 (YJ 3 lB)
def lN:Nat:=zE 1 (aD lB 3) lB
def An (_:Nat):Cfg:=⟨fun s=>(SL.add 24 (Im lX)).add 13 (bif Nat.beq s 47 then EI 2 (CP 2 lA 1 1) 2 lC else EI lN (rF 1 (aD lB 3) lB) 2 lD),fun _=>true,aE [(37,iV 0),(40,iV 0),(41,.bool true)]⟩
def fR:Code:=(f15.body).getD .skip
theorem SF:fR=.seq (cA fR) (.seq (cA (cB fR)) (.seq (cA (cB (cB fR))) (.seq (cA (cB (cB (cB fR)))) (cB (cB (cB (cB fR))))))):=by kernel_rfl
def Iu:List Fact:=[.slot 1 (.sl 14 0 2 2),.row 14 true [.q (CP 2 lA 1 1 0),.q (CP 2 lA 1 1 1)],.slot 2 (.im (iV 0))]
def It:List Fact:=.slot 3 (.sl 23 0 2 2) :: .row 23 true [.q (rF 1 (aD lB 3) lB 0),.q (rF 1 (aD lB 3) lB 1)] :: .slot 4 (.pt 4 0) :: .row 4 true [.q (XI 1 (aD lB 3) lB)] :: .slot 5 (.im (iV 0))::Iu
def Lh:List Fact:=.slot 6 (.pt 6 0) :: .row 6 true (x4 (Fm lX)) :: .slot 7 (.pt 7 0) :: .row 7 true (x4 (Fr lX)) :: .slot 8 (.im (iV (Fs lX)))::It
def qA:EqT:={ qI with x:=Ie Lk }
theorem Hq:aK prog qA f15.ntmps An 60 (cA fR) [] []=some ([],.nrm,[]):=by kernel_rfl
theorem Hp:aK prog qA f15.ntmps An 60 (cA (cB fR)) [] Iu=some ([aC [.f ⟨1,by decide⟩,.f ⟨2,by decide⟩]=aC (aS (el lA) 0 2),2=2,2≤2,∀j,j<2→lA j<bJ,2≤65536,1<bJ,1=Int.ofNat 1,ZX 2 lA (Int.ofNat 1) 1=0],.nrm,Iu):=by kernel_rfl
theorem Ho:aK prog qA f15.ntmps An 60 (cA (cB (cB fR))) Iu It=some ([aC [.q (TB 1),.f ⟨0,cS⟩,.f ⟨1,by decide⟩]=aC (aS (el lB) 0 3),3=3,3≤3,∀j,j<3→lB j<bJ,3≤65536,1<bJ,jA 3 lB 1=0],.nrm,It):=by kernel_rfl
theorem Hn:aK prog qA f15.ntmps An 60 (cA (cB (cB (cB fR)))) It Lh=some ([aC (x4 lX)=aC (x4 lX)],.nrm,Lh):=by kernel_rfl
def Lz:List Prop:=[aF .add .i64 0 0=some (iV 0),aF .add .i64 0 (Fs lX)=some (iV 0),aF .eql .i64 0 0=some (.bool true),
 aC [.q (CP 2 lA 1 1 0),.q (CP 2 lA 1 1 1)]=aC (aS (el (CP 2 lA 1 1)) 0 2),2=2,∀j,j<2→CP 2 lA 1 1 j<bJ,aC [.f ⟨3,by decide⟩,.q (TB 1)]=aC (aS (el lC) 0 2),2=2,∀j,j<2→lC j<bJ,2≤4611686018427387904,jW 2 (CP 2 lA 1 1) 2 lC,
 aC [.q (rF 1 (aD lB 3) lB 0),.q (rF 1 (aD lB 3) lB 1)]=aC (aS (el (rF 1 (aD lB 3) lB)) 0 lN),2=lN,∀j,j<lN→rF 1 (aD lB 3) lB j<bJ,aC [.f ⟨1,by decide⟩,.f ⟨1,by decide⟩]=aC (aS (el lD) 0 2),2=2,∀j,j<2→lD j<bJ,lN≤4611686018427387904,jW lN (rF 1 (aD lB 3) lB) 2 lD,
 aC [.q (XI 1 (aD lB 3) lB)]=aC [.f ⟨0,cS⟩],aC (x4 (Fm lX))=aC [.c (iV 10),.c (iV (-2)),.c (iV (-2)),.c (iV (-2))],aC (x4 (Fr lX))=aC [.c (iV 0),.c (iV 2),.c (iV 0),.c (iV (-2))]]
theorem Hm:aK prog qA f15.ntmps An 60 (cB (cB (cB (cB fR)))) Lh [.slot 0 (.im (.bool true))]=some (Lz,.rt,[.slot 0 (.im (.bool true))]):=by kernel_rfl
theorem Hl (r:Nat):∀j,j<2→FJ (tU (aD lA 2) (FD lA 1 1) 1) (2^1) (iJ 1 r) 1 j=lC j
 | 0,_=>by kernel_rfl
 | 1,_=>by kernel_rfl
theorem LX:∀j,j<2→CP 2 lA 1 1 j=lC j:=Hl (DE 1)
theorem Ik {p:Nat→Prop} (h0:p 0) (h1:p 1):∀j,j<2→p j
 | 0,_=>h0
 | 1,_=>h1
theorem Dy:lN=2:=by kernel_rfl
theorem Dv:rF 1 (aD lB 3) lB 0=1:=by kernel_rfl
theorem Du:rF 1 (aD lB 3) lB 1=1:=by kernel_rfl
theorem TR:∀j,j<2→lC j<bJ:=Ik (by decide) (by decide)
theorem ZP:aQ Lz:=by
 refine⟨rfl,by kernel_rfl,rfl,rfl,rfl,fun j hj=>by rw[LX j hj]; exact TR j hj,by kernel_rfl,rfl,TR,by omega,⟨rfl,LX⟩,?_,Dy.symm,?_,by kernel_rfl,rfl,fun j hj=>by show 1<bJ; decide,by rw[Dy]; omega,?_,by kernel_rfl,by kernel_rfl,by kernel_rfl,trivial⟩
 ·rw[Dy]; rfl
 ·rw[Dy]; exact Ik (by rw[Dv]; decide) (by rw[Du]; decide)
 ·rw[Dy]; exact⟨rfl,Ik Dv Du⟩
theorem Dh (w:World) (n d:Nat):TabOkW prog ((An n).T d) w.heap.size w:=by
 refine TabOk.w ?_ _ _;show TabOk prog ((SL.add 24 (Im lX)).add 13 (bif Nat.beq d 47 then EI 2 (CP 2 lA 1 1) 2 lC else EI lN (rF 1 (aD lB 3) lB) 2 lD));refine (TK.add func24 (by kernel_rfl) (by kernel_rfl) (YK (vJ lX))).add func13 (by kernel_rfl) (by kernel_rfl) ?_;cases Nat.beq d 47
 ·exact BK
 ·exact BK
theorem Da (w:World):bF prog qA w.heap.size w :=
 ⟨WP,(xH (base:=w.heap.size) (w:=w) fun w' hw=>((FrAt.none _ _).add func9 (by kernel_rfl) (by kernel_rfl) fun cs pre r h1 h2 args ha=>PT cs pre r h1 h2 args w' ha).add func16 (by kernel_rfl) (by kernel_rfl) fun cs pre r h1 h2 args ha=>QK cs pre r h1 h2 args w' ha).2⟩
theorem wW (w:World):bC prog 15 (.one (.im (.bool true))) [] w:=by
 have hG:=Da w;have hT:=Dh w;refine bO func15 (cs:=[]) (args:=[]) (c:=fR) rfl trivial (Nat.le_of_ble_eq_true (by kernel_rfl)) fun a w1 hA => ?_
 rw[SF];refine wp_seq (aA aJ hT hG Hq trivial hA fun a w1 hA => ?_);refine wp_seq (aA aJ hT hG Hp ⟨by kernel_rfl,rfl,by omega,Ik (by decide) (by decide),by omega,by decide,rfl,by kernel_rfl,trivial⟩ hA fun a w1 hA => ?_);refine wp_seq (aA aJ hT hG Ho ⟨by kernel_rfl,rfl,by omega,fun j hj=>by match j,hj with|0,_=>decide|1,_=>decide|2,_=>decide,by omega,by decide,by kernel_rfl,trivial⟩ hA fun a w1 hA => ?_);refine wp_seq (aA aJ hT hG Hn ⟨rfl,trivial⟩ hA fun a w1 hA => ?_);exact aA aJ hT hG Hm ZP hA fun a w' hA=>bE (l:=[.im (.bool true)]) (r:=.one (.im (.bool true))) (by kernel_rfl) (by kernel_rfl) hA
theorem LW.on {w w':World} {v:Value} {N:Nat} {f:Nat→Nat} (h:LW w v N f) (hb:Below w.heap.size w w'):LW w' v N f:=by
 obtain⟨p,m,h1,h3,h4⟩:=h;refine⟨p,m,h1,h3,fun h0 => ?_⟩;obtain⟨b,o,e,g1,g2⟩:=h4 h0;exact⟨b,o,e,Nat.lt_of_lt_of_le g1 hb.size,cY hb g1 g2⟩
def Alk (w:World) (u u':Value):Prop:=∃n g g',LW w u n g∧LW w u' n g'∧(∀j,j<n→g j=g' j)∧n≤4611686018427387904
theorem Alk.on {w w':World} {u u':Value} (h:Alk w u u') (hb:Below w.heap.size w w'):Alk w' u u':=by
 obtain⟨n,g,g',h1,h2,h3⟩:=h;exact⟨n,g,g',h1.on hb,h2.on hb,h3⟩
def XX (w:World):jB
 | [.v (.im u),.v (.im u')]=>some ([Alk w u u'],.one (.im (.bool true)))
 | _=>none
theorem QC {w w':World} (hb:Below w.heap.size w w'):∀cs pre r,XX w cs=some (pre,r)→aQ pre→∀(args:List Value),cQ w' cs args→bC prog 13 r args w':=by
 intro cs pre r hg hp args ha;unfold XX at hg;split at hg
 ·cases hg;obtain⟨n,g,g',h1,h2,h3,h4⟩:=hp.1.on hb
  match args,ha with
  | [a1,a2],ha =>
   have e1:a1=_:=ha.1;have e2:a2=_:=ha.2.1;subst e1; subst e2;have h:=uA h1 h2 h4;rw[decide_eq_true (show jW n g n g' from⟨rfl,h3⟩)]at h;exact h
  | [],ha=>exact ha.elim
  | [_],ha=>exact ha.2.elim
  | _::_::_::_,ha=>exact ha.2.2.elim
 ·cases hg
theorem Holds.imTu {nt base:Nat} {w0:World} {A:List Fact} {a:Act} {w:World} (h:Holds nt base w0 A a w) {s:Nat} {v:Value} {l:List TV} (h1:Fact.slot s (.im v)∈A) (e:v=.tuple (l.map TV.den).toArray):Holds nt base w0 (.slot s (.tu l)::A) a w:=by
 obtain⟨β,g1,g2,g3⟩:=h.facts;have e1:=g1 _ h1;have up:∀k1 o1 l1,Fact.row k1 o1 l1∈(Fact.slot s (.tu l)::A)→Fact.row k1 o1 l1∈A:=fun k1 o1 l1 q=>by
  rcases List.mem_cons.1 q with q|q
  ·cases q
  ·exact q
 refine⟨h.defers,h.size,h.below,h.heap,β,fun φ hφ => ?_,fun k1 k2 o2 l1 l2 q1 q2=>g2 k1 k2 o2 l1 l2 (up _ _ _ q1) (up _ _ _ q2),fun k1 l1 q=>g3.1 k1 l1 (up _ _ _ q),g3.2⟩
 rcases List.mem_cons.1 hφ with rfl|hφ
 ·show a.tmps[s]?=some (.tuple (l.map TV.den).toArray);rw[←e]; exact e1
 ·exact g1 φ hφ
def iQ:Code:=(f4.body).getD .skip
def Ak:Array Oper:=aT (cA (cB iQ))
def Aj:Array Oper:=aT (cA (cB (cB iQ)))
def Ai:Array Oper:=aT (cA (cB (cB (cB iQ))))
def Ah:Array Oper:=aT (cA (cB (cB (cB (cB iQ)))))
def La:Code:=cB (cB (cB (cB (cB iQ))))
theorem RK:iQ=.seq (cA iQ) (.seq (.region 1 Ak false) (.seq (.region 2 Aj false) (.seq (.region 3 Ai false) (.seq (.region 4 Ah false) La)))):=by kernel_rfl
def YW (v:Value) (z:Int) (x:Nat):List Fact:=[.slot 0 (.im v),.slot 2 (.im (iV z)),.slot 4 (.pt 4 0),.row 4 true [.q x]]
theorem Fy (v:Value) (z:Int) (x:Nat):aK prog (qG prog) f4.ntmps (bU fun _=>none) 40 (cA iQ) (eK 0 [.v (.im v),.v (.fl [.q x]),.v (.im (iV z))]) (YW v z x)=some ([],.nrm,YW v z x):=by kernel_rfl
theorem Gg (v:Value) (z:Int) (x:Nat):dV prog (qG prog) f4.ntmps bW (Ak.extract 0 2) (YW v z x) (.slot 20 (.im v) :: .slot 21 (.fl [.q x])::YW v z x)=some ([],.slot 20 (.im v) :: .slot 21 (.fl [.q x])::YW v z x):=by kernel_rfl
def FE (u:Value) (r:Nat) (e:Int):List TV:=[.im u,.fl [.q r],.im (iV e)]
def Gj (v:Value) (z:Int) (p4 u1:Value) (e1:Int):List Fact:=[.slot 0 (.im v),.slot 2 (.im (iV z)),.slot 4 (.im p4),.slot 7 (.im u1),.slot 9 (.im (iV e1))]
theorem Gf (v p4 u1:Value) (z e1:Int) (r1:Nat):dV prog (qG prog) f4.ntmps bW (Ak.extract 3 11) [.slot 22 (.tu (FE u1 r1 e1)),.slot 0 (.im v),.slot 2 (.im (iV z)),.slot 4 (.im p4)] (.slot 8 (.pt 8 0) :: .row 8 true [.q r1]::Gj v z p4 u1 e1)=some ([],.slot 8 (.pt 8 0) :: .row 8 true [.q r1]::Gj v z p4 u1 e1):=by kernel_rfl
theorem Ge (w:World) (v u1:Value) (z e1:Int) (x r1 b4:Nat):dV prog { qG prog with x:=xO w (fun _=>none) (aE [(28,[.q x])]) (fun _=>none) } f4.ntmps bW (Aj.extract 0 2) (.slot 8 (.pt 8 0) :: .row 8 true [.q r1]::Gj v z (cE b4 0) u1 e1) (.slot 27 (.im v) :: .slot 28 (.fl [.q x]) :: .slot 8 (.pt 8 0) :: .row 8 true [.q r1]::Gj v z (cE b4 0) u1 e1)=some ([oldOf w b4 0 [.q x],cN [.q x]=4],.slot 27 (.im v) :: .slot 28 (.fl [.q x]) :: .slot 8 (.pt 8 0) :: .row 8 true [.q r1]::Gj v z (cE b4 0) u1 e1):=by kernel_rfl
def Gi (v:Value) (z:Int) (u1 p8 u2:Value) (e1 e2:Int):List Fact:=[.slot 0 (.im v),.slot 2 (.im (iV z)),.slot 7 (.im u1),.slot 8 (.im p8),.slot 9 (.im (iV e1)),.slot 10 (.im u2),.slot 12 (.im (iV e2))]
theorem Gd (v u1 p8 u2:Value) (z e1 e2:Int) (r2:Nat):dV prog (qG prog) f4.ntmps bW (Aj.extract 3 11) [.slot 29 (.tu (FE u2 r2 e2)),.slot 0 (.im v),.slot 2 (.im (iV z)),.slot 7 (.im u1),.slot 8 (.im p8),.slot 9 (.im (iV e1))] (.slot 11 (.pt 11 0) :: .row 11 true [.q r2]::Gi v z u1 p8 u2 e1 e2)=some ([],.slot 11 (.pt 11 0) :: .row 11 true [.q r2]::Gi v z u1 p8 u2 e1 e2):=by kernel_rfl
theorem Gc (v u1 p8 u2:Value) (z e1 e2:Int) (r2:Nat):dV prog (qG prog) f4.ntmps bW (Ai.extract 0 2) (.slot 11 (.pt 11 0) :: .row 11 true [.q r2]::Gi v z u1 p8 u2 e1 e2) (.slot 34 (.im v) :: .slot 35 (.im (iV z)) :: .slot 11 (.pt 11 0) :: .row 11 true [.q r2]::Gi v z u1 p8 u2 e1 e2)=some ([],.slot 34 (.im v) :: .slot 35 (.im (iV z)) :: .slot 11 (.pt 11 0) :: .row 11 true [.q r2]::Gi v z u1 p8 u2 e1 e2):=by kernel_rfl
def CT (u u':Value) (e:Int):List TV:=[.im u,.im u',.im (iV e)]
def Gh (v:Value) (z:Int) (u1 p8 u2 p11 u3 u4:Value) (e1 e2 e3:Int):List Fact:=[.slot 0 (.im v),.slot 2 (.im (iV z)),.slot 7 (.im u1),.slot 8 (.im p8),.slot 9 (.im (iV e1)),.slot 10 (.im u2),.slot 11 (.im p11),.slot 12 (.im (iV e2)),.slot 13 (.im u3),.slot 14 (.im u4),.slot 15 (.im (iV e3))]
theorem Gb (v u1 p8 u2 p11 u3 u4:Value) (z e1 e2 e3:Int):dV prog (qG prog) f4.ntmps bW (Ai.extract 3 10) [.slot 36 (.tu (CT u3 u4 e3)),.slot 0 (.im v),.slot 2 (.im (iV z)),.slot 7 (.im u1),.slot 8 (.im p8),.slot 9 (.im (iV e1)),.slot 10 (.im u2),.slot 11 (.im p11),.slot 12 (.im (iV e2))] (Gh v z u1 p8 u2 p11 u3 u4 e1 e2 e3)=some ([],Gh v z u1 p8 u2 p11 u3 u4 e1 e2 e3):=by kernel_rfl
theorem Ga (v u1 p8 u2 p11 u3 u4:Value) (z e1 e2 e3:Int):dV prog (qG prog) f4.ntmps bW (Ah.extract 0 2) (Gh v z u1 p8 u2 p11 u3 u4 e1 e2 e3) (.slot 41 (.im v) :: .slot 42 (.im (iV z))::Gh v z u1 p8 u2 p11 u3 u4 e1 e2 e3)=some ([],.slot 41 (.im v) :: .slot 42 (.im (iV z))::Gh v z u1 p8 u2 p11 u3 u4 e1 e2 e3):=by kernel_rfl
def Ky (u1 p8 u2 p11 u3 u4 u5 u6:Value) (e1 e2 e3 e4:Int):List Fact:=[.slot 7 (.im u1),.slot 8 (.im p8),.slot 9 (.im (iV e1)),.slot 10 (.im u2),.slot 11 (.im p11),.slot 12 (.im (iV e2)),.slot 13 (.im u3),.slot 14 (.im u4),.slot 15 (.im (iV e3)),.slot 16 (.im u5),.slot 17 (.im u6),.slot 18 (.im (iV e4))]
theorem Fz (u1 p8 u2 p11 u3 u4 u5 u6:Value) (e1 e2 e3 e4:Int):dV prog (qG prog) f4.ntmps bW (Ah.extract 3 10) [.slot 43 (.tu (CT u5 u6 e4)),.slot 7 (.im u1),.slot 8 (.im p8),.slot 9 (.im (iV e1)),.slot 10 (.im u2),.slot 11 (.im p11),.slot 12 (.im (iV e2)),.slot 13 (.im u3),.slot 14 (.im u4),.slot 15 (.im (iV e3))] (Ky u1 p8 u2 p11 u3 u4 u5 u6 e1 e2 e3 e4)=some ([],Ky u1 p8 u2 p11 u3 u4 u5 u6 e1 e2 e3 e4):=by kernel_rfl
def Kz (w:World) (_:Nat):Cfg:=⟨fun _=>(SL.add 15 (g0 (.one (.im (.bool true))))).add 13 (XX w),fun _=>true,aE [(59,.bool true),(75,.bool true)]⟩
theorem Kx (w:World) (u1 u2 u3 u4 u5 u6:Value) (b8 b11 r e e':Nat) (E E':Int):aK prog { qG prog with x:=xO w (fun _=>none) (aE [(51,[.q r]),(52,[.q r])]) (fun _=>none) } f4.ntmps (Kz w) 60 La (Ky u1 (cE b8 0) u2 (cE b11 0) u3 u4 u5 u6 E E E' E') [.slot 6 (.im (.bool true))] =
  some ([Alk w u1 u2,oldOf w b8 0 [.q r],cN [.q r]=4,oldOf w b11 0 [.q r],cN [.q r]=4,aC [.q r]=aC [.q r],aF .eql .i64 E E=some (.bool true),Alk w u3 u5,Alk w u4 u6,aF .eql .i64 E' E'=some (.bool true)],.rt,[.slot 6 (.im (.bool true))]):=by kernel_rfl
def Ma (w0:World) (n:Nat) (g:Nat→Nat) (r:Nat) (e:Int) (en:Ending) (w':World):Prop:=∃u,en=.returned (.tuple ((FE u r e).map TV.den).toArray)∧Below w0.heap.size w0 w'∧LW w' u n g
theorem AO (e:Int):RV.den (.many [.im (.slice none 0 0),.fl FB,.im (.int .i64 e)])=.tuple ((FE eE 0 e).map TV.den).toArray:=by kernel_rfl
theorem JP {p0:Option Addr} {N m0 x:Nat} {f:Nat→Nat} (hN:N≤4611686018427387904) (hx:x<bJ):∃(n:Nat) (g g':Nat→Nat) (r:Nat) (e:Int),
  (∀w,LV w (.slice p0 N m0) N f→Calls prog 16 #[.slice p0 N m0,.agg (aC [At.q x]).toArray] w (Ma w n g r e)) ∧
  (∀w,LV w (.slice p0 N m0) N f→Calls prog 17 #[.slice p0 N m0,.agg (aC [At.q x]).toArray] w (Ma w n g' r e))∧(∀j,j<n→g j=g' j)∧n≤4611686018427387904:=by
 by_cases he:jA N f x=0
 ·obtain⟨q1,q2,q3⟩:=pX he;obtain⟨s1,s2,s3⟩:=PN (x:=x) q2;have hl:=bL (mX x N f N) N;refine⟨aD (mX x N f N) N,rF x (aD f N) f,mX x N f N,mW x N f N,0,fun w hv => ?_,fun w hv => ?_,fun j hj=>s2 j (by rw[s1]; exact hj),by omega⟩
  ·refine ((pD hv hN hx).2 he).mono ?_
   rintro e w' ⟨b,rfl,hb,h1,h2,h3,h4⟩
   rw[←s1,←s3];exact⟨_,rfl,hb,_,_,rfl,fun j hj=>by rw[s2 j hj]; exact fS (sY _ _ _ _ _),fun _=>⟨b,0,rfl,h2,h3⟩⟩
  ·by_cases h0:aD (mX x N f N) N=0
   ·refine ((mM hv hx).2.1 he h0).mono ?_
    rintro e w' ⟨rfl,hb⟩
    rw[h0];exact⟨eE,rfl,hb,MH w' _⟩
   ·refine ((mM hv hx).2.2 he (by omega)).mono ?_
    rintro e w' ⟨b,cap,rfl,hb,h1,h2,h3,h4,_⟩
    exact⟨_,rfl,hb,_,_,rfl,fun j hj=>fS (sY _ _ _ _ _),fun _=>⟨b,0,rfl,h2,h3⟩⟩
 ·refine⟨0,fun _=>0,fun _=>0,0,jA N f x,fun w hv => ?_,fun w hv => ?_,fun j hj=>rfl,by omega⟩
  ·refine ((pD hv hN hx).1 he).mono ?_
   rintro e w' ⟨rfl,hb⟩
   exact⟨eE,congrArg _ (AO _),hb,MH w' _⟩
  ·refine ((mM hv hx).1 he).mono ?_
   rintro e w' ⟨rfl,hb⟩
   exact⟨eE,congrArg _ (AO _),hb,MH w' _⟩
theorem GA {p0:Option Addr} {N m0:Nat} {f:Nat→Nat} {z:Int} (hp:p0=none→m0=0) (hN:N≤4611686018427387904):∃(n:Nat) (g h:Nat→Nat) (n':Nat) (g' h':Nat→Nat) (e:Int),
  (∀w,LV w (.slice p0 N m0) N f→Calls prog 18 #[.slice p0 N m0,iV z] w (Ao w n g n' g' e)) ∧
  (∀w,LV w (.slice p0 N m0) N f→Calls prog 19 #[.slice p0 N m0,iV z] w (Ao w n h n' h' e))∧(∀j,j<n→g j=h j)∧(∀j,j<n'→g' j=h' j)∧n≤4611686018427387904∧n'≤4611686018427387904:=by
 by_cases he:FY N f z=0
 ·have hc:rP N f=0:=by
   by_cases h:rP N f=0
   ·exact h
   ·unfold FY at he;rw[if_pos h]at he;exact absurd he h
  obtain⟨q1,q2⟩:=zU hc;have hfT:bQ (aD f N) f:=fun j hj=>q2 j (Nat.lt_of_lt_of_le hj (bL f N))
  have hp1:1≤2^z.toNat:=Nat.pow_pos (by omega);have hle:=bL f N;obtain⟨⟨a1,a2⟩,a3,a4⟩:=FZ hp1 hfT;have b1:=bL (vQ (2^z.toNat) (aD f N) f (aD f N-2^z.toNat)) (aD f N);have b2:=bL (vR (2^z.toNat) (aD f N) f (aD f N-2^z.toNat)) (aD f N);rw[←a1]at b1;rw[←a3]at b2;refine⟨_,_,_,_,_,_,0,fun w hv=>(tP hv hN).2 he,fun w hv => ?_,a2,a4,by omega,by omega⟩;rw[a1,a3];exact (qT hv hp).2 he
 ·refine⟨0,fun _=>0,fun _=>0,0,fun _=>0,fun _=>0,FY N f z,fun w hv => ?_,fun w hv => ?_,fun j hj=>rfl,fun j hj=>rfl,by omega,by omega⟩
  ·refine ((tP hv hN).1 he).mono ?_
   rintro e w' ⟨rfl,hb⟩
   exact⟨eE,eE,rfl,hb,MH w' _,MH w' _⟩
  ·refine ((qT hv hp).1 he).mono ?_
   rintro e w' ⟨rfl,hb⟩
   exact⟨eE,eE,rfl,hb,MH w' _,MH w' _⟩
theorem UC (c:Int):aF .eql .i64 c c=some (.bool true):=by
 show some (Value.bool (c==c))=_;simp
theorem qQ {w0:World} {p0:Option Addr} {N m0 x:Nat} {f:Nat→Nat} (z:Int) (hv:LV w0 (.slice p0 N m0) N f) (hp:p0=none→m0=0) (hN:N≤4611686018427387904) (hx:x<bJ):bC prog 4 (.one (.im (.bool true))) [.slice p0 N m0,.agg (aC [At.q x]).toArray,iV z] w0:=by
 obtain⟨n1,g1,g2,r,e1,cl,cr,hlr,hn1⟩:=JP (p0:=p0) (m0:=m0) (f:=f) hN hx;obtain⟨n3,g3,h3,n4,g4,h4,e3,cv,cw,hvw,hvw',hn3,hn4⟩:=GA (f:=f) (z:=z) hp hN;have hT:∀(base:Nat) (w:World) (d:Nat),TabOkW prog dN base w:=fun _ _ _=>aY.w _ _
 have hG:∀(base:Nat) (w:World),bF prog (qG prog) base w:=fun _ _=>(bD _).w _ _
 refine bO func4 (cs:=[.v (.im (.slice p0 N m0)),.v (.fl [.q x]),.v (.im (iV z))]) (args:=[.slice p0 N m0,.agg (aC [At.q x]).toArray,iV z]) (c:=iQ) rfl ⟨rfl,rfl,rfl,trivial⟩ (Nat.le_of_ble_eq_true (by kernel_rfl)) fun a w hA => ?_
 rw[RK];refine wp_seq (aA aJ (fun _=>hT _ _) (hG _ _) (Fy _ z x) trivial hA fun a w hA => ?_);refine wp_seq (cF (l:=List.range' 0 (Ak.extract 0 2).size++(2::(List.range' 3 (Ak.extract 3 11).size++[]))) (by kernel_rfl) ?_);refine aO (c:=bW) (hT _ _) (hG _ _) (Gg _ z x) trivial (by kernel_rfl) hA fun a w hA => ?_
 have h20:=hA.slot (s:=20) (v:=.slice p0 N m0) (by simp);have h21:=hA.slotF (s:=21) (l:=[.q x]) (by simp);obtain⟨b4,hB⟩:=hA.at (k:=4) (l:=[.q x]) (by simp[YW]);have o4:oldOf w b4 0 [.q x]:=hB.old (k:=4) (by simp[YW]) (by simp);obtain⟨o,ho,⟨ts,hoo⟩,hod,hog⟩:∃o,Ak[2]?=some o∧(∃ts,o.op=.call ⟨.value (.func 16),#[.tmp 20,.tmp 21],ts⟩)∧o.dst=some 22∧o.guard=none:=⟨_,rfl,⟨_,rfl⟩,rfl,rfl⟩
 refine cM ho hog (eH hoo (vs:=[.slice p0 N m0,.agg (aC [At.q x]).toArray]) (List.cons_eq_cons.2 ⟨wH h20,List.cons_eq_cons.2 ⟨wH h21,rfl⟩⟩) (fun args=>bG func16 (by kernel_rfl) (by kernel_rfl) args _) (cl w (hv.on hA.below)) fun e W1 hR => ?_);obtain⟨u1,rfl,hb,k1⟩:=hR;refine⟨_,rfl,?_⟩;rw[hod];have B1:Below w0.heap.size w0 W1:=hA.below.trans (hb.mono hA.below.size);have v1:=hv.on B1;have o4':=o4;have hP:=hB.put hb (d:=22) (Nat.le_of_ble_eq_true (by kernel_rfl)) (.im (.tuple ((FE u1 r e1).map TV.den).toArray)) (cK (by kernel_rfl));have hF:=hP.fresh [(22,.im (.tuple ((FE u1 r e1).map TV.den).toArray)),(0,.im (.slice p0 N m0)),(2,.im (iV z)),(4,.im (cE b4 0))] (fun y hy=>by
  simp only[List.mem_cons,List.not_mem_nil,or_false]at hy
  rcases hy with rfl|rfl|rfl|rfl
  ·exact hP.slot (s:=22) (List.mem_of_getElem? (i:=0) rfl)
  ·exact hP.slot (s:=0) (List.mem_of_getElem? (i:=4) rfl)
  ·exact hP.slot (s:=2) (List.mem_of_getElem? (i:=5) rfl)
  ·exact hP.ptr (s:=4) (k:=4) (List.mem_of_getElem? (i:=6) rfl) (List.mem_of_getElem? (i:=1) rfl))
 have hF:=hF.imTu (s:=22) (l:=FE u1 r e1) (List.mem_of_getElem? (i:=0) rfl) rfl;have hF:Holds _ _ _ [.slot 22 (.tu (FE u1 r e1)),.slot 0 (.im (.slice p0 N m0)),.slot 2 (.im (iV z)),.slot 4 (.im (cE b4 0))] _ W1:=hF.sub fun φ hφ=>by
  simp only[List.mem_cons,List.not_mem_nil,or_false]at hφ
  rcases hφ with rfl|rfl|rfl|rfl
  ·exact List.mem_of_getElem? (i:=0) rfl
  ·exact List.mem_of_getElem? (i:=2) rfl
  ·exact List.mem_of_getElem? (i:=3) rfl
  ·exact List.mem_of_getElem? (i:=4) rfl
 clear hP hB hA h20 h21;refine aO (c:=bW) (hT _ _) (hG _ _) (Gf _ _ u1 z e1 r) trivial (by kernel_rfl) hF fun a w hA => ?_
 have l1:LW w u1 n1 g1:=k1.on hA.below;have v1w:=v1.on hA.below;show (Code.seq _ _).wp _ _ _ _;refine wp_seq (cF (l:=List.range' 0 (Aj.extract 0 2).size++(2::(List.range' 3 (Aj.extract 3 11).size++[]))) (by kernel_rfl) ?_);have o4W:oldOf W1 b4 0 [.q x]:=oldOf.go hb (Nat.le_refl _) o4';refine aO (c:=bW) (hT _ _) (dH W1 _ _ _) (Ge W1 _ u1 z e1 x r b4) ⟨o4W,rfl,trivial⟩ (by kernel_rfl) hA fun a w hA => ?_
 have h27:=hA.slot (s:=27) (v:=.slice p0 N m0) (List.mem_of_getElem? (i:=0) rfl);have h28:=hA.slotF (s:=28) (l:=[.q x]) (List.mem_of_getElem? (i:=1) rfl);obtain⟨b8,hB⟩:=hA.at (k:=8) (l:=[.q r]) (List.mem_of_getElem? (i:=3) rfl);have o8:oldOf w b8 0 [.q r]:=hB.old (k:=8) (List.mem_of_getElem? (i:=4) rfl) (List.mem_of_getElem? (i:=0) rfl);obtain⟨o,ho,⟨ts,hoo⟩,hod,hog⟩:∃o,Aj[2]?=some o∧(∃ts,o.op=.call ⟨.value (.func 17),#[.tmp 27,.tmp 28],ts⟩)∧o.dst=some 29∧o.guard=none:=⟨_,rfl,⟨_,rfl⟩,rfl,rfl⟩
 refine cM ho hog (eH hoo (vs:=[.slice p0 N m0,.agg (aC [At.q x]).toArray]) (List.cons_eq_cons.2 ⟨wH h27,List.cons_eq_cons.2 ⟨wH h28,rfl⟩⟩) (fun args=>bG func17 (by kernel_rfl) (by kernel_rfl) args _) (cr w (v1.on hA.below)) fun e W2 hR => ?_);obtain⟨u2,rfl,hb2,k2⟩:=hR;refine⟨_,rfl,?_⟩;rw[hod];have B12:Below W1.heap.size W1 W2:=hA.below.trans (hb2.mono hA.below.size);have B2:Below w0.heap.size w0 W2:=B1.trans (B12.mono B1.size);have v2:=v1.on B12;have k1:=k1.on B12;have o8':=o8;have hP:=hB.put hb2 (d:=29) (Nat.le_of_ble_eq_true (by kernel_rfl)) (.im (.tuple ((FE u2 r e1).map TV.den).toArray)) (cK (by kernel_rfl));have hF:=hP.fresh [(29,.im (.tuple ((FE u2 r e1).map TV.den).toArray)),(0,.im (.slice p0 N m0)),(2,.im (iV z)),(7,.im u1),(8,.im (cE b8 0)),(9,.im (iV e1))] (fun y hy=>by
  simp only[List.mem_cons,List.not_mem_nil,or_false]at hy
  rcases hy with rfl|rfl|rfl|rfl|rfl|rfl
  ·exact hP.slot (s:=29) (List.mem_of_getElem? (i:=0) rfl)
  ·exact hP.slot (s:=0) (List.mem_of_getElem? (i:=6) rfl)
  ·exact hP.slot (s:=2) (List.mem_of_getElem? (i:=7) rfl)
  ·exact hP.slot (s:=7) (List.mem_of_getElem? (i:=9) rfl)
  ·exact hP.ptr (s:=8) (k:=8) (List.mem_of_getElem? (i:=4) rfl) (List.mem_of_getElem? (i:=1) rfl)
  ·exact hP.slot (s:=9) (List.mem_of_getElem? (i:=10) rfl))
 have hF:=hF.imTu (s:=29) (l:=FE u2 r e1) (List.mem_of_getElem? (i:=0) rfl) rfl;have hF:Holds _ _ _ [.slot 29 (.tu (FE u2 r e1)),.slot 0 (.im (.slice p0 N m0)),.slot 2 (.im (iV z)),.slot 7 (.im u1),.slot 8 (.im (cE b8 0)),.slot 9 (.im (iV e1))] _ W2:=hF.sub fun φ hφ=>by
  simp only[List.mem_cons,List.not_mem_nil,or_false]at hφ
  rcases hφ with rfl|rfl|rfl|rfl|rfl|rfl
  ·exact List.mem_of_getElem? (i:=0) rfl
  ·exact List.mem_of_getElem? (i:=2) rfl
  ·exact List.mem_of_getElem? (i:=3) rfl
  ·exact List.mem_of_getElem? (i:=4) rfl
  ·exact List.mem_of_getElem? (i:=5) rfl
  ·exact List.mem_of_getElem? (i:=6) rfl
 have o8:oldOf W2 b8 0 [.q r]:=oldOf.go hb2 (Nat.le_refl _) o8;clear hP hB hA h27 h28 hb2 o8';refine aO (c:=bW) (hT _ _) (hG _ _) (Gd _ u1 (cE b8 0) u2 z e1 e1 r) trivial (by kernel_rfl) hF fun a w hA => ?_
 show (Code.seq _ _).wp _ _ _ _;refine wp_seq (cF (l:=List.range' 0 (Ai.extract 0 2).size++(2::(List.range' 3 (Ai.extract 3 10).size++[]))) (by kernel_rfl) ?_);refine aO (c:=bW) (hT _ _) (hG _ _) (Gc _ u1 (cE b8 0) u2 z e1 e1 r) trivial (by kernel_rfl) hA fun a w hA => ?_
 have h34:=hA.slot (s:=34) (v:=.slice p0 N m0) (List.mem_of_getElem? (i:=0) rfl);have h35:=hA.slot (s:=35) (v:=iV z) (List.mem_of_getElem? (i:=1) rfl);obtain⟨b11,hB⟩:=hA.at (k:=11) (l:=[.q r]) (List.mem_of_getElem? (i:=3) rfl);have o11:oldOf w b11 0 [.q r]:=hB.old (k:=11) (List.mem_of_getElem? (i:=4) rfl) (List.mem_of_getElem? (i:=0) rfl);obtain⟨o,ho,⟨ts,hoo⟩,hod,hog⟩:∃o,Ai[2]?=some o∧(∃ts,o.op=.call ⟨.value (.func 18),#[.tmp 34,.tmp 35],ts⟩)∧o.dst=some 36∧o.guard=none:=⟨_,rfl,⟨_,rfl⟩,rfl,rfl⟩
 refine cM ho hog (eH hoo (vs:=[.slice p0 N m0,iV z]) (List.cons_eq_cons.2 ⟨wH h34,List.cons_eq_cons.2 ⟨wH h35,rfl⟩⟩) (fun args=>bG func18 (by kernel_rfl) (by kernel_rfl) args _) (cv w (v2.on hA.below)) fun e W3 hR => ?_);obtain⟨u3,u4,rfl,hb3,k3,k4⟩:=hR;refine⟨_,rfl,?_⟩;rw[hod];have B23:Below W2.heap.size W2 W3:=hA.below.trans (hb3.mono hA.below.size);have B3:Below w0.heap.size w0 W3:=B2.trans (B23.mono B2.size);have v3:=v2.on B23;have k1:=k1.on B23;have k2:=k2.on B23;have o8:=oldOf.go B23 (Nat.le_refl _) o8;have hP:=hB.put hb3 (d:=36) (Nat.le_of_ble_eq_true (by kernel_rfl)) (.im (.tuple #[u3,u4,iV e3])) (cK (by kernel_rfl));have hF:=hP.fresh [(36,.im (.tuple #[u3,u4,iV e3])),(0,.im (.slice p0 N m0)),(2,.im (iV z)),(7,.im u1),(8,.im (cE b8 0)),(9,.im (iV e1)),(10,.im u2),(11,.im (cE b11 0)),(12,.im (iV e1))] (fun y hy=>by
  simp only[List.mem_cons,List.not_mem_nil,or_false]at hy
  rcases hy with rfl|rfl|rfl|rfl|rfl|rfl|rfl|rfl|rfl
  ·exact hP.slot (s:=36) (List.mem_of_getElem? (i:=0) rfl)
  ·exact hP.slot (s:=0) (List.mem_of_getElem? (i:=6) rfl)
  ·exact hP.slot (s:=2) (List.mem_of_getElem? (i:=7) rfl)
  ·exact hP.slot (s:=7) (List.mem_of_getElem? (i:=8) rfl)
  ·exact hP.slot (s:=8) (List.mem_of_getElem? (i:=9) rfl)
  ·exact hP.slot (s:=9) (List.mem_of_getElem? (i:=10) rfl)
  ·exact hP.slot (s:=10) (List.mem_of_getElem? (i:=11) rfl)
  ·exact hP.ptr (s:=11) (k:=11) (List.mem_of_getElem? (i:=4) rfl) (List.mem_of_getElem? (i:=1) rfl)
  ·exact hP.slot (s:=12) (List.mem_of_getElem? (i:=12) rfl))
 have hF:=hF.imTu (s:=36) (l:=CT u3 u4 e3) (List.mem_of_getElem? (i:=0) rfl) rfl;have hF:Holds _ _ _ [.slot 36 (.tu (CT u3 u4 e3)),.slot 0 (.im (.slice p0 N m0)),.slot 2 (.im (iV z)),.slot 7 (.im u1),.slot 8 (.im (cE b8 0)),.slot 9 (.im (iV e1)),.slot 10 (.im u2),.slot 11 (.im (cE b11 0)),.slot 12 (.im (iV e1))] _ W3:=hF.sub fun φ hφ=>by
  simp only[List.mem_cons,List.not_mem_nil,or_false]at hφ
  rcases hφ with rfl|rfl|rfl|rfl|rfl|rfl|rfl|rfl|rfl
  ·exact List.mem_of_getElem? (i:=0) rfl
  ·exact List.mem_of_getElem? (i:=2) rfl
  ·exact List.mem_of_getElem? (i:=3) rfl
  ·exact List.mem_of_getElem? (i:=4) rfl
  ·exact List.mem_of_getElem? (i:=5) rfl
  ·exact List.mem_of_getElem? (i:=6) rfl
  ·exact List.mem_of_getElem? (i:=7) rfl
  ·exact List.mem_of_getElem? (i:=8) rfl
  ·exact List.mem_of_getElem? (i:=9) rfl
 have o11:oldOf W3 b11 0 [.q r]:=oldOf.go hb3 (Nat.le_refl _) o11;clear hP hB hA h34 h35 hb3;refine aO (c:=bW) (hT _ _) (hG _ _) (Gb _ u1 (cE b8 0) u2 (cE b11 0) u3 u4 z e1 e1 e3) trivial (by kernel_rfl) hF fun a w hA => ?_
 show (Code.seq _ _).wp _ _ _ _;refine wp_seq (cF (l:=List.range' 0 (Ah.extract 0 2).size++(2::(List.range' 3 (Ah.extract 3 10).size++[]))) (by kernel_rfl) ?_);refine aO (c:=bW) (hT _ _) (hG _ _) (Ga _ u1 (cE b8 0) u2 (cE b11 0) u3 u4 z e1 e1 e3) trivial (by kernel_rfl) hA fun a w hA => ?_
 have h41:=hA.slot (s:=41) (v:=.slice p0 N m0) (List.mem_of_getElem? (i:=0) rfl);have h42:=hA.slot (s:=42) (v:=iV z) (List.mem_of_getElem? (i:=1) rfl);obtain⟨o,ho,⟨ts,hoo⟩,hod,hog⟩:∃o,Ah[2]?=some o∧(∃ts,o.op=.call ⟨.value (.func 19),#[.tmp 41,.tmp 42],ts⟩)∧o.dst=some 43∧o.guard=none:=⟨_,rfl,⟨_,rfl⟩,rfl,rfl⟩
 refine cM ho hog (eH hoo (vs:=[.slice p0 N m0,iV z]) (List.cons_eq_cons.2 ⟨wH h41,List.cons_eq_cons.2 ⟨wH h42,rfl⟩⟩) (fun args=>bG func19 (by kernel_rfl) (by kernel_rfl) args _) (cw w (v3.on hA.below)) fun e W4 hR => ?_);obtain⟨u5,u6,rfl,hb4,k5,k6⟩:=hR;refine⟨_,rfl,?_⟩;rw[hod];have B34:Below W3.heap.size W3 W4:=hA.below.trans (hb4.mono hA.below.size);have B4:Below w0.heap.size w0 W4:=B3.trans (B34.mono B3.size);have k1:=k1.on B34;have k2:=k2.on B34;have k3:=k3.on B34;have k4:=k4.on B34;have o8:=oldOf.go B34 (Nat.le_refl _) o8;have o11:=oldOf.go B34 (Nat.le_refl _) o11;have hP:=hA.put hb4 (d:=43) (Nat.le_of_ble_eq_true (by kernel_rfl)) (.im (.tuple #[u5,u6,iV e3])) (cK (by kernel_rfl));have hF:=hP.fresh [(43,.im (.tuple #[u5,u6,iV e3])),(7,.im u1),(8,.im (cE b8 0)),(9,.im (iV e1)),(10,.im u2),(11,.im (cE b11 0)),(12,.im (iV e1)),(13,.im u3),(14,.im u4),(15,.im (iV e3))] (fun y hy=>by
  simp only[List.mem_cons,List.not_mem_nil,or_false]at hy
  rcases hy with rfl|rfl|rfl|rfl|rfl|rfl|rfl|rfl|rfl|rfl
  ·exact hP.slot (s:=43) (List.mem_of_getElem? (i:=0) rfl)
  ·exact hP.slot (s:=7) (List.mem_of_getElem? (i:=5) rfl)
  ·exact hP.slot (s:=8) (List.mem_of_getElem? (i:=6) rfl)
  ·exact hP.slot (s:=9) (List.mem_of_getElem? (i:=7) rfl)
  ·exact hP.slot (s:=10) (List.mem_of_getElem? (i:=8) rfl)
  ·exact hP.slot (s:=11) (List.mem_of_getElem? (i:=9) rfl)
  ·exact hP.slot (s:=12) (List.mem_of_getElem? (i:=10) rfl)
  ·exact hP.slot (s:=13) (List.mem_of_getElem? (i:=11) rfl)
  ·exact hP.slot (s:=14) (List.mem_of_getElem? (i:=12) rfl)
  ·exact hP.slot (s:=15) (List.mem_of_getElem? (i:=13) rfl))
 have hF:=hF.imTu (s:=43) (l:=CT u5 u6 e3) (List.mem_of_getElem? (i:=0) rfl) rfl;have hF:Holds _ _ _ [.slot 43 (.tu (CT u5 u6 e3)),.slot 7 (.im u1),.slot 8 (.im (cE b8 0)),.slot 9 (.im (iV e1)),.slot 10 (.im u2),.slot 11 (.im (cE b11 0)),.slot 12 (.im (iV e1)),.slot 13 (.im u3),.slot 14 (.im u4),.slot 15 (.im (iV e3))] _ W4:=hF.sub fun φ hφ=>by
  simp only[List.mem_cons,List.not_mem_nil,or_false]at hφ
  rcases hφ with rfl|rfl|rfl|rfl|rfl|rfl|rfl|rfl|rfl|rfl
  ·exact List.mem_of_getElem? (i:=0) rfl
  ·exact List.mem_of_getElem? (i:=2) rfl
  ·exact List.mem_of_getElem? (i:=3) rfl
  ·exact List.mem_of_getElem? (i:=4) rfl
  ·exact List.mem_of_getElem? (i:=5) rfl
  ·exact List.mem_of_getElem? (i:=6) rfl
  ·exact List.mem_of_getElem? (i:=7) rfl
  ·exact List.mem_of_getElem? (i:=8) rfl
  ·exact List.mem_of_getElem? (i:=9) rfl
  ·exact List.mem_of_getElem? (i:=10) rfl
 refine aO (c:=bW) (hT _ _) (hG _ _) (Fz u1 (cE b8 0) u2 (cE b11 0) u3 u4 u5 u6 e1 e1 e3 e3) trivial (by kernel_rfl) hF fun a w hA => ?_
 show La.wp _ _ _ _;refine aA aJ (fun _ _=>TabOkW.add ((TK.add func15 (by kernel_rfl) (by kernel_rfl) (BN wW)).w _ _) func13 (by kernel_rfl) (by kernel_rfl) fun w hw=>QC hw) (dH W4 _ _ _) (Kx W4 u1 u2 u3 u4 u5 u6 b8 b11 r 0 0 e1 e3) ⟨⟨n1,g1,g2,k1,k2,hlr,hn1⟩,o8,rfl,o11,rfl,rfl,UC _,⟨n3,g3,h3,k3,k5,hvw,hn3⟩,⟨n4,g4,h4,k4,k6,hvw',hn4⟩,UC _,trivial⟩ hA fun a w hA => ?_
 exact eP (bE (l:=[.im (.bool true)]) (r:=.one (.im (.bool true))) (by kernel_rfl) (by kernel_rfl) hA) fun e w h=>⟨h.1,B4.trans (h.2.mono B4.size)⟩
end Go.Proofs.Ytiginhbnaloghaa.Ex
namespace Go.Proofs.Ytiginhbnaloghaa
open Go.Proofs.Try
open Go.ChangeShapes Go.WideShapes Go.ChangeAt Go.RowKit
theorem nY:ownKnob prog.godebug=none:=by kernel_rfl
theorem sV:laidOutB prog=true:=by kernel_rfl
theorem CQ:prog.cellsOf 23=1:=by kernel_rfl
theorem Dm {α:Type} (l:List α) (h:(⟨l⟩:Array α).size=4):∃a b c d,l=[a,b,c,d]:=by
 match l,h with
 | [a,b,c,d],_=>exact⟨a,b,c,d,rfl⟩
theorem eN {n:Int} (h:(Lit.int .u64 n).wf=true):∃k:Nat,n=(k:Int)∧k<18446744073709551616:=by
 obtain⟨h1,h2⟩:=bounds_u64 h;obtain⟨k,rfl⟩:=Int.eq_ofNat_of_zero_le h1;exact⟨k,rfl,by omega⟩
end Go.Proofs.Ytiginhbnaloghaa
namespace Go.Proofs.Ytiginhbnaloghaa.Ex
open Go.Proofs.Try
open Go.Deep Go.ChangeShapes Go.WideShapes Go.ChangeAt Go.RowKit
theorem Hr {P:Program} {W:World} {base:Nat} {t n e:TypeId} {v:Value} (ht:P.underlying t=some (.array n e)) (h:Value.okWide P W .any base t v):∃cs,v=.agg cs∧cs.size=P.cellsOf t:=by
 obtain⟨cs,rfl,hs,_⟩:∃cs,v=.agg cs∧cs.size=P.cellsOf t∧Row.okWide P W .any base t cs:=by
  simpa[Value.okWide,ht]using h
 exact⟨cs,rfl,hs⟩
section
variable {H:Type} {enc:TypeId×Value→H} {W:World}
theorem XB {base:Nat} {v:Value} {d:DataW H} {ps:List MemPlace} {pt:Array TypeId} {args:Array Value} (hval:∀(j:Nat) t v,pt[j]?=some t→args[j]?=some v→Value.okWide prog W .any base t v) (j:Nat) (hj:pt[j]?=some 25) (ha:args[j]?=some v)
  (h:DataW.Trod enc prog W 0 (fun _=>true) true 25 v d ps):∃x:Nat,x<bJ∧v=.agg (aC [At.q x]).toArray:=by
 obtain⟨⟨l⟩,rfl,hs⟩:=Hr (t:=25) underlying25 (hval j 25 v hj ha);rw[show prog.cellsOf 25=4 by kernel_rfl]at hs;obtain⟨fuel,h⟩:=h;obtain⟨c0,c1,c2,c3,rfl⟩:=Dm l hs;obtain⟨y0,y1,y2,y3,m,hx,hy0,hy1,hy2,hy3⟩:=trod_array4 underlying25 CQ h;obtain⟨x0,e0,rfl,w0⟩:=DataW.trod_int underlying23 hy0;obtain⟨x1,e1,rfl,w1⟩:=DataW.trod_int underlying23 hy1;obtain⟨x2,e2,rfl,w2⟩:=DataW.trod_int underlying23 hy2;obtain⟨x3,e3,rfl,w3⟩:=DataW.trod_int underlying23 hy3;simp at e0 e1 e2 e3;obtain⟨a0,rfl,k0⟩:=eN w0;obtain⟨a1,rfl,k1⟩:=eN w1;obtain⟨a2,rfl,k2⟩:=eN w2;obtain⟨a3,rfl,k3⟩:=eN w3;subst e0 e1 e2 e3;have hv:aB a0 a1 a2 a3<115792089237316195423570985008687907853269984665640564039457584007913129639936:=by unfold aB; omega
 obtain⟨q0,q1',q2',q3⟩:=hZ ⟨k0,k1,k2,k3⟩ hv rfl;refine⟨aB a0 a1 a2 a3,hv,?_⟩;show _=Value.agg (w4 (aB a0 a1 a2 a3)++[]).toArray;unfold w4;rw[←q0,←q1',←q2',←q3];rfl
end
end Go.Proofs.Ytiginhbnaloghaa.Ex
namespace Go.Proofs.Ytiginhbnaloghaa
open Go.Proofs.Try
open Go.ChangeShapes Go.WideShapes Go.ChangeAt Go.RowKit
def LAt (w:World) (g off len:Nat) (A:Nat→Nat→Nat):Prop:=∀k,k<len →
 w.cell? ⟨g,off+k*4,none⟩=some (.int .u64 (A k 0))∧w.cell? ⟨g,off+k*4+1,none⟩=some (.int .u64 (A k 1)) ∧
 w.cell? ⟨g,off+k*4+2,none⟩=some (.int .u64 (A k 2))∧w.cell? ⟨g,off+k*4+3,none⟩=some (.int .u64 (A k 3))
def Mk (len:Nat) (A:Nat→Nat→Nat):Prop:=∀k,k<len→bP (A k 0) (A k 1) (A k 2) (A k 3)
theorem LAt.same {w w':World} {g off len:Nat} {A:Nat→Nat→Nat} {B:Nat} (h:LAt w g off len A) (hg:0<len→g<B) (hb:Below B w w'):LAt w' g off len A :=
 fun k hk=>have hg:=hg (Nat.lt_of_le_of_lt (Nat.zero_le _) hk); ⟨(hb.cell (p:=⟨g,off+k*4,none⟩) hg).trans (h k hk).1,(hb.cell (p:=⟨g,off+k*4+1,none⟩) hg).trans (h k hk).2.1,
  (hb.cell (p:=⟨g,off+k*4+2,none⟩) hg).trans (h k hk).2.2.1,(hb.cell (p:=⟨g,off+k*4+3,none⟩) hg).trans (h k hk).2.2.2⟩
theorem rL:prog.cellsOf 25=4:=by kernel_rfl
theorem xJ:prog.cellsOf 23=1:=by kernel_rfl
theorem XG (cs:List Value) (h:cs.length=4):∃c0 c1 c2 c3,cs=[c0,c1,c2,c3]:=by
 match cs,h with
 | [c0,c1,c2,c3],_=>exact⟨c0,c1,c2,c3,rfl⟩
theorem JD {H:Type} {enc:TypeId×Value→H} {W:World} {o:Option Addr} {len cap:Nat} {d:DataW H} {ps:List MemPlace} (h:DataW.Trod enc prog W 0 (fun _=>true) true 22 (.slice o len cap) d ps) (hl:∀x∈ps,x.block<W.heap.size) :
  len≤9223372036854775807∧(len=0∨(0<len∧∃g off A,o=some ⟨g,off,none⟩∧g<W.heap.size∧Mk len A∧LAt W g off len A)):=by
 obtain⟨fuel,hf⟩:=h
 rcases DataW.trod_slice underlying22 hf with⟨hcs,_⟩|⟨a,len',cap',elems,rest,n,_,hcs,hx,hb,hlc,hm,hlen,hel,_⟩
 ·simp[Value.cells]at hcs;obtain⟨rfl,rfl,rfl⟩:=hcs;exact⟨by omega,Or.inl rfl⟩
 ·simp[Value.cells]at hcs;obtain⟨rfl,rfl,rfl⟩:=hcs;refine⟨by unfold maxLen at hm; omega,?_⟩
  by_cases h0:len=0
  ·exact Or.inl h0
  right;refine⟨by omega,?_⟩;rw[rL]at hel;have each:∀i,i<len→∃q:Nat×Nat×Nat×Nat,bP q.1 q.2.1 q.2.2.1 q.2.2.2∧W.cell? (a.add (i*4))=some (.int .u64 q.1)∧W.cell? (a.add (i*4+1))=some (.int .u64 q.2.1)∧W.cell? (a.add (i*4+2))=some (.int .u64 q.2.2.1)∧W.cell? (a.add (i*4+3))=some (.int .u64 q.2.2.2):=by
   intro i hi;have e1:=hel i hi;rw[List.getElem?_eq_getElem (by omega),Option.bind_eq_some_iff]at e1;obtain⟨cs',h1,h2⟩:=e1;obtain⟨_,hlen',hcell⟩:=World.cells?_some h1;obtain⟨c0,c1,c2,c3,rfl⟩:=XG cs' hlen';obtain⟨y0,y1,y2,y3,m,_,hy0,hy1,hy2,hy3⟩:=trod_array4 underlying25 xJ h2;obtain⟨x0,e0,_,w0⟩:=DataW.trod_int underlying23 hy0;obtain⟨x1,e1,_,w1⟩:=DataW.trod_int underlying23 hy1;obtain⟨x2,e2,_,w2⟩:=DataW.trod_int underlying23 hy2;obtain⟨x3,e3,_,w3⟩:=DataW.trod_int underlying23 hy3;simp at e0 e1 e2 e3;subst e0 e1 e2 e3;obtain⟨a0,rfl,k0⟩:=eN w0;obtain⟨a1,rfl,k1⟩:=eN w1;obtain⟨a2,rfl,k2⟩:=eN w2;obtain⟨a3,rfl,k3⟩:=eN w3;have g0:=hcell 0 (by omega);have g1:=hcell 1 (by omega);have g2:=hcell 2 (by omega);have g3:=hcell 3 (by omega);rw[Go.Deep.add_add]at g0 g1 g2 g3;exact⟨(a0,a1,a2,a3),⟨k0,k1,k2,k3⟩,by simpa using g0,by simpa using g1,by simpa using g2,by simpa using g3⟩
  obtain⟨g,off,spot⟩:=a;obtain⟨q0,_,hq0,_⟩:=each 0 (by omega);have hspot:spot=none:=by simpa[Addr.add]using World.cell?_spot hq0
  subst hspot;have hg:g<W.heap.size:=hl (.cell g off) (by
   have:=congrArg Prod.snd hx;simp only at this;rw[this];refine List.mem_append_left _ (MemPlace.mem_row.2 ⟨0,?_,by simp⟩);rw[rL,hlen];omega)
  have each':∀i,∃q:Nat×Nat×Nat×Nat,i<len→bP q.1 q.2.1 q.2.2.1 q.2.2.2∧W.cell? ⟨g,off+i*4,none⟩=some (.int .u64 q.1)∧W.cell? ⟨g,off+i*4+1,none⟩=some (.int .u64 q.2.1)∧W.cell? ⟨g,off+i*4+2,none⟩=some (.int .u64 q.2.2.1)∧W.cell? ⟨g,off+i*4+3,none⟩=some (.int .u64 q.2.2.2):=fun i=>by
   by_cases hi:i<len
   ·obtain⟨q,hq⟩:=each i hi;refine⟨q,fun _ => ?_⟩;simp only[add_plain]at hq;simpa[Nat.add_assoc]using hq
   ·exact⟨(0,0,0,0),fun h=>absurd h hi⟩
  refine⟨g,off,fun i j=>match j with|0=>(Classical.choose (each' i)).1|1=>(Classical.choose (each' i)).2.1|2=>(Classical.choose (each' i)).2.2.1|_=>(Classical.choose (each' i)).2.2.2,rfl,hg,fun k hk=>(Classical.choose_spec (each' k) hk).1,fun k hk=>(Classical.choose_spec (each' k) hk).2⟩
end Go.Proofs.Ytiginhbnaloghaa
namespace Go.Proofs.Ytiginhbnaloghaa.Ex
open Go.Proofs.Try
open Go.Deep Go.ChangeShapes Go.WideShapes Go.ChangeAt Go.RowKit
theorem EO:prog.bytesOf 25=32:=by kernel_rfl
theorem qY {W:World} {g:Nat} {A:Nat→Nat→Nat}:∀(n s off:Nat),(∀k,s≤k→k<s+n→bP (A k 0) (A k 1) (A k 2) (A k 3)) →
  (∀k,s≤k→k<s+n→W.cell? ⟨g,off+k*4,none⟩=some (.int .u64 (A k 0))∧W.cell? ⟨g,off+k*4+1,none⟩=some (.int .u64 (A k 1))∧W.cell? ⟨g,off+k*4+2,none⟩=some (.int .u64 (A k 2))∧W.cell? ⟨g,off+k*4+3,none⟩=some (.int .u64 (A k 3))) →
  W.rangeAt g (off+s*4) (aC (aS (el fun k=>aB (A k 0) (A k 1) (A k 2) (A k 3)) s n))
 | 0,s,off,_,_=>fun j v hj=>by simp[aS,aC]at hj
 | n+1,s,off,h1,h2=>fun j v hj=>by
  have ih:=qY (g:=g) (W:=W) (A:=A) n (s+1) off (fun k a b=>h1 k (by omega) (by omega)) (fun k a b=>h2 k (by omega) (by omega));have hj:(aC (el (fun k=>aB (A k 0) (A k 1) (A k 2) (A k 3)) s++aS (el fun k=>aB (A k 0) (A k 1) (A k 2) (A k 3)) (s+1) n))[j]?=some v:=hj;rw[aM]at hj;have ok:=h1 s (Nat.le_refl _) (by omega);obtain⟨c0,c1,c2,c3⟩:=h2 s (Nat.le_refl _) (by omega);have hv:aB (A s 0) (A s 1) (A s 2) (A s 3)<bJ:=by obtain⟨k0,k1,k2,k3⟩:=ok; show _<115792089237316195423570985008687907853269984665640564039457584007913129639936; unfold aB; omega
  obtain⟨q0,q1,q2,q3⟩:=hZ ok hv rfl;have e4:(aC (el (fun k=>aB (A k 0) (A k 1) (A k 2) (A k 3)) s))=[.int .u64 (A s 0),.int .u64 (A s 1),.int .u64 (A s 2),.int .u64 (A s 3)]:=by
   show w4 (aB (A s 0) (A s 1) (A s 2) (A s 3))++[]=_;unfold w4;rw[←q0,←q1,←q2,←q3];rfl
  rw[e4]at hj
  match j,hj with
  | 0,hj=>cases hj; exact c0
  | 1,hj=>cases hj; exact c1
  | 2,hj=>cases hj; exact c2
  | 3,hj=>cases hj; exact c3
  | j+4,hj =>
   have:=ih j v hj;rw[show off+s*4+(j+4)=off+(s+1)*4+j by omega];exact this
theorem PG {H:Type} {enc:TypeId×Value→H} {W:World} {o:Option Addr} {len cap:Nat} {d:DataW H} {ps:List MemPlace} (h:DataW.Trod enc prog W 0 (fun _=>true) true 22 (.slice o len cap) d ps) (hl:∀x∈ps,x.block<W.heap.size)
  (hsz:∀elems spare,d=.slice elems spare→(elems.length+spare.length)*prog.bytesOf 25≤reachBytes) :
  ∃f,LV W (.slice o len cap) len f∧(o=none→cap=0)∧len≤4611686018427387904:=by
 have hop:=(JD h hl).2;obtain⟨fuel,hf⟩:=h;have hlen:len*32≤140737488351232∧len≤cap∧(o=none→cap=0):=by
  rcases DataW.trod_slice underlying22 hf with⟨hcs,_⟩|⟨a,len',cap',elems,rest,n,_,hcs,hx,hb,hlc,hm,hlen,hel,_⟩
  ·simp[Value.cells]at hcs;obtain⟨rfl,rfl,rfl⟩:=hcs;exact⟨by omega,Nat.le_refl _,fun _=>rfl⟩
  ·simp[Value.cells]at hcs;obtain⟨rfl,rfl,rfl⟩:=hcs;have hs:=hsz _ _ (congrArg Prod.fst hx);rw[EO]at hs;simp only[List.length_map,reachBytes]at hs;exact⟨by omega,hlc,fun h=>by cases h⟩
 rcases hop with h0|⟨h0,g,off,A,rfl,hg,hA,hc⟩
 ·subst h0;exact⟨fun _=>0,⟨_,_,rfl,Nat.zero_le _,fun j hj=>by omega,fun h=>by omega⟩,hlen.2.2,by omega⟩
 ·refine⟨fun k=>aB (A k 0) (A k 1) (A k 2) (A k 3),⟨_,_,rfl,hlen.2.1,fun j hj => ?_,fun _=>⟨g,off,rfl,hg,?_⟩⟩,hlen.2.2,by omega⟩
  ·obtain⟨k0,k1,k2,k3⟩:=hA j hj;show aB _ _ _ _<115792089237316195423570985008687907853269984665640564039457584007913129639936;unfold aB; omega
  ·have:=qY (W:=W) (g:=g) (A:=A) len 0 off (fun k _ b=>hA k (by omega)) (fun k _ b=>hc k (by omega));rw[Nat.zero_mul,Nat.add_zero]at this;exact this
end Go.Proofs.Ytiginhbnaloghaa.Ex
