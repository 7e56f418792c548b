/- Pc13 -/
import Derived.Test.YtglgakbkdjhojaaGreatPc02
import Derived.Test.YtglgakbkdjhojaaGreatPc12
import Derived.Test.YtglgakbkdjhojaaGreatPc07
import Derived.Test.YtglgakbkdjhojaaGreatPc08
import Derived.Test.YtglgakbkdjhojaaGreatProg
set_option maxRecDepth 100000
set_option linter.unusedVariables false
set_option linter.unusedSimpArgs false
noncomputable section
namespace Go.Proofs.YtglgakbkdjhojaaGreat.Ex
open Go.Proofs.Tryz
open Go.RowKit
theorem Holds.post {nt base:Nat} {w0:World} {A:List Fact} {a:Act} {w:World} (h:Holds nt base w0 A a w) {dst kill:Option Nat} {out:List Fact} {a':Act} {w':World}
  (hP:∀β,(∀φ∈A,φ.ok base β a w)→∃β',PostB base β β' a w dst A out kill a' w') (hd:pK dst nt=false:=by kernel_rfl):Holds nt base w0 (out++A.filter (fun φ => !(lN dst kill φ))) a' w':=by
 obtain⟨β,g1,g2,g3,gt⟩:=h.facts;obtain⟨β',P⟩:=hP β g1;have hkill:∀φ∈A,lN dst kill φ=false→∀kk k DT l,kill=some kk→φ=.row k DT l→(β kk).1≠(β k).1:=fun φ hφ hc kk k DT l hkk e=>by
  obtain⟨l0,hl0⟩:=P.kills kk hkk;have hne:kk≠k:=fun e2=>by
   rw[e]at hc;simp only[lN,Bool.or_eq_false_iff]at hc;have:=dL.2 (e2▸hkk:kill=some k);rw[hc.2]at this; cases this
  subst e;cases DT with
  | true=>exact g2 kk k l0 l hl0 hφ hne
  | false =>
   have h1:=(g1 _ hl0).2.2.1 rfl;have h2:=(g1 _ hφ).2.2.2 rfl;have:=h1.1;omega
 have hmem:∀φ∈A.filter (fun φ => !(lN dst kill φ)),φ∈A∧lN dst kill φ=false:=fun φ hφ=>by
  obtain⟨h1,h2⟩:=List.mem_filter.1 hφ;exact⟨h1,by simpa using h2⟩
 have hβ:∀k DT l,Fact.row k DT l∈A.filter (fun φ => !(lN dst kill φ))→β' k=β k:=fun k DT l hφ=>by
  obtain⟨_,hc⟩:=hmem _ hφ;simp only[lN,Bool.or_eq_false_iff]at hc;exact P.beta k fun e=>by have:=dL.2 e; rw[hc.1]at this; cases this
 have hno:∀k l k' l',Fact.row k true l∈out→Fact.row k' true l'∈A.filter (fun φ => !(lN dst kill φ))→k≠k'→(β' k).1≠(β' k').1:=fun k l k' l' hk hk' hne=>by
  rw[hβ k' true l' hk'];obtain⟨hA',hc⟩:=hmem _ hk'
  rcases P.rows k l hk with⟨h2,_⟩|⟨h2,l0,h3⟩|⟨h2,k0,l0,hk0,he,h3⟩
  ·have:=(g1 _ hA').1;omega
  ·rw[P.beta k h2];exact g2 k k' l0 l' h3 hA' hne
  ·rw[he];refine g2 k0 k' l0 l' h3 hA' fun e => ?_
   subst e;simp only[lN,Bool.or_eq_false_iff]at hc;have:=dL.2 hk0;rw[hc.2]at this; cases this
 have hnt:β' nt=β nt:=P.beta nt fun e=>by have:=dL.2 e; rw[hd]at this; cases this
 refine⟨by rw[P.defers]; exact h.defers,by rw[P.size]; exact h.size,P.below w0 h.below,Nat.le_trans h.heap P.heap,β',fun φ hφ => ?_,fun k k' l l' hk hk' hne => ?_,fun k l hk => ?_,by rw[hnt]; exact Nat.le_trans gt.size P.heap,fun p q1 q2 => ?_,gt.shape.trans P.shape⟩
 ·rcases List.mem_append.1 hφ with hφ|hφ
  ·exact P.ok φ hφ
  ·obtain⟨h1,h2⟩:=hmem φ hφ;exact aQC P (g1 φ h1) h2 (hkill φ h1 h2)
 ·rcases List.mem_append.1 hk with hk|hk
  ·rcases List.mem_append.1 hk' with hk'|hk'
   ·exact absurd (P.one k k' l l' hk hk') hne
   ·exact hno k l k' l' hk hk' hne
  ·rcases List.mem_append.1 hk' with hk'|hk'
   ·exact fun e=>hno k' l' k l hk' hk (Ne.symm hne) e.symm
   ·rw[hβ k true l hk,hβ k' true l' hk'];exact g2 k k' l l' (hmem _ hk).1 (hmem _ hk').1 hne
 ·rw[hnt]
  rcases List.mem_append.1 hk with hk|hk
  ·rcases P.rows k l hk with⟨h2,_⟩|⟨h2,l0,h3⟩|⟨h2,k0,l0,hk0,he,h3⟩
   ·exact Or.inr (Nat.le_trans gt.size h2)
   ·rw[P.beta k h2];exact g3 k l0 h3
   ·rw[he];exact g3 k0 l0 h3
  ·rw[hβ k true l hk];exact g3 k l (hmem _ hk).1
 ·rw[hnt]at q2;have h3:=P.mem p (Nat.lt_of_lt_of_le q2 gt.size) fun kk hkk e=>by
   obtain⟨l0,hl0⟩:=P.kills kk hkk
   rcases g3 kk l0 hl0 with h4|h4<;>omega
  have h4:=gt.mem p q1 q2;exact⟨h3.1.trans h4.1,h3.2.trans h4.2⟩
theorem YM {base:Nat} {β:Nat→Bk} {a:Act} {w w':World} {d:Nat} {M:List Fact} (v:Value) (l:List At) (b:Nat) (h:d<a.tmps.size) (hB:base≤w.heap.size) (hb:Below w.heap.size w w')
  (h1:w.heap.size≤b) (h2:b<w'.heap.size) (h3:w'.rangeAt b 0 (aA l)) (h4:∀j,w'.frozen? ⟨b,j,none⟩=false) :
  PostB base β (β1 β d b) a w (some d) M [.slot d (.im v),.row d true l,.at d b] none (a.put (some d) v) w' where
 defers:=rfl
 size:=fN _ _ _
 tmps s hs:=nH _ _ _ _ hs
 beta k hk:=Cc _ _ _ _ hk
 heap:=hb.size
 mem p hp _:=⟨hb.cell hp,hb.frozen hp⟩
 shape:=Shape.below hb
 below _ h:=h.trans (hb.mono hB)
 ok φ hφ:=by
  simp only[List.mem_cons,List.not_mem_nil,or_false]at hφ
  rcases hφ with rfl|rfl|rfl
  ·exact jC _ _ _ h
  ·exact⟨by rw[bV]; exact h2,by rw[bV]; exact h3,fun _=>⟨by rw[bV]; exact Nat.le_trans hB h1,by rw[bV],fun j=>by rw[bV]; exact h4 j⟩,fun h=>by cases h⟩
  ·exact⟨by rw[bV],by rw[bV]⟩
 rows k l' hk:=by
  simp only[List.mem_cons,List.not_mem_nil,or_false,reduceCtorEq,false_or]at hk;cases hk;exact Or.inl ⟨by rw[bV]; exact h1,rfl⟩
 one k k' l1 l2 hk hk':=by
  simp only[List.mem_cons,List.not_mem_nil,or_false,reduceCtorEq,false_or]at hk hk';cases hk; cases hk'; rfl
 kills k hk:=by cases hk
theorem aHX {base:Nat} {β:Nat→Bk} {a:Act} {w w':World} {d k b:Nat} {M:List Fact} {l0 l':List At} (v:TV) (h:d<a.tmps.size) (hkd:k≠d) (hrow:Fact.row k true l0∈M) (hat:Fact.at k b∈M) (hM:∀φ∈M,φ.ok base β a w) (hB:base≤w.heap.size)
  (hwr:WrAt w w' b []) (hrg:w'.rangeAt b 0 (aA l')):PostB base β β a w (some d) M [.slot d v.av,.row k true l'] (some k) (a.put (some d) v.den) w':=by
 obtain⟨r1,r2,r3,r4⟩:=hM _ hrow;obtain⟨r5,r6,r7⟩:=r3 rfl;obtain⟨e1,e2⟩:=hM _ hat;refine⟨nI _ _ _,fN _ _ _,fun s hs=>nH _ _ _ _ hs,fun _ _=>rfl,hwr.size,fun p hp hne => ?_,hwr.shape,fun w0 h0 => ?_,fun φ hφ => ?_,fun k' l1 hk => ?_,fun k1 k2 l1 l2 hk hk' => ?_,fun k' hk => ?_⟩
 ·have:=hwr.block p.block hp (by rw[←e1]; exact hne k rfl);exact⟨World.cell?_of_block this,World.frozen?_of_block this⟩
 ·exact h0.trans ⟨hwr.os,hwr.tape,hwr.output,hwr.size,fun q hq=>hwr.block q (by omega) (by omega)⟩
 ·simp only[List.mem_cons,List.not_mem_nil,or_false]at hφ
  rcases hφ with rfl|rfl
  ·show (a.put (some d) _).tmps[d]?=_;rw[jC _ _ _ h,TV.av_den]
  ·refine⟨Nat.lt_of_lt_of_le r1 hwr.size,by rw[e1,e2]; exact hrg,fun _=>⟨r5,r6,fun q => ?_⟩,fun h=>by cases h⟩;have:=hwr.frozen q;rw[←e1]at this;rw[this]; exact r7 q
 ·simp only[List.mem_cons,List.not_mem_nil,or_false]at hk
  rcases hk with hk|hk
  ·cases v<;>cases hk
  ·cases hk;exact Or.inr (Or.inl ⟨fun e=>hkd (by injection e with e; exact e.symm),l0,hrow⟩)
 ·simp only[List.mem_cons,List.not_mem_nil,or_false]at hk hk'
  rcases hk with hk|hk
  ·cases v<;>cases hk
  ·rcases hk' with hk'|hk'
   ·cases v<;>cases hk'
   ·cases hk; cases hk'; rfl
 ·cases hk;exact⟨l0,hrow⟩
theorem EX {P:Program} {o:Oper} {a:Act} {w:World} {K:Act→World→Prop} {Q:Exit→Act→World→Prop} {id:Nat} {xs:Array Operand} {ts:Array TypeId} {vs:List Value} {R:Ending→World→Prop} (ho:o.op=.call ⟨.value (.func id),xs,ts⟩) (hv:xs.toList.map a.eval=vs)
  (he:∀xs,(callFunc id xs).run P w=.ok (.enter id xs) w) (hc:Calls P id vs.toArray w R) (hK:∀e w',R e w'→∃v,e=.returned v∧K (a.put o.dst v) w'):o.wp P a w K Q:=by
 have ea:xs.map a.eval=vs.toArray:=by rw[←Array.toArray_toList (xs:=xs.map a.eval),Array.toList_map,hv]
 have hrun:(execOp a.eval o).run P w=.ok (.enter id vs.toArray) w:=by
  have hf:a.eval (.func id)=.func (.func id) #[] #[]:=rfl;simp[execOp,ho,resolve,Deferred.ofValue,hf,invoke,ea,he]
 unfold Oper.wp;rw[hrun];refine Calls.mono hc ?_;intro e w' hr;obtain⟨v,rfl,hk⟩:=hK e w' hr;exact hk
theorem Cd {P:Program} {o:Oper} {a:Act} {w:World} {K:Act→World→Prop} {Q:Exit→Act→World→Prop} {id s:Nat} {cap:Array Value} {xs:Array Operand} {ts:Array TypeId} {vs:List Value} {R:Ending→World→Prop} (ho:o.op=.call ⟨.value (.tmp s),xs,ts⟩) (hs:a.eval (.tmp s)=.func (.func id) #[] cap) (hv:xs.toList.map a.eval=vs)
  (he:∀xs,(callFunc id xs).run P w=.ok (.enter id xs) w) (hc:Calls P id (vs++cap.toList).toArray w R) (hK:∀e w',R e w'→∃v,e=.returned v∧K (a.put o.dst v) w'):o.wp P a w K Q:=by
 have ea:xs.map a.eval=vs.toArray:=by rw[←Array.toArray_toList (xs:=xs.map a.eval),Array.toList_map,hv]
 have hrun:(execOp a.eval o).run P w=.ok (.enter id (vs++cap.toList).toArray) w:=by
  have e3:vs.toArray++cap=(vs++cap.toList).toArray:=by simp
  simp[execOp,ho,resolve,Deferred.ofValue,hs,invoke,ea,he]
 unfold Oper.wp;rw[hrun];refine Calls.mono hc ?_;intro e w' hr;obtain⟨v,rfl,hk⟩:=hK e w' hr;exact hk
def dA (l:List Int):List At:=l.map fun d=>.c (.int .i64 d)
def dgx:List Int:=[1,0,0,0,-1,0,0,0,0,1,0,1,0,0,0,0,1,0,0,1,0,-1,0,1,0,1,0,1,0,0,1,0,0,0,1,0,-1,0,-1,0,-1,0,1,0,1,0,0,-1,0,1,0,1,0,-1,0,0,1,0,1,0,0,0,1,0,0,0]
def dg6:List Int:=[0,-1,0,1,0,1,0,-1,0,0,-1,0,0,0,1,0,0,-1,0,-1,0,0,0,1,0,-1,0,0,0,0,-1,0,0,1,0,-1,0,0,1,0,0,0,0,0,-1,0,0,-1,0,1,0,-1,0,0,0,-1,0,-1,0,0,0,1,0,-1,0,1]
def aDu:jV
 | [.v (.fl l),.v (.fl m)]=>match LD l,LD m with
  | some a,some b=>some ([wv a+wv b<115792089237316195423570985008687907853269984665640564039457584007913129639936],.many [.fl (q1 (wv a+wv b)),.im (.int .u64 0)])
  | _,_=>none
 | _=>none
theorem aDt:∀cs pre r,aDu cs=some (pre,r)→aZ pre→∀(args:List Value) (w:World),bQ w cs args→Good prog 166 r args w:=by
 intro cs pre r hg hp args w ha;unfold aDu at hg;split at hg
 ·rename_i l m;split at hg
  ·rename_i a b h1 h2;cases hg;rw[OG ha,fJ l _ h1,fJ m _ h2];refine (BI _ _ _ _ _ _ _ _ (dE a) (dE b) w).mono ?_
   rintro e w' ⟨s0,s1,s2,s3,c,rfl,hs,hc,hv,hb⟩
   have hp1:=hp.1;have hv':aG s0 s1 s2 s3+115792089237316195423570985008687907853269984665640564039457584007913129639936*c=wv a+wv b:=hv;have hc0:c=0:=by omega
   subst hc0;obtain⟨rfl,rfl,rfl,rfl⟩:=lM hs hp1 (by omega);exact⟨rfl,hb⟩
  ·cases hg
 ·cases hg
def aDq:jV
 | [.v (.fl l),.v (.im (.int .i64 (.ofNat i)))]=>match LD l with
  | some n=>bif Nat.blt i 256 then some ([],.one (.im (.int .i64 (qA (wv n) i:Nat))))else none
  | none=>none
 | _=>none
theorem aDp:∀cs pre r,aDq cs=some (pre,r)→aZ pre→∀(args:List Value) (w:World),bQ w cs args→Good prog 167 r args w:=by
 intro cs pre r hg hp args w ha;unfold aDq at hg;split at hg
 ·rename_i l i;split at hg
  ·rename_i n hn;cases hb:Nat.blt i 256<;>rw[hb]at hg
   ·cases hg
   ·cases hg;exact aEM _ [i<256] _ (by show aDr _=_; unfold aDr; simp only[hn]) ⟨by simpa using hb,trivial⟩ args w ha
  ·cases hg
 ·cases hg
def aTB:Tab:=(T0.add 166 aDu).add 167 aDq
theorem Lh:TabOk prog aTB:=((zB _).ad func166 aDt).ad func167 aDp
def cSg:Nat→Cfg:=fun _=>⟨fun _=>aTB,fun _=>true,fun _=>none⟩
theorem aGB:aT prog (qG prog) cSg f112 300 [.v (.fl (q1 LT))]=some ([wv LT+wv LT<115792089237316195423570985008687907853269984665640564039457584007913129639936,wv (wv LT+wv LT)+wv LT<115792089237316195423570985008687907853269984665640564039457584007913129639936],.one (.fl (dA dgx))):=by kernel_rfl
theorem aGD:aT prog (qG prog) cSg f112 300 [.v (.fl (q1 zN))]=some ([wv zN+wv zN<115792089237316195423570985008687907853269984665640564039457584007913129639936,wv (wv zN+wv zN)+wv zN<115792089237316195423570985008687907853269984665640564039457584007913129639936],.one (.fl (dA dg6))):=by kernel_rfl
def Wh (N:Nat) (D:List Int):Prop:=∀(args:List Value) (w:World),bQ w [.v (.fl (q1 N))] args→Good prog 112 (.one (.fl (dA D))) args w
theorem aOo:Wh LT dgx:=fun args w ha=>aB aF (fun _ _=>Lh) (aK _) func112 aGB ⟨by decide +kernel,by decide +kernel,trivial⟩ ha
theorem aOq:Wh zN dg6:=fun args w ha=>aB aF (fun _ _=>Lh) (aK _) func112 aGD ⟨by decide +kernel,by decide +kernel,trivial⟩ ha
def gSg (N:Nat) (D:List Int):jV
 | [.v (.fl l)]=>match LD l with
  | some n=>some ([n=N],.one (.fl (dA D)))
  | none=>none
 | _=>none
def aTC (N:Nat) (D:List Int):Tab:=(kM true).add 112 (gSg N D)
theorem jF {N:Nat} {D:List Int} (h:Wh N D):TabOk prog (aTC N D):=(gF true).ad func112 (by
 intro cs pre r hg hp args w ha;unfold gSg at hg;split at hg
 ·rename_i l;split at hg
  ·rename_i n hn;cases hg;refine h args w ?_
   match args,ha with
   | [v],ha=>exact⟨by show v=.agg (aA (q1 N)).toArray; rw[←hp.1,←fJ l _ hn]; exact ha.1,trivial⟩
   | [],ha=>exact ha.elim
   | _::_::_,ha=>exact ha.2.elim
  ·cases hg
 ·cases hg)
def fB:Code:=(f69.body).getD .skip
def nG:Code:=qD (qD (cB (cA (cB (cB (cB (cB fB)))))))
def gE:Code:=qD (cA (cB (cB nG)))
theorem aHs:fB=.seq (cA fB) (.seq (.region 1 (cN (cA (cB fB))) false) (.seq (cA (cB (cB fB))) (.seq (cA (cB (cB (cB fB)))) (.seq (.seq (cA (cA (cB (cB (cB (cB fB)))))) (.block 0 (.loop nG))) (cB (cB (cB (cB (cB fB))))))))):=by kernel_rfl
theorem Kj:nG=.seq (cA nG) (.seq (cA (cB nG)) (.seq (.block 1 gE) (cB (cB (cB nG))))):=by kernel_rfl
theorem aHt:gE=.seq (cA gE) (.seq (cA (cB gE)) (.seq (.region 8 (cN (cA (cB (cB gE)))) false) (cB (cB (cB gE))))):=by kernel_rfl
def cR (N:Nat) (D:List Int) (n:Nat→Option Value):Nat→Cfg:=fun _=>⟨fun _=>aTC N D,fun _=>true,n⟩
def gX (g:Nat→Option Value):Ext:={ Ext.none with gen:=g }
def rA (y:aM) (N:Nat):List Fact:=[.slot 2 (.pt 2 0),.row 2 true (aN y),.slot 3 (.pt 3 0),.row 3 true (q1 N),.slot 4 (.pt 4 0),.row 4 true (aN aC.zero)]
def rB (y:aM) (N b:Nat):List Fact:=[.slot 3 (.pt 3 0),.row 3 true (q1 N),.slot 4 (.pt 4 0),.row 4 true (aN aC.zero),.slot 5 (.im (OA b)),.row 12 true (aN y),.at 12 b]
def rF (D:List Int) (b i t:Nat) (u r:aM):List Fact:=[.slot 4 (.pt 4 0),.row 4 true (aN aC.zero),.slot 5 (.im (OA b)),.row 12 true (aN u),.at 12 b,.slot 6 (.pt 6 0),.row 6 true (aN r),.slot 7 (.im (iI t)),.slot 15 (.fl (dA D)),.slot 16 (.im (iI i))]
def rG (D:List Int) (b i t:Nat) (d:Int) (u r:aM):List Fact:=.slot 8 (.im (iI i)) :: .slot 9 (.im (.int .i64 d))::rF D b i t u r
theorem aVf (N:Nat) (D:List Int) (y:aM):aX prog qN f69.ntmps (cR N D fun _=>none) 40 (cA fB) (lS 0 [.v (.fl (aN y)),.v (.fl (q1 N))]) (rA y N)=some ([],.nrm,rA y N):=by kernel_rfl
theorem aVe (N:Nat) (D:List Int) (y:aM):sC prog qN f69.ntmps (cR N D (fun _=>none) 0) ((cN (cA (cB fB))).extract 0 1) (rA y N) (.slot 11 (.fl (aN y))::rA y N)=some ([],.slot 11 (.fl (aN y))::rA y N):=by kernel_rfl
theorem aVd (N:Nat) (D:List Int) (y:aM) (b:Nat):sC prog qN f69.ntmps (cR N D (fun _=>none) 0) ((cN (cA (cB fB))).extract 2 3) (.slot 12 (.im (OA b)) :: .row 12 true (aN y) :: .at 12 b :: .slot 11 (.fl (aN y))::rA y N) (rB y N b)=some ([],rB y N b):=by kernel_rfl
theorem aVc (N:Nat) (D:List Int) (y:aM) (b:Nat):aX prog qN f69.ntmps (cR N D fun _=>none) 40 (cA (cB (cB fB))) (rB y N b) (.slot 6 (.pt 6 0) :: .row 6 true (aN aC.one)::rB y N b)=some ([],.nrm,.slot 6 (.pt 6 0) :: .row 6 true (aN aC.one)::rB y N b):=by kernel_rfl
theorem aVb (N:Nat) (D:List Int) (y:aM) (b:Nat):aX prog qN f69.ntmps (cR N D fun _=>none) 40 (cA (cB (cB (cB fB)))) (.slot 6 (.pt 6 0) :: .row 6 true (aN aC.one)::rB y N b) (.slot 7 (.im (iI 0)) :: .slot 6 (.pt 6 0) :: .row 6 true (aN aC.one)::rB y N b)=some ([],.nrm,.slot 7 (.im (iI 0)) :: .slot 6 (.pt 6 0) :: .row 6 true (aN aC.one)::rB y N b):=by kernel_rfl
theorem aVa (N:Nat) (D:List Int) (y:aM) (b:Nat):aX prog qN f69.ntmps (cR N D fun _=>none) 40 (cA (cA (cB (cB (cB (cB fB)))))) (.slot 7 (.im (iI 0)) :: .slot 6 (.pt 6 0) :: .row 6 true (aN aC.one)::rB y N b) (rF D b 0 0 y aC.one)=some ([N=N],.nrm,rF D b 0 0 y aC.one):=by kernel_rfl
theorem aVg (N:Nat) (D:List Int) (b i t:Nat) (u r:aM) (c:Bool):aX prog qN f69.ntmps (cR N D (fun s=>bif Nat.beq s 17 then some (.bool c)else none)) 40 (cA nG) (rF D b i t u r) (.slot 17 (.im (.bool c))::rF D b i t u r)=some ([aI .lss .i64 (Int.ofNat i) 66=some (.bool c)],.nrm,.slot 17 (.im (.bool c))::rF D b i t u r):=by kernel_rfl
theorem aVh (N:Nat) (D:List Int) (b i t:Nat) (u r:aM):aX prog qN f69.ntmps (cR N D fun _=>none) 40 (cA (cB nG)) (.slot 17 (.im (.bool true))::rF D b i t u r) (rF D b i t u r)=some ([],.nrm,rF D b i t u r):=by kernel_rfl
theorem aVi (N:Nat) (D:List Int) (b i t:Nat) (u r:aM):aX prog qN f69.ntmps (cR N D fun _=>none) 40 (cA (cB nG)) (.slot 17 (.im (.bool false))::rF D b i t u r) (rF D b i t u r)=some ([],.ex 0,rF D b i t u r):=by kernel_rfl
theorem aVo (N:Nat) (D:List Int) (b i t:Nat) (d:Int) (u r:aM):aX prog { qG prog with x:=gX (fun s=>bif Nat.beq s 19 then some (.int .i64 d)else none) } f69.ntmps (cR N D fun _=>none) 40 (cA gE) (rF D b i t u r) (rG D b i t d u r)=some ([i<66,cellAt (dA D) i=some (.int .i64 d)],.nrm,rG D b i t d u r):=by kernel_rfl
theorem aVn (N:Nat) (D:List Int) (b i t:Nat) (d:Int) (u r:aM):aX prog qN f69.ntmps (cR N D (fun s=>bif Nat.beq s 21 then some (.bool false)else none)) 40 (cA (cB gE)) (rG D b i t d u r) (rG D b i t d u r)=some ([aI .eql .i64 d 0=some (.bool false)],.nrm,rG D b i t d u r):=by kernel_rfl
theorem aOz (N:Nat) (D:List Int) (b i t:Nat) (d:Int) (u r:aM):aX prog qN f69.ntmps (cR N D (fun s=>bif Nat.beq s 21 then some (.bool true)else none)) 40 (cA (cB gE)) (rG D b i t d u r) (rF D b i t u r)=some ([aI .eql .i64 d 0=some (.bool true)],.ex 1,rF D b i t u r):=by kernel_rfl
theorem aVm (N:Nat) (D:List Int) (b i t k:Nat) (d:Int) (u r:aM):sC prog qN f69.ntmps (cR N D (fun s=>bif Nat.beq s 25 then some (iI k)else none) 0) ((cN (cA (cB (cB gE)))).extract 0 4) (rG D b i t d u r) (.slot 22 (.im (OA b)) :: .slot 25 (.im (iI k))::rG D b i t d u r)=some ([aI .sub .i64 (Int.ofNat i) (Int.ofNat t)=some (iI k)],.slot 22 (.im (OA b)) :: .slot 25 (.im (iI k))::rG D b i t d u r):=by kernel_rfl
theorem aYV (D:List Int) (b i t k:Nat) (d:Int) (u v r:aM):([Fact.slot 26 (TV.av (.fl (aN v))),.row 12 true (aN v)]++(.slot 22 (.im (OA b)) :: .slot 25 (.im (iI k))::rG D b i t d u r).filter (fun φ => !(lN (some 26) (some 12) φ)))=[.slot 26 (.fl (aN v)),.row 12 true (aN v),.slot 22 (.im (OA b)),.slot 25 (.im (iI k)),.slot 8 (.im (iI i)),.slot 9 (.im (.int .i64 d)),.slot 4 (.pt 4 0),.row 4 true (aN aC.zero),.slot 5 (.im (OA b)),.at 12 b,.slot 6 (.pt 6 0),.row 6 true (aN r),.slot 7 (.im (iI t)),.slot 15 (.fl (dA D)),.slot 16 (.im (iI i))]:=by kernel_rfl
theorem aVl (N:Nat) (D:List Int) (b i t k:Nat) (d:Int) (v r:aM):sC prog qN f69.ntmps (cR N D (fun _=>none) 0) ((cN (cA (cB (cB gE)))).extract 5 7) [.slot 26 (.fl (aN v)),.row 12 true (aN v),.slot 22 (.im (OA b)),.slot 25 (.im (iI k)),.slot 8 (.im (iI i)),.slot 9 (.im (.int .i64 d)),.slot 4 (.pt 4 0),.row 4 true (aN aC.zero),.slot 5 (.im (OA b)),.at 12 b,.slot 6 (.pt 6 0),.row 6 true (aN r),.slot 7 (.im (iI t)),.slot 15 (.fl (dA D)),.slot 16 (.im (iI i))] (.slot 10 (.pt 10 0) :: .row 10 true (aN v)::rG D b i t d v r)=some ([],.slot 10 (.pt 10 0) :: .row 10 true (aN v)::rG D b i t d v r):=by kernel_rfl
theorem aVj (N:Nat) (D:List Int) (b i t:Nat) (d:Int) (v r:aM):aX prog qN f69.ntmps (cR N D (fun s=>bif Nat.beq s 29 then some (.bool false)else none)) 40 (cB (cB (cB gE))) (.slot 10 (.pt 10 0) :: .row 10 true (aN v)::rG D b i t d v r) (rF D b i i v (aC.mul (gC (lJ r)) (gC (lJ v))))=some ([aI .lss .i64 d 0=some (.bool false)],.nrm,rF D b i i v (aC.mul (gC (lJ r)) (gC (lJ v)))):=by kernel_rfl
theorem aVk (N:Nat) (D:List Int) (b i t:Nat) (d:Int) (v r:aM):aX prog qN f69.ntmps (cR N D (fun s=>bif Nat.beq s 29 then some (.bool true)else none)) 40 (cB (cB (cB gE))) (.slot 10 (.pt 10 0) :: .row 10 true (aN v)::rG D b i t d v r) (rF D b i i v (aC.mul (gC (lJ r)) (gC (lJ (cE v)))))=some ([aI .lss .i64 d 0=some (.bool true)],.nrm,rF D b i i v (aC.mul (gC (lJ r)) (gC (lJ (cE v))))):=by kernel_rfl
theorem aYU (N:Nat) (D:List Int) (b i t:Nat) (u r:aM):aX prog qN f69.ntmps (cR N D (fun s=>bif Nat.beq s 35 then some (iI (i+1))else none)) 40 (cB (cB (cB nG))) (rF D b i t u r) (rF D b (i+1) t u r)=some ([aI .add .i64 (Int.ofNat i) 1=some (iI (i+1))],.nrm,rF D b (i+1) t u r):=by kernel_rfl
theorem aYW (N:Nat) (D:List Int) (b i t:Nat) (u r:aM):aX prog qN f69.ntmps (cR N D fun _=>none) 40 (cB (cB (cB (cB (cB fB))))) (rF D b i t u r) [.slot 4 (.pt 4 0),.row 4 true (aN r)]=some ([],.rt,[.slot 4 (.pt 4 0),.row 4 true (aN r)]):=by kernel_rfl
def dI (D:List Int) (i:Nat):Int:=D.getD i 0
def tN (D:List Int):Nat→Nat
 | 0=>0
 | i+1=>if dI D i=0 then tN D i else i
def eN (D:List Int):Nat→Nat
 | 0=>0
 | i+1=>if dI D i=0 then eN D i else if dI D i<0 then eN D i+2^i*p6N else eN D i+2^i
theorem aLa (D:List Int):∀i,tN D i≤i
 | 0=>Nat.le_refl _
 | i+1=>by
  unfold tN;split
  ·exact Nat.le_succ_of_le (aLa D i)
  ·exact Nat.le_succ _
theorem SP:∀(D:List Int) (i:Nat),i<D.length→cellAt (dA D) i=some (.int .i64 (dI D i))
 | [],i,h=>absurd h (by simp)
 | d::r,0,h=>rfl
 | d::r,i+1,h=>by
  show (bif Nat.blt (i+1) 1 then _ else cellAt (dA r) (i+1-1))=_;rw[show Nat.blt (i+1) 1=false from Bool.eq_false_iff.2 fun h=>by simp at h,cond_false,Nat.add_sub_cancel,SP r i (by simpa using h)];simp[dI]
theorem Holds.free {nt base:Nat} {w0:World} {A:List Fact} {a:Act} {w:World} (h:Holds nt base w0 A a w) {k b:Nat} {l:List At} (h1:Fact.row k true l∈A) (h2:Fact.at k b∈A):∀j,w.frozen? ⟨b,j,none⟩=false:=by
 obtain⟨β,g1,g2⟩:=h.facts;obtain⟨_,_,e3,_⟩:=g1 _ h1;obtain⟨e4,e5⟩:=g1 _ h2;have:=(e3 rfl).2.2;rw[e4]at this;exact this
theorem aLg (y:aM) {t i:Nat} (h:t≤i):bH aC (bH aC y (2^t)) (2^(i-t))=bH aC y (2^i):=by
 rw[←dQ,←Nat.pow_add,Nat.add_sub_cancel' h]
theorem aLO (d:Int):aI .eql .i64 d 0=some (.bool (decide (d=0))):=by
 show some (Value.bool (d==0))=_
 by_cases h:d=0
 ·subst h; rfl
 ·rw[decide_eq_false h];simp[h]
theorem aLM (d:Int):aI .lss .i64 d 0=some (.bool (decide (d<0))):=rfl
theorem xS {N:Nat} {D:List Int} (hsg:Wh N D) (hlen:D.length=66) (y:aM) (hy:oY y) (args:List Value) (w:World) (ha:bQ w [.v (.fl (aN y)),.v (.fl (q1 N))] args):Good prog 69 (.one (.fl (aN (bH aC y (eN D 66))))) args w:=by
 have hT:∀(n d:Nat) (wi:World),TabOkW prog (aTC N D) w.heap.size wi:=fun _ _ wi=>(jF hsg).w _ _
 refine dU func69 (c:=fB) rfl ha (Nat.le_of_ble_eq_true (by kernel_rfl)) fun a w' hA => ?_
 rw[aHs];refine wp_seq (bD aF (fun _ _=>jF hsg) aL (aVf N D y) trivial hA fun a w1 hA => ?_);refine wp_seq (tT (l:=List.range' 0 ((cN (cA (cB fB))).extract 0 1).size++(1::(List.range' 2 ((cN (cA (cB fB))).extract 2 3).size++[]))) (by kernel_rfl) ?_);refine cH (c:=cR N D (fun _=>none) 0) (fun d=>(jF hsg).w _ _) (aL.w _ _) (aVe N D y) trivial (by kernel_rfl) hA fun a w2 hA => ?_
 have h11:=hA.slotF (s:=11) (l:=aN y) (by simp);obtain⟨o,ho,hoo,hod,hog⟩:∃o,(cN (cA (cB fB)))[1]?=some o∧(∃ts,o.op=.call ⟨.value (.func 138),#[.tmp 11],ts⟩)∧o.dst=some 12∧o.guard=none:=⟨_,rfl,⟨_,rfl⟩,rfl,rfl⟩
 obtain⟨ts,hoo⟩:=hoo;refine mS ho hog (EX hoo (vs:=[.agg (aA (aN y)).toArray]) (by simp[Act.eval,h11]) (gJ func138 (by kernel_rfl) (by kernel_rfl) · _) (KW y [.agg (aA (aN y)).toArray] _ ⟨rfl,trivial⟩) fun e w3 hR => ?_);obtain⟨b,rfl,hb,h1,h2,h3,h4⟩:=hR;refine⟨_,rfl,?_⟩;rw[hod];have hA:=hA.post (dst:=some 12) (kill:=none) fun β hβ=>⟨_,YM (OA b) (aN y) b (by rw[hA.size]; exact Nat.le_of_ble_eq_true (by kernel_rfl)) hA.heap hb h1 h2 h3 h4⟩
 have ef:([Fact.slot 12 (.im (OA b)),.row 12 true (aN y),.at 12 b]++(.slot 11 (.fl (aN y))::rA y N).filter (fun φ => !(lN (some 12) none φ)))=.slot 12 (.im (OA b)) :: .row 12 true (aN y) :: .at 12 b :: .slot 11 (.fl (aN y))::rA y N:=by kernel_rfl
 rw[ef]at hA;refine cH (c:=cR N D (fun _=>none) 0) (fun d=>(jF hsg).w _ _) (aL.w _ _) (aVd N D y b) trivial (by kernel_rfl) hA fun a w4 hA => ?_
 show (Code.seq (cA (cB (cB fB))) _).wp _ _ _ _;refine wp_seq (bD aF (fun _ _=>jF hsg) aL (aVc N D y b) trivial hA fun a w5 hA => ?_);refine wp_seq (bD aF (fun _ _=>jF hsg) aL (aVb N D y b) trivial hA fun a w6 hA => ?_);refine wp_seq (wp_seq (bD aF (fun _ _=>jF hsg) aL (aVa N D y b) ⟨rfl,trivial⟩ hA fun a w7 hA => ?_));refine wp_block ?_;refine pP (fun i a wi=>Holds f69.ntmps w.heap.size w (rF D b i (tN D i) (bH aC y (2^tN D i)) (bH aC y (eN D i))) a wi) 66 (fun i hi a wi hA R hR => ?_) (fun a wi hA R => ?_) (by
  show Holds _ _ _ (rF D b 0 0 (bH aC y (2^0)) (bH aC y 0)) _ _;rw[Nat.pow_zero,MA]; exact hA)
 ·rw[Kj];refine wp_seq (bD aF (fun _ _=>jF hsg) aL (aVg N D b i _ _ _ true) ⟨bY hi,trivial⟩ hA fun a w8 hA => ?_);refine wp_seq (bD aF (fun _ _=>jF hsg) aL (aVh N D b i _ _ _) trivial hA fun a w9 hA => ?_);refine wp_seq (wp_block ?_);have hfin:∀(Q:Exit→Act→World→Prop) a w',Holds f69.ntmps w.heap.size w (rF D b i (tN D (i+1)) (bH aC y (2^tN D (i+1))) (bH aC y (eN D (i+1)))) a w'→(cB (cB (cB nG))).wp prog (Exit.then R Q) a w':=fun Q a w' hA =>
   bD aF (fun _ _=>jF hsg) aL (aYU N D b i _ _ _) ⟨lI (k:=1) (by omega),trivial⟩ hA fun a w'' hA=>hR a w'' hA
  rw[aHt];refine wp_seq (aD aF (fun n d=>hT n d _) (Nw (x:=gX (fun s=>bif Nat.beq s 19 then some (.int .i64 (dI D i))else none)) (N:=w.heap.size) (w:=w) rfl rfl rfl fun _ _ _ h=>h.elim) (aVo N D b i _ (dI D i) _ _) ⟨hi,SP D i (by omega),trivial⟩ hA fun a w10 hA => ?_)
  by_cases hd:dI D i=0
  ·refine wp_seq (bD aF (fun _ _=>jF hsg) aL (aOz N D b i _ (dI D i) _ _) ⟨by rw[aLO,decide_eq_true hd],trivial⟩ hA fun a w11 hA => ?_);refine hfin _ a w11 ?_;rw[show tN D (i+1)=tN D i from if_pos hd,show eN D (i+1)=eN D i from if_pos hd];exact hA
  ·refine wp_seq (bD aF (fun _ _=>jF hsg) aL (aVn N D b i _ (dI D i) _ _) ⟨by rw[aLO,decide_eq_false hd],trivial⟩ hA fun a w11 hA => ?_);refine wp_seq (tT (l:=List.range' 0 ((cN (cA (cB (cB gE)))).extract 0 4).size++(4::(List.range' 5 ((cN (cA (cB (cB gE)))).extract 5 7).size++[]))) (by kernel_rfl) ?_);have ht:=aLa D i;refine cH (c:=cR N D (fun s=>bif Nat.beq s 25 then some (iI (i-tN D i))else none) 0) (fun d=>(jF hsg).w _ _) (aL.w _ _) (aVm N D b i (tN D i) (i-tN D i) (dI D i) _ _) ⟨vI ht (by omega),trivial⟩ (by kernel_rfl) hA fun a w12 hA => ?_
   have h22:=hA.slot (s:=22) (v:=OA b) (by simp);have h25:=hA.slot (s:=25) (v:=iI (i-tN D i)) (by simp);obtain⟨o2,ho2,hoo2,hod2,hog2⟩:∃o,(cN (cA (cB (cB gE))))[4]?=some o∧(∃ts,o.op=.call ⟨.value (.tmp 22),#[.tmp 25],ts⟩)∧o.dst=some 26∧o.guard=none:=⟨_,rfl,⟨_,rfl⟩,rfl,rfl⟩
   obtain⟨ts2,hoo2⟩:=hoo2;have hold:=hA.old (k:=12) (b:=b) (l:=aN (bH aC y (2^tN D i))) (by simp[rG,rF]) (by simp[rG,rF]);have hfree:=hA.free (k:=12) (b:=b) (l:=aN (bH aC y (2^tN D i))) (by simp[rG,rF]) (by simp[rG,rF]);refine mS ho2 hog2 (Cd hoo2 (id:=182) (cap:=#[.pointer (some ⟨b,0,none⟩)]) (vs:=[iI (i-tN D i)]) (by simp[Act.eval,h22,OA]) (by simp[Act.eval,h25]) (gJ func182 (by kernel_rfl) (by kernel_rfl) · _) (aAx (i-tN D i) (by omega) _ (IU hy _) b w12 hold.1 hold.2 hfree) fun e w13 hR2 => ?_);obtain⟨rfl,hwr,hrg⟩:=hR2;refine⟨_,rfl,?_⟩;rw[hod2];have hA:=hA.post (dst:=some 26) (kill:=some 12) fun β hβ=>⟨_,aHX (.fl (aN (bH aC (bH aC y (2^tN D i)) (2^(i-tN D i))))) (by rw[hA.size]; exact Nat.le_of_ble_eq_true (by kernel_rfl)) (by decide) (l0:=aN (bH aC y (2^tN D i))) (b:=b) (by simp[rG,rF]) (by simp[rG,rF]) hβ hA.heap hwr hrg⟩
   rw[aYV]at hA;rw[aLg y ht]at hA;refine cH (c:=cR N D (fun _=>none) 0) (fun d=>(jF hsg).w _ _) (aL.w _ _) (aVl N D b i (tN D i) (i-tN D i) (dI D i) _ _) trivial (by kernel_rfl) (by rw[aLg y ht]; exact hA) fun a w14 hA => ?_
   show (cB (cB (cB gE))).wp _ _ _ _
   by_cases hn:dI D i<0
   ·refine bD aF (fun _ _=>jF hsg) aL (aVk N D b i (tN D i) (dI D i) _ _) ⟨by rw[aLM,decide_eq_true hn],trivial⟩ hA fun a w15 hA => ?_
    refine hfin _ a w15 ?_;rw[show tN D (i+1)=i from if_neg hd,show eN D (i+1)=eN D i+2^i*p6N from (if_neg hd).trans (if_pos hn),cJ,dQ,←JL];rw[fH,fH]at hA;exact hA
   ·refine bD aF (fun _ _=>jF hsg) aL (aVj N D b i (tN D i) (dI D i) _ _) ⟨by rw[aLM,decide_eq_false hn],trivial⟩ hA fun a w15 hA => ?_
    refine hfin _ a w15 ?_;rw[show tN D (i+1)=i from if_neg hd,show eN D (i+1)=eN D i+2^i from (if_neg hd).trans (if_neg hn),cJ];rw[fH,fH]at hA;exact hA
 ·rw[Kj];refine wp_seq (bD aF (fun _ _=>jF hsg) aL (aVg N D b 66 _ _ _ false) ⟨eO (Nat.le_refl _),trivial⟩ hA fun a w8 hA => ?_);refine wp_seq (bD aF (fun _ _=>jF hsg) aL (aVi N D b 66 _ _ _) trivial hA fun a w9 hA => ?_);show (cB (cB (cB (cB (cB fB))))).wp _ _ _ _;exact bD aF (fun _ _=>jF hsg) aL (aYW N D b 66 _ _ _) trivial hA fun a w10 hA=>eV (l:=[.fl (aN (bH aC y (eN D 66)))]) (by kernel_rfl) (by kernel_rfl) hA
def kxN:Nat:=(eN dgx 66-LT)/q4N
def k6N:Nat:=(eN dg6 66-zN)/q4N
theorem bAt:eN dgx 66=LT+q4N*kxN:=by kernel_rfl
theorem bAu:eN dg6 66=zN+q4N*k6N:=by kernel_rfl
theorem aZd {y:aM} (h:oY y):bH aC y (eN dgx 66)=bH aC y LT:=by rw[bAt,cJ,dQ,Fd h,mK,aC.mul_one]
theorem aZe {y:aM} (h:oY y):bH aC y (eN dg6 66)=bH aC y zN:=by rw[bAu,cJ,dQ,Fd h,mK,aC.mul_one]
def s6F:Fq:=⟨zN,by decide +kernel⟩
def sdF:Fq:=⟨LT,by decide +kernel⟩
theorem Kb:bN prog Wg qN (fun _=>true) f70 40 []=some ([],.one (.fl [.f s6F])):=by kernel_rfl
theorem Zg:bN prog Wg qN (fun _=>true) f71 40 []=some ([],.one (.fl [.f sdF])):=by kernel_rfl
theorem aLP:∃f:aM→aM,∀y,f y=bH aC y zN:=⟨fun y=>bH aC y zN,fun _=>rfl⟩
theorem aLj:∃f:aM→aM,∀y,f y=bH aC y LT:=⟨fun y=>bH aC y LT,fun _=>rfl⟩
def o6:aM→aM:=Classical.choose aLP
def ox:aM→aM:=Classical.choose aLj
theorem aCb (y:aM):o6 y=bH aC y zN:=Classical.choose_spec aLP y
theorem aLk (y:aM):ox y=bH aC y LT:=Classical.choose_spec aLj y
def aRe:jV
 | [.v (.fl l),.v (.fl m)]=>match qQ l,LD m with
  | some y,some n=>bif Nat.beq n zN then some ([oY y],.one (.fl (aN (o6 y))))else bif Nat.beq n LT then some ([oY y],.one (.fl (aN (ox y))))else none
  | _,_=>none
 | _=>none
theorem aJp:∀cs pre r,aRe cs=some (pre,r)→aZ pre→∀(args:List Value) (w:World),bQ w cs args→Good prog 69 r args w:=by
 intro cs pre r hg hp args w ha;unfold aRe at hg;split at hg
 ·rename_i l m;split at hg
  ·rename_i y n hy hn;have hca:∀N,n=N→bQ w [.v (.fl (aN y)),.v (.fl (q1 N))] args:=fun N e=>by
    subst e
    match args,ha with
    | [u,v],ha=>exact⟨by show u=.agg (aA (aN y)).toArray; rw[←eF l _ hy]; exact ha.1,by show v=.agg (aA (q1 n)).toArray; rw[←fJ m _ hn]; exact ha.2.1,trivial⟩
    | [],ha=>exact ha.elim
    | [_],ha=>exact ha.2.elim
    | _::_::_::_,ha=>exact ha.2.2.elim
   cases h6:Nat.beq n zN<;>rw[h6]at hg
   ·simp only[cond_false]at hg;cases hx:Nat.beq n LT<;>rw[hx]at hg
    ·cases hg
    ·cases hg;have:=xS aOo (by decide) y hp.1 args w (hca _ (Nat.eq_of_beq_eq_true hx));rw[aZd hp.1,←aLk]at this;exact this
   ·cases hg;have:=xS aOq (by decide) y hp.1 args w (hca _ (Nat.eq_of_beq_eq_true h6));rw[aZe hp.1,←aCb]at this;exact this
  ·cases hg
 ·cases hg
def Pe:Tab:=((Wg.add 70 (g0 (.one (.fl [.f s6F])))).add 71 (g0 (.one (.fl [.f sdF])))).add 69 aRe
theorem Fy:TabOk prog Pe:=((ZG.ad func70 (gI fun w=>aH aF ZG aL func70 Kb trivial (args:=[]) trivial)).ad func71 (gI fun w=>aH aF ZG aL func71 Zg trivial (args:=[]) trivial)).ad func69 aJp
theorem Rz (x a:aM) (k:Nat):bN prog Pe qN (fun _=>true) f165 60 [.v (.fl (aN x)),.s (aN a) 1 k]=some ([],.one (.fl (aN (aC.mul (gC (lJ x)) (gC (lJ a)))))):=by kernel_rfl
theorem Ry (x a b c:aM) (k:Nat):bN prog Pe qN (fun _=>true) f165 60 [.v (.fl (aN x)),.s (aN a++(aN b++aN c)) 3 k]=some ([],.one (.fl (aN (aC.mul (gC (lJ (aC.mul (gC (lJ (aC.mul (gC (lJ x)) (gC (lJ a))))) (gC (lJ b))))) (gC (lJ c)))))):=by kernel_rfl
def Kh:Nat→List At→Option (List aM)
 | 0,_=>some []
 | n+1,l=>match tk l 48,dp l 48 with
  | some a,some r=>(match qQ a,Kh n r with|some x,some xs=>some (x::xs)|_,_=>none)
  | _,_=>none
def SA:jV
 | [.v (.fl l),.s m n k]=>match qQ l,Kh n m with
  | some x,some [a]=>some ([],.one (.fl (aN (aC.mul x a))))
  | some x,some [a,b,c]=>some ([],.one (.fl (aN (aC.mul (aC.mul (aC.mul x a) b) c))))
  | _,_=>none
 | _=>none
theorem wB:∀{n:Nat} {l:List At} {xs:List aM},Kh n l=some xs→xs.length=n∧∃r,aA l=aA (xs.flatMap aN)++r
 | 0,l,xs,h=>by cases h; exact⟨rfl,aA l,rfl⟩
 | n+1,l,xs,h=>by
  unfold Kh at h;split at h
  ·rename_i a r ht hd;split at h
   ·rename_i x xs' hx hr;cases h;obtain⟨h1,r',h2⟩:=wB hr;obtain⟨r2,e1,s1⟩:=tU _ _ _ ht;obtain⟨p,e2,s2⟩:=uM _ _ _ hd;obtain⟨h3,h4⟩:=tI (e1.symm.trans e2) (s1.trans s2.symm);refine⟨by rw[List.length_cons,h1],r',?_⟩;rw[e1,aS,h4,h2,eF a _ hx,List.flatMap_cons,aS,List.append_assoc]
   ·cases h
  ·cases h
theorem aXI {w:World} {l m m':List At} {x:aM} {n k:Nat} {r:List Value} (hl:aA l=aA (aN x)) (hm:aA m=aA m'++r) {args:List Value} (ha:bQ w [.v (.fl l),.s m n k] args):bQ w [.v (.fl (aN x)),.s m' n k] args:=by
 match args,ha with
 | [u,s],ha =>
  refine⟨by show u=.agg (aA (aN x)).toArray; rw[←hl]; exact ha.1,?_,trivial⟩;obtain⟨b,o,e,hb,hr⟩:=ha.2.1;refine⟨b,o,e,hb,fun j v hj=>hr j v ?_⟩;rw[hm,List.getElem?_append_left (List.getElem?_eq_some_iff.1 hj).1];exact hj
 | [],ha=>exact ha.elim
 | [_],ha=>exact ha.2.elim
 | _::_::_::_,ha=>exact ha.2.2.elim
theorem Hb:∀cs pre r,SA cs=some (pre,r)→aZ pre→∀(args:List Value) (w:World),bQ w cs args→Good prog 165 r args w:=by
 intro cs pre r hg hp args w ha;unfold SA at hg;split at hg
 ·rename_i l m n k;split at hg
  ·rename_i x a hx hm;cases hg;obtain⟨h1,r',h2⟩:=wB hm;have hn:n=1:=h1.symm;subst hn;have h:=aH aF Fy aL func165 (Rz x a k) trivial (args:=args) (w:=w) (aXI (r:=r') (eF l _ hx) (by rw[h2]; simp[List.flatMap]) ha);rw[fH,fH]at h;exact h
  ·rename_i x a b c hx hm;cases hg;obtain⟨h1,r',h2⟩:=wB hm;have hn:n=3:=h1.symm;subst hn;have h:=aH aF Fy aL func165 (Ry x a b c k) trivial (args:=args) (w:=w) (aXI (r:=r') (eF l _ hx) (by rw[h2]; simp[List.flatMap]) ha);rw[fH x,fH a,fH b,fH c,fH,fH]at h;exact h
  ·cases hg
 ·cases hg
def aTD:Tab:=Pe.add 165 SA
theorem yE:TabOk prog aTD:=Fy.ad func165 Hb
def hXr (y:aM):aM:=aC.mul (aC.mul (aC.mul (eC (bR 3).toNat y) (eC (bR 2).toNat (aC.mul y (RX y)))) (eC (bR 1).toNat (aC.mul y (cE (hG y))))) (cE (hR y))
theorem aQT (y:aM):hXr y=hX y:=by
 unfold hXr hX;rw[show (bR 3).toNat=3 by decide,show (bR 2).toNat=2 by decide,show (bR 1).toNat=1 by decide]
def cPd:Nat→Cfg:=fun _=>⟨fun _=>aTD,fun _=>true,fun _=>none⟩
def fU:Code:=(f111.body).getD .skip
theorem aWy (y:aM):aX prog qN f111.ntmps cPd 40 (cA fU) (lS 0 [.v (.fl (aN y))]) [.slot 1 (.pt 1 0),.row 1 true (aN y),.slot 2 (.pt 2 0),.row 2 true (aN aC.zero)]=some ([],.nrm,[.slot 1 (.pt 1 0),.row 1 true (aN y),.slot 2 (.pt 2 0),.row 2 true (aN aC.zero)]):=by kernel_rfl
theorem aWx (y:aM):aX prog qN f111.ntmps cPd 40 (cA (cB fU)) [.slot 1 (.pt 1 0),.row 1 true (aN y),.slot 2 (.pt 2 0),.row 2 true (aN aC.zero)] [.slot 3 (.pt 3 0),.row 3 true (aN (o6 y)),.slot 1 (.pt 1 0),.row 1 true (aN y),.slot 2 (.pt 2 0),.row 2 true (aN aC.zero)]=some ([oY y],.nrm,[.slot 3 (.pt 3 0),.row 3 true (aN (o6 y)),.slot 1 (.pt 1 0),.row 1 true (aN y),.slot 2 (.pt 2 0),.row 2 true (aN aC.zero)]):=by kernel_rfl
theorem aWw (y s:aM):aX prog qN f111.ntmps cPd 40 (cA (cB (cB fU))) [.slot 3 (.pt 3 0),.row 3 true (aN s),.slot 1 (.pt 1 0),.row 1 true (aN y),.slot 2 (.pt 2 0),.row 2 true (aN aC.zero)] [.slot 4 (.pt 4 0),.row 4 true (aN (ox s)),.slot 3 (.pt 3 0),.row 3 true (aN s),.slot 1 (.pt 1 0),.row 1 true (aN y),.slot 2 (.pt 2 0),.row 2 true (aN aC.zero)]=some ([oY s],.nrm,[.slot 4 (.pt 4 0),.row 4 true (aN (ox s)),.slot 3 (.pt 3 0),.row 3 true (aN s),.slot 1 (.pt 1 0),.row 1 true (aN y),.slot 2 (.pt 2 0),.row 2 true (aN aC.zero)]):=by kernel_rfl
theorem aWv (y s q:aM):aX prog qN f111.ntmps cPd 40 (cA (cB (cB (cB fU)))) [.slot 4 (.pt 4 0),.row 4 true (aN q),.slot 3 (.pt 3 0),.row 3 true (aN s),.slot 1 (.pt 1 0),.row 1 true (aN y),.slot 2 (.pt 2 0),.row 2 true (aN aC.zero)] [.slot 5 (.pt 5 0),.row 5 true (aN (o6 q)),.slot 4 (.pt 4 0),.row 4 true (aN q),.slot 3 (.pt 3 0),.row 3 true (aN s),.slot 1 (.pt 1 0),.row 1 true (aN y),.slot 2 (.pt 2 0),.row 2 true (aN aC.zero)]=some ([oY q],.nrm,[.slot 5 (.pt 5 0),.row 5 true (aN (o6 q)),.slot 4 (.pt 4 0),.row 4 true (aN q),.slot 3 (.pt 3 0),.row 3 true (aN s),.slot 1 (.pt 1 0),.row 1 true (aN y),.slot 2 (.pt 2 0),.row 2 true (aN aC.zero)]):=by kernel_rfl
theorem aWu (y s q c:aM):aX prog qN f111.ntmps cPd 40 (cA (cB (cB (cB (cB fU))))) [.slot 5 (.pt 5 0),.row 5 true (aN c),.slot 4 (.pt 4 0),.row 4 true (aN q),.slot 3 (.pt 3 0),.row 3 true (aN s),.slot 1 (.pt 1 0),.row 1 true (aN y),.slot 2 (.pt 2 0),.row 2 true (aN aC.zero)] [.slot 6 (.pt 6 0),.row 6 true (aN (aC.mul q q)),.slot 5 (.pt 5 0),.row 5 true (aN c),.slot 4 (.pt 4 0),.row 4 true (aN q),.slot 3 (.pt 3 0),.row 3 true (aN s),.slot 1 (.pt 1 0),.row 1 true (aN y),.slot 2 (.pt 2 0),.row 2 true (aN aC.zero)]=some ([oY q],.nrm,[.slot 6 (.pt 6 0),.row 6 true (aN (aC.mul q q)),.slot 5 (.pt 5 0),.row 5 true (aN c),.slot 4 (.pt 4 0),.row 4 true (aN q),.slot 3 (.pt 3 0),.row 3 true (aN s),.slot 1 (.pt 1 0),.row 1 true (aN y),.slot 2 (.pt 2 0),.row 2 true (aN aC.zero)]):=by kernel_rfl
theorem aWt (y s q c t:aM):aX prog qN f111.ntmps cPd 40 (cA (cB (cB (cB (cB (cB fU)))))) [.slot 6 (.pt 6 0),.row 6 true (aN t),.slot 5 (.pt 5 0),.row 5 true (aN c),.slot 4 (.pt 4 0),.row 4 true (aN q),.slot 3 (.pt 3 0),.row 3 true (aN s),.slot 1 (.pt 1 0),.row 1 true (aN y),.slot 2 (.pt 2 0),.row 2 true (aN aC.zero)] [.slot 7 (.pt 7 0),.row 7 true (aN (aC.mul (aC.mul (aC.mul c q) t) (aC.mul s s))),.slot 6 (.pt 6 0),.row 6 true (aN t),.slot 5 (.pt 5 0),.row 5 true (aN c),.slot 4 (.pt 4 0),.row 4 true (aN q),.slot 3 (.pt 3 0),.row 3 true (aN s),.slot 1 (.pt 1 0),.row 1 true (aN y),.slot 2 (.pt 2 0),.row 2 true (aN aC.zero)]=some ([oY s],.nrm,[.slot 7 (.pt 7 0),.row 7 true (aN (aC.mul (aC.mul (aC.mul c q) t) (aC.mul s s))),.slot 6 (.pt 6 0),.row 6 true (aN t),.slot 5 (.pt 5 0),.row 5 true (aN c),.slot 4 (.pt 4 0),.row 4 true (aN q),.slot 3 (.pt 3 0),.row 3 true (aN s),.slot 1 (.pt 1 0),.row 1 true (aN y),.slot 2 (.pt 2 0),.row 2 true (aN aC.zero)]):=by kernel_rfl
theorem aWs (y s q c t g:aM):aX prog qN f111.ntmps cPd 40 (cA (cB (cB (cB (cB (cB (cB fU))))))) [.slot 7 (.pt 7 0),.row 7 true (aN g),.slot 6 (.pt 6 0),.row 6 true (aN t),.slot 5 (.pt 5 0),.row 5 true (aN c),.slot 4 (.pt 4 0),.row 4 true (aN q),.slot 3 (.pt 3 0),.row 3 true (aN s),.slot 1 (.pt 1 0),.row 1 true (aN y),.slot 2 (.pt 2 0),.row 2 true (aN aC.zero)] [.slot 8 (.pt 8 0),.row 8 true (aN (aC.mul (aC.mul (aC.mul g t) s) (aC.mul y y))),.slot 7 (.pt 7 0),.row 7 true (aN g),.slot 6 (.pt 6 0),.row 6 true (aN t),.slot 5 (.pt 5 0),.row 5 true (aN c),.slot 4 (.pt 4 0),.row 4 true (aN q),.slot 3 (.pt 3 0),.row 3 true (aN s),.slot 1 (.pt 1 0),.row 1 true (aN y),.slot 2 (.pt 2 0),.row 2 true (aN aC.zero)]=some ([oY y],.nrm,[.slot 8 (.pt 8 0),.row 8 true (aN (aC.mul (aC.mul (aC.mul g t) s) (aC.mul y y))),.slot 7 (.pt 7 0),.row 7 true (aN g),.slot 6 (.pt 6 0),.row 6 true (aN t),.slot 5 (.pt 5 0),.row 5 true (aN c),.slot 4 (.pt 4 0),.row 4 true (aN q),.slot 3 (.pt 3 0),.row 3 true (aN s),.slot 1 (.pt 1 0),.row 1 true (aN y),.slot 2 (.pt 2 0),.row 2 true (aN aC.zero)]):=by kernel_rfl
theorem aWr (y s q c t g h:aM):aX prog qN f111.ntmps cPd 40 (cB (cB (cB (cB (cB (cB (cB fU))))))) [.slot 8 (.pt 8 0),.row 8 true (aN h),.slot 7 (.pt 7 0),.row 7 true (aN g),.slot 6 (.pt 6 0),.row 6 true (aN t),.slot 5 (.pt 5 0),.row 5 true (aN c),.slot 4 (.pt 4 0),.row 4 true (aN q),.slot 3 (.pt 3 0),.row 3 true (aN s),.slot 1 (.pt 1 0),.row 1 true (aN y),.slot 2 (.pt 2 0),.row 2 true (aN aC.zero)] [.slot 2 (.pt 2 0),.row 2 true (aN (aC.mul (aC.mul (aC.mul (eC (bR 3).toNat y) (eC (bR 2).toNat (aC.mul y q))) (eC (bR 1).toNat (aC.mul y (cE g)))) (cE h)))]=some ([],.rt,[.slot 2 (.pt 2 0),.row 2 true (aN (aC.mul (aC.mul (aC.mul (eC (bR 3).toNat y) (eC (bR 2).toNat (aC.mul y q))) (eC (bR 1).toNat (aC.mul y (cE g)))) (cE h)))]):=by kernel_rfl
theorem aJj:fU=.seq (cA fU) (.seq (cA (cB fU)) (.seq (cA (cB (cB fU))) (.seq (cA (cB (cB (cB fU)))) (.seq (cA (cB (cB (cB (cB fU))))) (.seq (cA (cB (cB (cB (cB (cB fU)))))) (.seq (cA (cB (cB (cB (cB (cB (cB fU))))))) ((cB (cB (cB (cB (cB (cB (cB fU)))))))))))))):=by kernel_rfl
theorem Ha (y:aM) (hy:oY y) (args:List Value) (w:World) (ha:bQ w [.v (.fl (aN y))] args):Good prog 111 (.one (.fl (aN (hX y)))) args w:=by
 have h6:oY (rE y):=IU hy _;have h2:oY (RX y):=IU h6 _;refine dU func111 (c:=fU) rfl ha (Nat.le_of_ble_eq_true (by kernel_rfl)) fun a w' hA => ?_
 rw[aJj];refine wp_seq (bD aF (fun _ _=>yE) aL (aWy y) trivial hA fun a w' hA => ?_);refine wp_seq (bD aF (fun _ _=>yE) aL (aWx y) ⟨hy,trivial⟩ hA fun a w' hA => ?_);rw[show o6 y=rE y from aCb y]at hA;refine wp_seq (bD aF (fun _ _=>yE) aL (aWw y (rE y)) ⟨h6,trivial⟩ hA fun a w' hA => ?_);rw[show ox (rE y)=RX y from aLk _]at hA;refine wp_seq (bD aF (fun _ _=>yE) aL (aWv y (rE y) (RX y)) ⟨h2,trivial⟩ hA fun a w' hA => ?_);rw[show o6 (RX y)=hCu y from aCb _]at hA;refine wp_seq (bD aF (fun _ _=>yE) aL (aWu y (rE y) (RX y) (hCu y)) ⟨h2,trivial⟩ hA fun a w' hA => ?_);refine wp_seq (bD aF (fun _ _=>yE) aL (aWt y (rE y) (RX y) (hCu y) (hT y)) ⟨h6,trivial⟩ hA fun a w' hA => ?_);refine wp_seq (bD aF (fun _ _=>yE) aL (aWs y (rE y) (RX y) (hCu y) (hT y) (hG y)) ⟨hy,trivial⟩ hA fun a w' hA => ?_);have h:=aWr y (rE y) (RX y) (hCu y) (hT y) (hG y) (hR y);refine bD aF (fun _ _=>yE) aL h trivial hA fun a w' hA => ?_
 rw[←aQT];exact eV (l:=[.fl (aN (hXr y))]) (by kernel_rfl) (by kernel_rfl) hA
def aTE:Tab:=aTD.add 111 (g1 qQ fun y=>([oY y],.one (.fl (aN (hX y)))))
theorem aLI:TabOk prog aTE:=yE.ad func111 (bM eF fun y hp args w ha=>Ha y hp.1 args w ha)
def eZr (a:aM):aM:=aC.mul (gC (lJ (eC (bR 2).toNat (aC.mul (gC (lJ (cE a))) (gC (lJ (kI a))))))) (gC (lJ (aC.mul (gC (lJ (cE a))) (gC (lJ (kI a))))))
theorem aDW (a:aM):eZr a=eZ a:=by
 unfold eZr eZ;rw[fH,fH,fH,fH,aWq]
theorem Zw (x:tR):bN prog aTE qN (fun _=>true) f53 60 [.v (.fl (uA x))]=some ([uU (gC x)≠F1.zero,oY (eZr (gC x))],.one (.fl (aN (hX (eZr (gC x)))))):=by kernel_rfl
def aXT:Tab:=aTE.add 53 (g1 Fa fun x=>([uU (gC x)≠F1.zero],.one (.fl (aN (jW (gC x))))))
theorem aVR:TabOk prog aXT:=aLI.ad func53 (bM xN fun x hp args w ha=>by
 have h:=aH aF aLI aL func53 (Zw x) ⟨hp.1,by rw[aDW]; exact Nz hp.1,trivial⟩ (args:=args) (w:=w) ha;rw[aDW]at h;exact h)
def aMm (z:aM):Prop:=oY z∧bH aC z Go.Proofs.YtglgakbkdjhojaaGreat.FR.M=aC.one
def Mu:Nat:=29793968203157093288
def LO:List Int:=[0,0,0,1,0,1,0,-1,0,0,-1,0,0,0,1,0,0,-1,0,-1,0,0,0,1,0,-1,0,0,0,0,-1,0,0,1,0,-1,0,0,1,0,0,0,0,0,-1,0,0,-1,0,1,0,-1,0,0,0,-1,0,-1,0,0,0,1,0,-1,0,1]
theorem aGC:aT prog (qG prog) cSg f112 300 [.v (.fl (q1 Mu))]=some ([wv Mu+wv Mu<115792089237316195423570985008687907853269984665640564039457584007913129639936,wv (wv Mu+wv Mu)+wv Mu<115792089237316195423570985008687907853269984665640564039457584007913129639936],.one (.fl (dA LO))):=by kernel_rfl
theorem aOp:Wh Mu LO:=fun args w ha=>aB aF (fun _ _=>Lh) (aK _) func112 aGC ⟨by decide +kernel,by decide +kernel,trivial⟩ ha
def aMY:Tab:=aTB.add 70 (g0 (.one (.fl [.f s6F])))
theorem aQc:TabOk prog aMY:=Lh.ad func70 (gI fun w=>aH aF ZG aL func70 Kb trivial (args:=[]) trivial)
theorem aOu:aT prog (qG prog) (fun _=>⟨fun _=>aMY,fun _=>true,fun _=>none⟩) f113 60 []=some ([wv s6F.1+wv 2<115792089237316195423570985008687907853269984665640564039457584007913129639936],.one (.fl (q1 (wv s6F.1+wv 2)))):=by kernel_rfl
theorem aWj:wv s6F.1+wv 2=Mu:=by decide +kernel
def aMO:Tab:=Wf.add 113 (g0 (.one (.fl (q1 Mu))))
theorem aPS:TabOk prog aMO:=ZB.ad func113 (gI fun w=>by
 have h:=aB aF (fun _ _=>aQc) (aK _) func113 aOu ⟨by decide +kernel,trivial⟩ (args:=[]) (w:=w) trivial;rw[aWj]at h;exact h)
def wW:Tab:=aMO.add 112 (gSg Mu LO)
theorem aRd {N:Nat} {D:List Int} (h:Wh N D):∀cs pre r,gSg N D cs=some (pre,r)→aZ pre→∀(args:List Value) (w:World),bQ w cs args→Good prog 112 r args w:=by
 intro cs pre r hg hp args w ha;unfold gSg at hg;split at hg
 ·rename_i l;split at hg
  ·rename_i n hn;cases hg;obtain⟨rfl,_⟩:=hp;refine h args w ?_
   match args,ha with
   | [v],ha =>
    refine⟨?_,trivial⟩;show v=.agg (aA (q1 n)).toArray;rw[←fJ l n hn];exact ha.1
   | [],ha=>exact ha.elim
   | _::_::_,ha=>exact ha.2.elim
  ·cases hg
 ·cases hg
theorem oG:TabOk prog wW:=aPS.ad func112 (aRd aOp)
def oP:Code:=(f54.body).getD .skip
def uV:Nat:=f54.ntmps
def lp3:Code:=cA (cB (cB (cB oP)))
def lp4:Code:=cB (cB (cB (cB oP)))
def lpO:Code:=qD (qD (cB lp3))
def lpX:Code:=qD (cA (cB lpO))
def lpI:Code:=qD (qD (cB (cB lpX)))
def lpE:Code:=qD (qD (cB (cA lp4)))
theorem aIS:oP=.seq (cA oP) (.seq (cA (cB oP)) (.seq (cA (cB (cB oP))) (.seq (.seq (cA lp3) (.block 0 (.loop lpO))) (.seq (.seq (cA (cA lp4)) (.block 4 (.loop lpE))) (cB lp4))))):=by kernel_rfl
theorem ZY:lpO=.seq (cA lpO) (.seq (.block 1 (.seq (cA lpX) (.seq (cA (cB lpX)) (.block 2 (.loop lpI))))) (cB (cB lpO))):=by kernel_rfl
def cL (l:List (Nat×Value)):Nat→Cfg:=fun _=>⟨fun _=>wW,fun _=>true,assoc l⟩
theorem nS (l:List (Nat×Value)) (base:Nat) (w0:World):∀n d,TabOkW prog ((cL l n).T d) base w0:=fun _ _=>oG.w _ _
def q0:EqT:=qPt prog (CP []) (CP []) Pm
theorem gR (base:Nat) (w0:World):cS prog q0 base w0:=oN (eH _) _ _
def lA0 (b N n m:Nat) (l:List At):List Fact:=[.slot 0 (.sl 0 0 n m),.row 0 true l,.at 0 b,.at uV N,.slot 2 (.pt 2 0),.row 2 true (aN aC.zero)]
def lA1 (b N n m:Nat) (l:List At) (f:aM):List Fact:=[.slot 0 (.sl 0 0 n m),.row 0 true l,.at 0 b,.at uV N,.slot 2 (.pt 2 0),.row 2 true (aN aC.zero),.slot 3 (.pt 3 0),.row 3 true (aN f)]
def lA2 (b N n m:Nat) (l:List At) (f:aM):List Fact:=[.slot 0 (.sl 0 0 n m),.row 0 true l,.at 0 b,.at uV N,.slot 2 (.pt 2 0),.row 2 true (aN aC.zero),.slot 3 (.pt 3 0),.row 3 true (aN f),.slot 4 (.pt 4 0),.row 4 true (dA LO)]
def lA (b N n m:Nat) (l:List At) (f:aM) (k:Int):List Fact:=[.slot 0 (.sl 0 0 n m),.row 0 true l,.at 0 b,.at uV N,.slot 2 (.pt 2 0),.row 2 true (aN aC.zero),.slot 3 (.pt 3 0),.row 3 true (aN f),.slot 4 (.pt 4 0),.row 4 true (dA LO),.slot 5 (.im (.int .i64 k))]
def lB (b N n m:Nat) (l:List At) (f:aM) (k:Int) (j:Nat):List Fact:=[.slot 0 (.sl 0 0 n m),.row 0 true l,.at 0 b,.at uV N,.slot 2 (.pt 2 0),.row 2 true (aN aC.zero),.slot 3 (.pt 3 0),.row 3 true (aN f),.slot 4 (.pt 4 0),.row 4 true (dA LO),.slot 5 (.im (.int .i64 k)),.slot 18 (.im (iI n)),.slot 19 (.im (iI j))]
theorem aZY (b N n m:Nat) (l:List At):aX prog q0 uV (cL []) 40 (cA oP) (Wb uV b N (.sl 0 0 n m) l []) (lA0 b N n m l)=some ([],.nrm,lA0 b N n m l):=by kernel_rfl
theorem aZX (b N n m:Nat) (l:List At):aX prog q0 uV (cL []) 40 (cA (cB oP)) (lA0 b N n m l) (lA1 b N n m l aC.one)=some ([],.nrm,lA1 b N n m l aC.one):=by kernel_rfl
theorem aZW (b N n m:Nat) (l:List At) (f:aM):aX prog q0 uV (cL []) 40 (cA (cB (cB oP))) (lA1 b N n m l f) (lA2 b N n m l f)=some ([Mu=Mu],.nrm,lA2 b N n m l f):=by kernel_rfl
theorem aZV (b N n m:Nat) (l:List At) (f:aM):aX prog q0 uV (cL []) 40 (cA lp3) (lA2 b N n m l f) (lA b N n m l f 64)=some ([],.nrm,lA b N n m l f 64):=by kernel_rfl
theorem l_c (b N n m:Nat) (l:List At) (f:aM) (k:Int):aX prog q0 uV (cL [(12,.bool true)]) 40 (cA lpO) (lA b N n m l f k) (lA b N n m l f k)=some ([aI .geq .i64 k 0=some (.bool true)],.nrm,lA b N n m l f k):=by kernel_rfl
theorem l_x (b N n m:Nat) (l:List At) (f:aM) (k:Int):aX prog q0 uV (cL [(12,.bool false)]) 40 (cA lpO) (lA b N n m l f k) (lA2 b N n m l f)=some ([aI .geq .i64 k 0=some (.bool false)],.ex 0,lA2 b N n m l f):=by kernel_rfl
theorem aZU (b N n m:Nat) (l:List At) (f:aM) (k:Int):aX prog q0 uV (cL []) 40 (cA lpX) (lA b N n m l f k) (lA b N n m l (aC.mul f f) k)=some ([],.nrm,lA b N n m l (aC.mul f f) k):=by kernel_rfl
theorem aZZ (b N n m:Nat) (l:List At) (f:aM) (k:Int):aX prog q0 uV (cL []) 40 (cA (cB lpX)) (lA b N n m l f k) (lB b N n m l f k 0)=some ([],.nrm,lB b N n m l f k 0):=by kernel_rfl
theorem bAa (b N n m:Nat) (l:List At) (f:aM) (k k':Int):aX prog q0 uV (cL [(14,.int .i64 k')]) 40 (cB (cB lpO)) (lA b N n m l f k) (lA b N n m l f k')=some ([aI .sub .i64 k 1=some (.int .i64 k')],.nrm,lA b N n m l f k'):=by kernel_rfl
theorem bAc (b N n m:Nat) (l:List At) (f:aM) (k:Int) (j:Nat):aX prog q0 uV (cL [(20,.bool false)]) 40 lpI (lB b N n m l f k j) (lA b N n m l f k)=some ([aI .lss .i64 (Int.ofNat j) (Int.ofNat n)=some (.bool false)],.ex 2,lA b N n m l f k):=by kernel_rfl
def T5i (l l1:List At) (j:Nat) (f g:aM) (d:Int):Tab5:=Pm.add 115 (pe2 l (50*j) (oV f) (.int .i64 d) (.one (.fl (oV g))) l1)
def qI (l l1:List At) (j kk:Nat) (f g:aM) (d:Int):EqT:=qPx prog (CP []) (CP []) (assoc [(24,j),(28,kk)]) (assoc [(29,.int .i64 d)]) (T5i l l1 j f g d)
section
variable {R A Q S:Type} (K:CR R) (lfG:A→Q→Int→S→R) (npG:Q→Int→S→S) (ewG:A→Q→S→R)
theorem IJ (d:Int):∀(a b:List (A×Q×S)) (f:R),jH K lfG d f (a++b)=jH K lfG d (jH K lfG d f a) b
 | [],b,f=>rfl
 | W::a,b,f=>IJ d a b _
theorem NU:∀(a b:List (A×Q×S)) (f:R),mE K ewG f (a++b)=mE K ewG (mE K ewG f a) b
 | [],b,f=>rfl
 | W::a,b,f=>NU a b _
theorem XL:∀(a b:List Int) (s:R×List (A×Q×S)),mJ K lfG npG (a++b) s=mJ K lfG npG b (mJ K lfG npG a s)
 | [],b,s=>rfl
 | d::a,b,s=>XL a b _
theorem nT {α:Type} {l:List α} {j:Nat} {x:α} (h:l[j]?=some x):∃a b,l=a++x::b∧a.length=j∧l.take j=a∧l.drop j=x::b∧l.take (j+1)=a++[x]∧l.drop (j+1)=b:=by
 obtain⟨hlt,he⟩:=List.getElem?_eq_some_iff.1 h;refine⟨l.take j,l.drop (j+1),by rw[←he,List.getElem_cons_drop hlt,List.take_append_drop],by rw[List.length_take]; omega,rfl,by rw[←he,List.getElem_cons_drop hlt],by rw[List.take_add_one,h]; rfl,rfl⟩
theorem Gn {d:Int} {f:R} {Ws:List (A×Q×S)} {j:Nat} {W:A×Q×S} (h:Ws[j]?=some W):jH K lfG d f (Ws.take (j+1))=K.mul (jH K lfG d f (Ws.take j)) (lfG W.1 W.2.1 d W.2.2):=by
 obtain⟨a,b,_,_,h1,_,h2,_⟩:=nT h;rw[h1,h2,IJ];rfl
theorem Vl {f:R} {Ws:List (A×Q×S)} {j:Nat} {W:A×Q×S} (h:Ws[j]?=some W):mE K ewG f (Ws.take (j+1))=K.mul (mE K ewG f (Ws.take j)) (ewG W.1 W.2.1 W.2.2):=by
 obtain⟨a,b,_,_,h1,_,h2,_⟩:=nT h;rw[h1,h2,NU];rfl
theorem aAi (p:Q→Prop):∀(ds:List Int) (s:R×List (A×Q×S)),(∀W∈s.2,p W.2.1)→∀W∈(mJ K lfG npG ds s).2,p W.2.1
 | [],s,h=>h
 | d::ds,s,h=>aAi p ds _ fun W hW=>by
  obtain⟨V,hV,rfl⟩:=List.mem_map.1 hW;exact h V hV
theorem FY:∀(ds:List Int) (s:R×List (A×Q×S)),(mJ K lfG npG ds s).2.length=s.2.length
 | [],s=>rfl
 | d::ds,s=>by
  show (mJ K lfG npG ds _).2.length=_;rw[FY ds];exact List.length_map _
end
def II {α:Type} (g:α→α) (l:List α) (j:Nat):List α:=(l.take j).map g++l.drop j
theorem Mn {α:Type} (g:α→α) {l:List α} {j:Nat} {x:α} (h:l[j]?=some x):(II g l j)[j]?=some x:=by
 obtain⟨a,b,_,h0,h1,h2,_⟩:=nT h;unfold II;rw[h1,h2,List.getElem?_append_right (by rw[List.length_map,h0]; exact Nat.le_refl _),List.length_map,h0,Nat.sub_self];rfl
theorem Mm {α:Type} (g:α→α) {l:List α} {j:Nat} {x:α} (h:l[j]?=some x):(II g l j).set j (g x)=II g l (j+1):=by
 obtain⟨a,b,_,h0,h1,h2,h3,h4⟩:=nT h;unfold II;rw[h1,h2,h3,h4,←h0];simp
theorem aLX {α:Type} (g:α→α) (l:List α):II g l 0=l:=by simp[II]
theorem Mo {α:Type} (g:α→α) (l:List α):II g l l.length=l.map g:=by simp[II]
theorem bAb (b N n m j kk:Nat) (l l1:List At) (f g:aM) (k d:Int):aX prog (qI l l1 j kk f g d) uV (cL [(20,.bool true),(32,iI (j+1))]) 40 lpI (lB b N n m l f k j) (lB b N n m l1 g k (j+1)) =
  some ([aI .lss .i64 (Int.ofNat j) (Int.ofNat n)=some (.bool true),Int.ofNat j=Int.ofNat j,j<n,k=Int.ofNat kk,kk<66,cellAt (dA LO) (0+kk*1)=some (.int .i64 d),l=l,0+j*50=50*j,aA (oV f)=aA (oV f),Value.int .i64 d=.int .i64 d,aI .add .i64 (Int.ofNat j) 1=some (iI (j+1))],.nrm,lB b N n m l1 g k (j+1)):=by kernel_rfl
def lE (b N n m:Nat) (l:List At) (f:aM) (j:Nat):List Fact:=[.slot 0 (.sl 0 0 n m),.row 0 true l,.at 0 b,.at uV N,.slot 2 (.pt 2 0),.row 2 true (aN aC.zero),.slot 3 (.pt 3 0),.row 3 true (aN f),.slot 4 (.pt 4 0),.row 4 true (dA LO),.slot 34 (.im (iI n)),.slot 35 (.im (iI j))]
def lF (b N:Nat) (l:List At) (f:aM):List Fact:=[.slot 2 (.pt 2 0),.row 2 true (aN f),.row 0 true l,.at 0 b,.at uV N]
theorem aWk (b N n m:Nat) (l:List At) (f:aM):aX prog q0 uV (cL []) 40 (cA (cA lp4)) (lA2 b N n m l f) (lE b N n m l f 0)=some ([],.nrm,lE b N n m l f 0):=by kernel_rfl
theorem bAe (b N n m:Nat) (l:List At) (f:aM) (j:Nat):aX prog q0 uV (cL [(36,.bool false)]) 40 lpE (lE b N n m l f j) (lA2 b N n m l f)=some ([aI .lss .i64 (Int.ofNat j) (Int.ofNat n)=some (.bool false)],.ex 4,lA2 b N n m l f):=by kernel_rfl
def T5f (l l1:List At) (j:Nat) (f g:aM):Tab5:=Pm.add 118 (pe1 l (50*j) (oV f) (.one (.fl (oV g))) l1)
def qE (l l1:List At) (j:Nat) (f g:aM):EqT:=qPx prog (CP []) (CP []) (assoc [(40,j)]) (assoc []) (T5f l l1 j f g)
theorem bAd (b N n m j:Nat) (l l1:List At) (f g:aM):aX prog (qE l l1 j f g) uV (cL [(36,.bool true),(45,iI (j+1))]) 40 lpE (lE b N n m l f j) (lE b N n m l1 g (j+1)) =
  some ([aI .lss .i64 (Int.ofNat j) (Int.ofNat n)=some (.bool true),Int.ofNat j=Int.ofNat j,j<n,l=l,0+j*50=50*j,aA (oV f)=aA (oV f),aI .add .i64 (Int.ofNat j) 1=some (iI (j+1))],.nrm,lE b N n m l1 g (j+1)):=by kernel_rfl
theorem aWl (b N n m:Nat) (l:List At) (f:aM):aX prog q0 uV (cL []) 40 (cB lp4) (lA2 b N n m l f) (lF b N l f)=some ([],.rt,lF b N l f):=by kernel_rfl
theorem aTG {Ws:List Wk} {j:Nat} {W:Wk} (h:Ws[j]?=some W) (f:aM) (d:Int) (hd:d=0∨d=1∨d = -1):PtOk prog (T5i (rows Ws) (rows (Ws.set j (Yn np d W))) j f (aC.mul f (lf W.1 W.2.1 d W.2.2)) d) :=
 (eH _).ad func115 (aOS (Cr h f d hd))
theorem aTH {Ws:List Wk} {j:Nat} {a:Fq×Fq} {q:Q2×Q2} {p:J2} (h:Ws[j]?=some (a,q,p)) (f:aM) (hq:On F2 dK (some q)):PtOk prog (T5f (rows Ws) (rows (Ws.set j (enW (a,q,p)))) j f (aC.mul f (ew a q p))) :=
 (eH _).ad func118 (Fs (Vm h f hq))
section
variable {N n m b:Nat} {w0:World} {Q:Exit→Act→World→Prop}
theorem aCP {Ws:List Wk} (hn:Ws.length=n) (hlt:n<4611686018427387904) {f:aM} {k d:Int} {kk:Nat} (hk:k=Int.ofNat kk) (hkk:kk<66) (hc:cellAt (dA LO) (0+kk*1)=some (.int .i64 d)) (hd:d=0∨d=1∨d = -1) {a:Act} {w:World}
  (h:Holds uV b w0 (lB b N n m (rows Ws) f k 0) a w) (hQ:∀a w,Holds uV b w0 (lA b N n m (rows (Ws.map (Yn np d))) (jH aC lf d f Ws) k) a w→Q .normal a w):(Code.block 2 (.loop lpI)).wp prog Q a w:=by
 refine wp_block ?_;refine pP (fun j a w=>Holds uV b w0 (lB b N n m (rows (II (Yn np d) Ws j)) (jH aC lf d f (Ws.take j)) k j) a w) n (fun j hj a w hA R hR => ?_) (fun a w hA R => ?_) (by rw[aLX,List.take_zero]; exact h)
 ·obtain⟨W,hW⟩:∃W,Ws[j]?=some W:=⟨_,List.getElem?_eq_getElem (by omega)⟩
  have ht:=aTG (Mn (Yn np d) hW) (jH aC lf d f (Ws.take j)) d hd;rw[Mm (Yn np d) hW]at ht;rw[←Gn aC lf hW]at ht;refine aD aF (nS _ _ _) (jB ht _ _) (bAb b N n m j kk _ _ _ _ k d) ⟨bY hj,rfl,hj,hk,hkk,hc,rfl,by omega,rfl,rfl,lI (k:=1) (by omega),trivial⟩ hA fun a w hA=>hR a w hA
 ·refine aD aF (nS _ _ _) (gR _ _) (bAc b N n m _ _ k n) ⟨eO (Nat.le_refl _),trivial⟩ hA fun a w hA => ?_
  subst hn;rw[Mo,List.take_length]at hA;exact hQ a w hA
theorem aJS {Ws:List Wk} (hn:Ws.length=n) (hlt:n<4611686018427387904) (hq:∀W∈Ws,On F2 dK (some W.2.1)) {f:aM} {a:Act} {w:World}
  (h:Holds uV b w0 (lE b N n m (rows Ws) f 0) a w) (hQ:∀a w,Holds uV b w0 (lA2 b N n m (rows (Ws.map enW)) (mE aC ew f Ws)) a w→Q .normal a w):(Code.block 4 (.loop lpE)).wp prog Q a w:=by
 refine wp_block ?_;refine pP (fun j a w=>Holds uV b w0 (lE b N n m (rows (II enW Ws j)) (mE aC ew f (Ws.take j)) j) a w) n (fun j hj a w hA R hR => ?_) (fun a w hA R => ?_) (by rw[aLX,List.take_zero]; exact h)
 ·obtain⟨W,hW⟩:∃W,Ws[j]?=some W:=⟨_,List.getElem?_eq_getElem (by omega)⟩
  obtain⟨pa,pq,pp⟩:=W;have ht:=aTH (Mn enW hW) (mE aC ew f (Ws.take j)) (hq _ (List.mem_of_getElem? hW));rw[Mm enW hW]at ht;have e:=Vl aC ew (f:=f) hW;dsimp only at e;rw[←e]at ht;refine aD aF (nS _ _ _) (jB ht _ _) (bAd b N n m j _ _ _ _) ⟨bY hj,rfl,hj,rfl,by omega,rfl,lI (k:=1) (by omega),trivial⟩ hA fun a w hA=>hR a w hA
 ·refine aD aF (nS _ _ _) (gR _ _) (bAe b N n m _ _ n) ⟨eO (Nat.le_refl _),trivial⟩ hA fun a w hA => ?_
  subst hn;rw[Mo,List.take_length]at hA;exact hQ a w hA
theorem aXo:(List.range 65).all (fun i=>decide (uL.take (i+1)=uL.take i++[dI LO (64-i)])&&decide (dI LO (64-i)=0∨dI LO (64-i)=1∨dI LO (64-i) = -1))=true:=by kernel_rfl
theorem aSc {i:Nat} (h:i<65):uL.take (i+1)=uL.take i++[dI LO (64-i)]∧(dI LO (64-i)=0∨dI LO (64-i)=1∨dI LO (64-i) = -1):=by
 have:=List.all_eq_true.1 aXo i (List.mem_range.2 h);rw[Bool.and_eq_true,decide_eq_true_eq,decide_eq_true_eq]at this;exact this
theorem aSb:uL.take 65=uL:=by kernel_rfl
theorem aLN (k:Int):aI .geq .i64 k 0=some (.bool (decide (k≥0))):=rfl
theorem aBn {Ws:List Wk} (hn:Ws.length=n) (hlt:n<4611686018427387904) {f:aM} {a:Act} {w:World}
  (h:Holds uV b w0 (lA b N n m (rows Ws) f 64) a w) (hQ:∀a w,Holds uV b w0 (lA2 b N n m (rows (mJ aC lf np uL (f,Ws)).2) (mJ aC lf np uL (f,Ws)).1) a w→Q .normal a w):(Code.block 0 (.loop lpO)).wp prog Q a w:=by
 refine wp_block ?_;refine pP (fun i a w=>Holds uV b w0 (lA b N n m (rows (mJ aC lf np (uL.take i) (f,Ws)).2) (mJ aC lf np (uL.take i) (f,Ws)).1 (64-(i:Int))) a w) 65 (fun i hi a w hA R hR => ?_) (fun a w hA R => ?_) (by rw[List.take_zero,show (64:Int)-((0:Nat):Int)=64 from rfl]; exact h)
 ·obtain⟨h1,h2⟩:=aSc hi;have hl:=FY aC lf np (uL.take i) (f,Ws);rw[show mJ aC lf np (uL.take (i+1)) (f,Ws)=_ from (congrArg (fun x=>mJ aC lf np x (f,Ws)) h1).trans (XL aC lf np _ _ _)]at hR;generalize mJ aC lf np (uL.take i) (f,Ws)=s at hA hR hl;have hR:∀a w,Holds uV b w0 (lA b N n m (rows (s.2.map (Yn np (dI LO (64-i))))) (jH aC lf (dI LO (64-i)) (aC.mul s.1 s.1) s.2) (64-((i+1:Nat):Int))) a w→R a w:=hR
  rw[ZY];refine wp_seq (aD aF (nS _ _ _) (gR _ _) (l_c b N n m _ _ _) ⟨by rw[aLN,decide_eq_true (by omega)],trivial⟩ hA fun a w hA => ?_);refine wp_seq (wp_block (wp_seq (aD aF (nS _ _ _) (gR _ _) (aZU b N n m _ _ _) trivial hA fun a w hA => ?_)));refine wp_seq (aD aF (nS _ _ _) (gR _ _) (aZZ b N n m _ _ _) trivial hA fun a w hA => ?_);refine aCP (kk:=64-i) (d:=dI LO (64-i)) (hl.trans hn) hlt (by show (64:Int)-(i:Int)=((64-i:Nat):Int); omega) (by omega) (by rw[Nat.zero_add,Nat.mul_one]; exact SP LO _ (by show _<66; omega)) h2 hA fun a w hA => ?_
  refine aD aF (nS _ _ _) (gR _ _) (bAa b N n m _ _ _ (64-((i+1:Nat):Int))) ⟨?_,trivial⟩ hA fun a w hA=>hR a w hA
  show some (Value.int .i64 (IntKind.i64.wrap ((64:Int)-(i:Int)-1)))=_;rw[show (64:Int)-(i:Int)-1=64-((i+1:Nat):Int) by omega,Uz _ (by omega) (by omega)]
 ·rw[ZY];refine wp_seq (aD aF (nS _ _ _) (gR _ _) (l_x b N n m _ _ _) ⟨by rw[aLN,decide_eq_false (by omega)],trivial⟩ hA fun a w hA => ?_);rw[aSb]at hA;exact hQ a w hA
end
theorem Ut (l:List ((Fq×Fq)×(Q2×Q2))) (hlt:l.length<4611686018427387904) (hq:∀x∈l,On F2 dK (some x.2)) {b m:Nat} {w:World} (hO:Own w b (rows (l.map bW))) :
  ∃L,Calls prog 54 #[kB b 0 l.length m] w (Wr b w (.one (.fl (aN (yK l)))) L):=by
 have hw:(l.map bW).length=l.length:=List.length_map _;have hqw:∀W∈l.map bW,On F2 dK (some W.2.1):=fun W hW=>by
  obtain⟨x,hx,rfl⟩:=List.mem_map.1 hW;exact hq x hx
 have hL:yK l=mE aC ew (mJ aC lf np uL (aC.one,l.map bW)).1 (mJ aC lf np uL (aC.one,l.map bW)).2:=by with_unfolding_all rfl
 have hqr:=aAi aC lf np (fun q=>On F2 dK (some q)) uL (aC.one,l.map bW) hqw;have hlr:=(FY aC lf np uL (aC.one,l.map bW)).trans hw;rw[hL];clear hL;refine⟨rows ((mJ aC lf np uL (aC.one,l.map bW)).2.map enW),?_⟩;refine NL (x:=.sl 0 0 l.length m) (v:=kB b 0 l.length m) (ts:=[]) func54 (c:=oP) rfl (fun β h=>by simp[AV.den,kB,h]) hO (Nat.le_of_ble_eq_true (by kernel_rfl)) fun a w1 hA => ?_
 rw[aIS];refine wp_seq (aD aF (nS _ _ _) (gR _ _) (aZY b w.heap.size l.length m _) trivial hA fun a w2 hA => ?_);refine wp_seq (aD aF (nS _ _ _) (gR _ _) (aZX b w.heap.size l.length m _) trivial hA fun a w3 hA => ?_);refine wp_seq (aD aF (nS _ _ _) (gR _ _) (aZW b w.heap.size l.length m _ _) ⟨rfl,trivial⟩ hA fun a w4 hA => ?_);refine wp_seq (wp_seq (aD aF (nS _ _ _) (gR _ _) (aZV b w.heap.size l.length m _ _) trivial hA fun a w5 hA => ?_));refine aBn hw hlt hA fun a w6 hA => ?_
 generalize mJ aC lf np uL (aC.one,l.map bW)=s at hA hqr hlr ⊢;refine wp_seq (wp_seq (aD aF (nS _ _ _) (gR _ _) (aWk b w.heap.size l.length m _ _) trivial hA fun a w7 hA => ?_));refine aJS hlr hlt hqr hA fun a w8 hA => ?_
 refine aD aF (nS _ _ _) (gR _ _) (aWl b w.heap.size l.length m _ _) trivial hA fun a w9 hA => ?_
 exact pQ (l:=[.fl (aN (mE aC ew s.1 s.2))]) (r:=.one (.fl (aN (mE aC ew s.1 s.2)))) (by kernel_rfl) (by kernel_rfl) hA ⟨rfl,hA.wrc (by simp[lF]) (by simp[lF]) (by simp[lF])⟩
def gE1 (m:List At) (r:RV):jV
 | [.v (.fl l)]=>some ([aA l=aA m],r)
 | _=>none
def gE2 (m m':List At) (r:RV):jV
 | [.v (.fl l),.v (.fl l')]=>some ([aA l=aA m,aA l'=aA m'],r)
 | _=>none
theorem SB {f:FuncId} {m:List At} {r0:RV} (h:∀w,Good prog f r0 [.agg (aA m).toArray] w):∀cs pre r,gE1 m r0 cs=some (pre,r)→aZ pre→∀(args:List Value) (w:World),bQ w cs args→Good prog f r args w:=by
 intro cs pre r hg hp args w ha;unfold gE1 at hg;split at hg
 ·cases hg;rw[CQ ha,hp.1];exact h w
 ·cases hg
theorem Hd {f:FuncId} {m m':List At} {r0:RV} (h:∀w,Good prog f r0 [.agg (aA m).toArray,.agg (aA m').toArray] w):∀cs pre r,gE2 m m' r0 cs=some (pre,r)→aZ pre→∀(args:List Value) (w:World),bQ w cs args→Good prog f r args w:=by
 intro cs pre r hg hp args w ha;unfold gE2 at hg;split at hg
 ·cases hg;rw[OG ha,hp.1,hp.2.1];exact h w
 ·cases hg
theorem aJg {Q:C2} (h:kJ Q):Ux (KJ Q.1)=true:=by
 unfold Ux;rw[aUG,tM2,aFH,(Gv Q).2 h];exact decide_eq_true ⟨rfl,rfl⟩
def k0:RV:=.one (.im (.int .i64 0))
theorem Yx (p:nW):aT prog (qG prog) (wq zA) f107 60 [.v (.fl (rX p))]=some ([],.one (.im (.int .i64 (SX p.1 p.2.1 p.2.2).1))):=by kernel_rfl
theorem aYB (P:C1) (w:World):Good prog 107 k0 [.agg (aA (cV P.1)).toArray] w:=by
 have h:=aB aF (fun _ _=>tA) (aK _) func107 (Yx (Xv P.1)) trivial (args:=[.agg (aA (cV P.1)).toArray]) (w:=w) ⟨rfl,trivial⟩;rw[show (SX (Xv P.1).1 (Xv P.1).2.1 (Xv P.1).2.2).1=0 from tC1 P]at h;exact h
theorem aZH (p:jQ):zA 161 [.v (.fl (jU p))]=some ([],.one (.im (.int .i64 (sF p.1 p.2.1 p.2.2).1))):=by kernel_rfl
theorem bAi (p:jQ):zA 162 [.v (.fl (jU p))]=some ([],.one (.im (.bool (Ux p)))):=by kernel_rfl
def aXV (m:List At):Tab:=(zA.add 161 (gE1 m k0)).add 162 (gE1 m (.one (.im (.bool true))))
theorem aVT {Q:C2} (h:kJ Q):TabOk prog (aXV (cD Q.1)):=(tA.ad func161 (SB fun w=>by
  have h:=(tA _ _ _ _ (aZH (KJ Q.1)) trivial).2 [.agg (aA (cD Q.1)).toArray] w ⟨rfl,trivial⟩;rw[show (sF (KJ Q.1).1 (KJ Q.1).2.1 (KJ Q.1).2.2).1=0 from tC2 Q]at h;exact h)).ad func162 (SB fun w=>by
  have h:=(tA _ _ _ _ (bAi (KJ Q.1)) trivial).2 [.agg (aA (cD Q.1)).toArray] w ⟨rfl,trivial⟩;rw[aJg ‹kJ Q›]at h;exact h)
theorem Yw (q:Pt Q2):aT prog (qG prog) (wq (aXV (cD q))) f108 60 [.v (.fl (cD q))]=some ([aA (cD q)=aA (cD q),aA (cD q)=aA (cD q)],k0):=by kernel_rfl
theorem aYA {Q:C2} (h:kJ Q) (w:World):Good prog 108 k0 [.agg (aA (cD Q.1)).toArray] w :=
 aB aF (fun _ _=>aVT h) (aK _) func108 (Yw Q.1) ⟨rfl,rfl,trivial⟩ ⟨rfl,trivial⟩
def aXU (p:Pt Fq) (q:Pt Q2):Tab:=(wW.add 107 (gE1 (cV p) k0)).add 108 (gE1 (cD q) k0)
theorem aVS (P:C1) {Q:C2} (h:kJ Q):TabOk prog (aXU P.1 Q.1):=(oG.ad func107 (SB (aYB P))).ad func108 (SB (aYA h))
theorem PK (p:Pt Fq) (q:Pt Q2):aT prog (qG prog) (wq (aXU p q)) f51 60 [.v (.fl (cV p)),.v (.fl (cD q))]=some ([aA (cV p)=aA (cV p),aA (cD q)=aA (cD q)],k0):=by kernel_rfl
theorem Cx (a:Fq×Fq) (q:Q2×Q2):aT prog (qG prog) (wq wW) f52 60 [.v (.fl (KO a)),.v (.fl (jS q))]=some ([],.one (.fl (wA (bW (a,q))))):=by kernel_rfl
def DM (p:Pt Fq) (q:Pt Q2) (a:Fq×Fq) (q':Q2×Q2):Tab:=(wW.add 51 (gE2 (cV p) (cD q) k0)).add 52 (gE2 (KO a) (jS q') (.one (.fl (wA (bW (a,q'))))))
theorem aVP (P:C1) {Q:C2} (h:kJ Q) (a:Fq×Fq) (q':Q2×Q2):TabOk prog (DM P.1 Q.1 a q'):=(oG.ad func51 (Hd fun w=>aB aF (fun _ _=>aVS P h) (aK _) func51 (PK P.1 Q.1) ⟨rfl,rfl,trivial⟩ ⟨rfl,rfl,trivial⟩)).add
 func52 (by kernel_rfl) (by kernel_rfl) (Hd fun w=>aB aF (fun _ _=>oG) (aK _) func52 (Cx a q') trivial ⟨rfl,rfl,trivial⟩)
def oLa (z:aM):List Prop×RV:=([z≠aC.zero],.one (.fl (aN (jW z))))
theorem aUn (z:aM):aXT 53 [.v (.fl (aN z))]=some ([uU (gC (lJ z))≠F1.zero],.one (.fl (aN (jW (gC (lJ z)))))):=by kernel_rfl
theorem wla (z:aM) (hz:z≠aC.zero) (args:List Value) (w:World) (ha:bQ w [.v (.fl (aN z))] args):Good prog 53 (.one (.fl (aN (jW z)))) args w:=by
 have h:=(aVR _ _ _ _ (aUn z) ⟨by rw[fH]; exact fun e=>hz (uF e),trivial⟩).2 args w ha;rw[fH]at h;exact h
def Na (l:List At):Bool:=match l with
 | [.f a,.f b,.f c,.f d,.f e,.f f,.f g,.f h,.f i,.f j,.f k,.f l]=>Nat.beq a.1 1&&(Nat.beq b.1 0&&(Nat.beq c.1 0&&(Nat.beq d.1 0&&(Nat.beq e.1 0&&(Nat.beq f.1 0&&(Nat.beq g.1 0&&(Nat.beq h.1 0&&(Nat.beq i.1 0&&(Nat.beq j.1 0&&(Nat.beq k.1 0&&Nat.beq l.1 0))))))))))
 | _=>false
theorem Gt {l:List At} (h:Na l=true):aA l=aA (aN aC.one):=by
 unfold Na at h;split at h
 ·simp only[Bool.and_eq_true]at h;obtain⟨h1,h2,h3,h4,h5,h6,h7,h8,h9,h10,h11,h12⟩:=h;show w4 _++(w4 _++(w4 _++(w4 _++(w4 _++(w4 _++(w4 _++(w4 _++(w4 _++(w4 _++(w4 _++(w4 _++[])))))))))))=w4 1++(w4 0++(w4 0++(w4 0++(w4 0++(w4 0++(w4 0++(w4 0++(w4 0++(w4 0++(w4 0++(w4 0++[])))))))))));rw[Nat.eq_of_beq_eq_true h1,Nat.eq_of_beq_eq_true h2,Nat.eq_of_beq_eq_true h3,Nat.eq_of_beq_eq_true h4,Nat.eq_of_beq_eq_true h5,Nat.eq_of_beq_eq_true h6,Nat.eq_of_beq_eq_true h7,Nat.eq_of_beq_eq_true h8,Nat.eq_of_beq_eq_true h9,Nat.eq_of_beq_eq_true h10,Nat.eq_of_beq_eq_true h11,Nat.eq_of_beq_eq_true h12]
 ·cases h
def aRh:jV
 | [.v (.fl l)]=>bif Na l then some ([],.one (.fl (aN aC.one)))else none
 | _=>none
theorem aUL (z:aM):wW 114 [.v (.fl (aN z))]=some ([],.one (.fl (aN (aC.mul z z)))):=by kernel_rfl
theorem aJr:∀cs pre r,aRh cs=some (pre,r)→aZ pre→∀(args:List Value) (w:World),bQ w cs args→Good prog 114 r args w:=by
 intro cs pre r hg hp args w ha;unfold aRh at hg;split at hg
 ·rename_i l;cases hb:Na l<;>rw[hb]at hg
  ·cases hg
  ·cases hg;rw[CQ ha,Gt hb];have h:=(oG _ _ _ _ (aUL aC.one) trivial).2 [.agg (aA (aN aC.one)).toArray] w ⟨rfl,trivial⟩;rw[aC.one_mul]at h;exact h
 ·cases hg
def aXS:Tab:=wW.add 114 aRh
theorem aVQ:TabOk prog aXS:=oG.ad func114 aJr
theorem aGI:aT prog (qG prog) (wq aXS) f54 300 [.v (.im (.slice none 0 0))]=some ([Mu=Mu],.one (.fl (aN aC.one))):=by kernel_rfl
def oO:Code:=(f20.body).getD .skip
def BU:Nat:=f20.ntmps
def pr3:Code:=cA (cB (cB (cB oO)))
def pr4:Code:=cB (cB (cB (cB oO)))
def By:Code:=qD (qD (cB pr3))
theorem aHV:oO=.seq (cA oO) (.seq (cA (cB oO)) (.seq (cA (cB (cB oO))) (.seq (.seq (cA pr3) (.block 0 (.loop By))) pr4))):=by kernel_rfl
def wF:List Wk→List Fact
 | []=>[.slot 6 (.im (.slice none 0 0))]
 | W::r=>[.slot 6 (.so 63 (r.length+1)),.row 63 true (rows (W::r)),.app 63 109 50 (r.length+1)]
def pA0 (n m m':Nat) (lp lq:List At):List Fact:=[.slot 0 (.sl 0 0 n m),.row 0 false lp,.slot 1 (.sl 1 0 n m'),.row 1 false lq,.slot 4 (.pt 4 0),.row 4 true (aN aC.zero)]
def pA1 (n m m':Nat) (lp lq:List At) (Ws:List Wk):List Fact:=[.slot 0 (.sl 0 0 n m),.row 0 false lp,.slot 1 (.sl 1 0 n m'),.row 1 false lq,.slot 4 (.pt 4 0),.row 4 true (aN aC.zero)]++wF Ws
def pJ (n m m':Nat) (lp lq:List At) (i:Nat) (Ws:List Wk):List Fact:=[.slot 0 (.sl 0 0 n m),.row 0 false lp,.slot 1 (.sl 1 0 n m'),.row 1 false lq,.slot 4 (.pt 4 0),.row 4 true (aN aC.zero),.slot 21 (.im (iI n)),.slot 22 (.im (iI i))]++wF Ws
def pA3 (Ws:List Wk):List Fact:=[.slot 4 (.pt 4 0),.row 4 true (aN aC.zero)]++wF Ws
def cP (T:Tab) (l:List (Nat×Value)):Nat→Cfg:=fun _=>⟨fun _=>T,fun _=>true,assoc l⟩
theorem aZn (n m m':Nat) (lp lq:List At):aX prog q0 BU (cP wW []) 40 (cA oO) (lS 0 [.s lp n m,.s lq n m']) (pA0 n m m' lp lq)=some ([],.nrm,pA0 n m m' lp lq):=by kernel_rfl
theorem aZm (n m m':Nat) (lp lq:List At):aX prog q0 BU (cP wW [(13,.bool false),(17,.bool false)]) 40 (cA (cB oO)) (pA0 n m m' lp lq) (pA0 n m m' lp lq)=some ([aI .neq .i64 (Int.ofNat n) (Int.ofNat n)=some (.bool false),aI .gtr .i64 (Int.ofNat n) 256=some (.bool false)],.nrm,pA0 n m m' lp lq):=by kernel_rfl
theorem aZl (n m m':Nat) (lp lq:List At):aX prog q0 BU (cP wW []) 40 (cA (cB (cB oO))) (pA0 n m m' lp lq) (pA1 n m m' lp lq [])=some ([],.nrm,pA1 n m m' lp lq []):=by kernel_rfl
theorem aZk (n m m':Nat) (lp lq:List At):aX prog q0 BU (cP wW []) 40 (cA pr3) (pA1 n m m' lp lq []) (pJ n m m' lp lq 0 [])=some ([],.nrm,pJ n m m' lp lq 0 []):=by kernel_rfl
def qR (i:Nat) (p:Pt Fq) (q:Pt Q2) (a:Fq×Fq) (q':Q2×Q2):EqT:=qPx prog (CP [(28,cV p),(32,cD q),(56,KO a),(60,jS q')]) (CP []) (assoc [(27,i),(31,i),(40,i),(47,i),(55,i),(59,i)]) (assoc [(42,.bool (vF p)),(49,.bool (vF q))]) Pm
def pV {α:Type} (g:α→List At):List α→List At
 | []=>[]
 | x::r=>g x++pV g r
theorem JN {α:Type} (g:α→List At):∀a b:List α,pV g (a++b)=pV g a++pV g b
 | [],b=>rfl
 | x::a,b=>by show g x++pV g (a++b)=(g x++pV g a)++pV g b; rw[JN g a b,List.append_assoc]
theorem TD {α:Type} {g:α→List At} {c:Nat} (h:∀x,cO (g x)=c):∀l:List α,cO (pV g l)=l.length*c
 | []=>by rw[List.length_nil,Nat.zero_mul]; rfl
 | x::r=>by
  show cO (g x++pV g r)=_;rw[wQ,h,TD h r,List.length_cons,Nat.succ_mul,Nat.add_comm]
theorem VU {α:Type} {g:α→List At} {c:Nat} (h:∀x,cO (g x)=c) {l:List α} {j:Nat} {x:α} (hj:l[j]?=some x):fP (pV g l) (0+j*c) c=some (g x):=by
 obtain⟨a,b,rfl,rfl,_⟩:=nT hj;rw[JN,Nat.zero_add,←TD h];show fP (pV g a++(g x++pV g b)) _ c=_;unfold fP;rw[show cO (pV g a)=cO (pV g a)+0 from rfl,EH,Oe];show tk (g x++pV g b) c=_;have:=PB (g x) (pV g b)
 rwa [h]at this
theorem Bi:∀(x y:List At) (m:Nat),cellAt (x++y) (cO x+m)=cellAt y m
 | [],y,m=>by show cellAt y (0+m)=_; rw[Nat.zero_add]
 | a::x,y,m=>by
  show (bif Nat.blt (a.sz+cO x+m) a.sz then a.cells[a.sz+cO x+m]? else cellAt (x++y) (a.sz+cO x+m-a.sz))=_;have e:Nat.blt (a.sz+cO x+m) a.sz=false:=by
   cases hb:Nat.blt (a.sz+cO x+m) a.sz
   ·rfl
   ·have:a.sz+cO x+m<a.sz:=by simpa using hb
    omega
  rw[e,show a.sz+cO x+m-a.sz=cO x+m by omega];exact Bi x y m
theorem OD {α:Type} {g:α→List At} {c o:Nat} {v:Value} (h:∀x,cO (g x)=c) {l:List α} {j:Nat} {x:α} (hj:l[j]?=some x) (hv:∀y,cellAt (g x++y) o=some v):cellAt (pV g l) (0+j*c+o)=some v:=by
 obtain⟨a,b,rfl,rfl,_⟩:=nT hj;rw[JN,Nat.zero_add,←TD h,Bi];exact hv (pV g b)
def kZ (l:List C1):List At:=pV (fun P=>cV P.1) l
def kY (l:List C2):List At:=pV (fun P=>cD P.1) l
def rdA (n i:Nat) (lp lq:List At) (p:Pt Fq) (q:Pt Q2):Prop:=i<n∧fP lp (0+i*9) 9=some (cV p)∧fP lq (0+i*17) 17=some (cD q)∧cellAt lp (0+i*9+8)=some (.bool (vF p))∧cellAt lq (0+i*17+16)=some (.bool (vF q))
theorem aOy {Ps:List C1} {Qs:List C2} {i n:Nat} (hi:i<n) {P:C1} {Q:C2} (hP:Ps[i]?=some P) (hQ:Qs[i]?=some Q):rdA n i (kZ Ps) (kY Qs) P.1 Q.1 :=
 ⟨hi,VU (g:=fun P:C1=>cV P.1) (c:=9) (fun _=>rfl) hP,VU (g:=fun P:C2=>cD P.1) (c:=17) (fun _=>rfl) hQ,OD (g:=fun P:C1=>cV P.1) (c:=9) (o:=8) (v:=.bool (vF P.1)) (fun _=>rfl) hP fun y=>rfl,OD (g:=fun P:C2=>cD P.1) (c:=17) (o:=16) (v:=.bool (vF Q.1)) (fun _=>rfl) hQ fun y=>rfl⟩
def zq:Fq×Fq:=(F1.zero,F1.zero)
def UN:Q2×Q2:=(F2.zero,F2.zero)
def lR (i:Nat):List (Nat×Value):=[(23,.bool true),(64,iI (i+1))]
theorem aVI (n m m' i:Nat) (lp lq:List At):aX prog (qR i none none zq UN) BU (cP (DM none none zq UN) (lR i)) 40 By (pJ n m m' lp lq i []) (pJ n m m' lp lq (i+1) [])=some ([aI .lss .i64 (Int.ofNat i) (Int.ofNat n)=some (.bool true),Int.ofNat i=Int.ofNat i,i<n,fP lp (0+i*9) 9=some (cV none),Int.ofNat i=Int.ofNat i,i<n,fP lq (0+i*17) 17=some (cD none),aA (cV none)=aA (cV none),aA (cD none)=aA (cD none),Int.ofNat i=Int.ofNat i,i<n,cellAt lp (0+i*9+8)=some (.bool (vF (none:Pt Fq))),aI .add .i64 (Int.ofNat i) 1=some (iI (i+1))],.nrm,pJ n m m' lp lq (i+1) []):=by kernel_rfl
theorem aVG (n m m' i:Nat) (lp lq:List At) (q:Q2×Q2):aX prog (qR i none (some q) zq UN) BU (cP (DM none (some q) zq UN) (lR i)) 40 By (pJ n m m' lp lq i []) (pJ n m m' lp lq (i+1) [])=some ([aI .lss .i64 (Int.ofNat i) (Int.ofNat n)=some (.bool true),Int.ofNat i=Int.ofNat i,i<n,fP lp (0+i*9) 9=some (cV none),Int.ofNat i=Int.ofNat i,i<n,fP lq (0+i*17) 17=some (cD (some q)),aA (cV none)=aA (cV none),aA (cD (some q))=aA (cD (some q)),Int.ofNat i=Int.ofNat i,i<n,cellAt lp (0+i*9+8)=some (.bool (vF (none:Pt Fq))),aI .add .i64 (Int.ofNat i) 1=some (iI (i+1))],.nrm,pJ n m m' lp lq (i+1) []):=by kernel_rfl
theorem aZx (n m m' i:Nat) (lp lq:List At) (a:Fq×Fq):aX prog (qR i (some a) none zq UN) BU (cP (DM (some a) none zq UN) (lR i)) 40 By (pJ n m m' lp lq i []) (pJ n m m' lp lq (i+1) [])=some ([aI .lss .i64 (Int.ofNat i) (Int.ofNat n)=some (.bool true),Int.ofNat i=Int.ofNat i,i<n,fP lp (0+i*9) 9=some (cV (some a)),Int.ofNat i=Int.ofNat i,i<n,fP lq (0+i*17) 17=some (cD none),aA (cV (some a))=aA (cV (some a)),aA (cD none)=aA (cD none),Int.ofNat i=Int.ofNat i,i<n,cellAt lp (0+i*9+8)=some (.bool (vF (some a))),Int.ofNat i=Int.ofNat i,i<n,cellAt lq (0+i*17+16)=some (.bool (vF (none:Pt Q2))),aI .add .i64 (Int.ofNat i) 1=some (iI (i+1))],.nrm,pJ n m m' lp lq (i+1) []):=by kernel_rfl
theorem aVH (n m m' i:Nat) (lp lq:List At) (W:Wk) (r:List Wk):aX prog (qR i none none zq UN) BU (cP (DM none none zq UN) (lR i)) 40 By (pJ n m m' lp lq i (W::r)) (pJ n m m' lp lq (i+1) (W::r))=some ([aI .lss .i64 (Int.ofNat i) (Int.ofNat n)=some (.bool true),Int.ofNat i=Int.ofNat i,i<n,fP lp (0+i*9) 9=some (cV none),Int.ofNat i=Int.ofNat i,i<n,fP lq (0+i*17) 17=some (cD none),aA (cV none)=aA (cV none),aA (cD none)=aA (cD none),Int.ofNat i=Int.ofNat i,i<n,cellAt lp (0+i*9+8)=some (.bool (vF (none:Pt Fq))),aI .add .i64 (Int.ofNat i) 1=some (iI (i+1))],.nrm,pJ n m m' lp lq (i+1) (W::r)):=by kernel_rfl
theorem aVF (n m m' i:Nat) (lp lq:List At) (q:Q2×Q2) (W:Wk) (r:List Wk):aX prog (qR i none (some q) zq UN) BU (cP (DM none (some q) zq UN) (lR i)) 40 By (pJ n m m' lp lq i (W::r)) (pJ n m m' lp lq (i+1) (W::r))=some ([aI .lss .i64 (Int.ofNat i) (Int.ofNat n)=some (.bool true),Int.ofNat i=Int.ofNat i,i<n,fP lp (0+i*9) 9=some (cV none),Int.ofNat i=Int.ofNat i,i<n,fP lq (0+i*17) 17=some (cD (some q)),aA (cV none)=aA (cV none),aA (cD (some q))=aA (cD (some q)),Int.ofNat i=Int.ofNat i,i<n,cellAt lp (0+i*9+8)=some (.bool (vF (none:Pt Fq))),aI .add .i64 (Int.ofNat i) 1=some (iI (i+1))],.nrm,pJ n m m' lp lq (i+1) (W::r)):=by kernel_rfl
theorem aZw (n m m' i:Nat) (lp lq:List At) (a:Fq×Fq) (W:Wk) (r:List Wk):aX prog (qR i (some a) none zq UN) BU (cP (DM (some a) none zq UN) (lR i)) 40 By (pJ n m m' lp lq i (W::r)) (pJ n m m' lp lq (i+1) (W::r))=some ([aI .lss .i64 (Int.ofNat i) (Int.ofNat n)=some (.bool true),Int.ofNat i=Int.ofNat i,i<n,fP lp (0+i*9) 9=some (cV (some a)),Int.ofNat i=Int.ofNat i,i<n,fP lq (0+i*17) 17=some (cD none),aA (cV (some a))=aA (cV (some a)),aA (cD none)=aA (cD none),Int.ofNat i=Int.ofNat i,i<n,cellAt lp (0+i*9+8)=some (.bool (vF (some a))),Int.ofNat i=Int.ofNat i,i<n,cellAt lq (0+i*17+16)=some (.bool (vF (none:Pt Q2))),aI .add .i64 (Int.ofNat i) 1=some (iI (i+1))],.nrm,pJ n m m' lp lq (i+1) (W::r)):=by kernel_rfl
theorem aZv (n m m' i:Nat) (lp lq:List At) (a:Fq×Fq) (q:Q2×Q2):aX prog (qR i (some a) (some q) a q) BU (cP (DM (some a) (some q) a q) (lR i)) 40 By (pJ n m m' lp lq i []) (pJ n m m' lp lq (i+1) [bW (a,q)])=some ([aI .lss .i64 (Int.ofNat i) (Int.ofNat n)=some (.bool true),Int.ofNat i=Int.ofNat i,i<n,fP lp (0+i*9) 9=some (cV (some a)),Int.ofNat i=Int.ofNat i,i<n,fP lq (0+i*17) 17=some (cD (some q)),aA (cV (some a))=aA (cV (some a)),aA (cD (some q))=aA (cD (some q)),Int.ofNat i=Int.ofNat i,i<n,cellAt lp (0+i*9+8)=some (.bool (vF (some a))),Int.ofNat i=Int.ofNat i,i<n,cellAt lq (0+i*17+16)=some (.bool (vF (some q))),Int.ofNat i=Int.ofNat i,i<n,fP lp (0+i*9) 9=some (KO a),Int.ofNat i=Int.ofNat i,i<n,fP lq (0+i*17) 17=some (jS q),aA (KO a)=aA (KO a),aA (jS q)=aA (jS q),aI .add .i64 (Int.ofNat i) 1=some (iI (i+1))],.nrm,pJ n m m' lp lq (i+1) [bW (a,q)]):=by kernel_rfl
theorem aZu (n m m' i:Nat) (lp lq:List At) (a:Fq×Fq) (q:Q2×Q2) (W0:Wk):aX prog (qR i (some a) (some q) a q) BU (cP (DM (some a) (some q) a q) (lR i)) 40 By (pJ n m m' lp lq i [W0]) (pJ n m m' lp lq (i+1) [W0,bW (a,q)])=some ([aI .lss .i64 (Int.ofNat i) (Int.ofNat n)=some (.bool true),Int.ofNat i=Int.ofNat i,i<n,fP lp (0+i*9) 9=some (cV (some a)),Int.ofNat i=Int.ofNat i,i<n,fP lq (0+i*17) 17=some (cD (some q)),aA (cV (some a))=aA (cV (some a)),aA (cD (some q))=aA (cD (some q)),Int.ofNat i=Int.ofNat i,i<n,cellAt lp (0+i*9+8)=some (.bool (vF (some a))),Int.ofNat i=Int.ofNat i,i<n,cellAt lq (0+i*17+16)=some (.bool (vF (some q))),Int.ofNat i=Int.ofNat i,i<n,fP lp (0+i*9) 9=some (KO a),Int.ofNat i=Int.ofNat i,i<n,fP lq (0+i*17) 17=some (jS q),aA (KO a)=aA (KO a),aA (jS q)=aA (jS q),aI .add .i64 (Int.ofNat i) 1=some (iI (i+1))],.nrm,pJ n m m' lp lq (i+1) [W0,bW (a,q)]):=by kernel_rfl
theorem aZt (n m m' i:Nat) (lp lq:List At) (a:Fq×Fq) (q:Q2×Q2) (W0 W1:Wk):aX prog (qR i (some a) (some q) a q) BU (cP (DM (some a) (some q) a q) (lR i)) 40 By (pJ n m m' lp lq i [W0,W1]) (pJ n m m' lp lq (i+1) [W0,W1,bW (a,q)])=some ([aI .lss .i64 (Int.ofNat i) (Int.ofNat n)=some (.bool true),Int.ofNat i=Int.ofNat i,i<n,fP lp (0+i*9) 9=some (cV (some a)),Int.ofNat i=Int.ofNat i,i<n,fP lq (0+i*17) 17=some (cD (some q)),aA (cV (some a))=aA (cV (some a)),aA (cD (some q))=aA (cD (some q)),Int.ofNat i=Int.ofNat i,i<n,cellAt lp (0+i*9+8)=some (.bool (vF (some a))),Int.ofNat i=Int.ofNat i,i<n,cellAt lq (0+i*17+16)=some (.bool (vF (some q))),Int.ofNat i=Int.ofNat i,i<n,fP lp (0+i*9) 9=some (KO a),Int.ofNat i=Int.ofNat i,i<n,fP lq (0+i*17) 17=some (jS q),aA (KO a)=aA (KO a),aA (jS q)=aA (jS q),aI .add .i64 (Int.ofNat i) 1=some (iI (i+1))],.nrm,pJ n m m' lp lq (i+1) [W0,W1,bW (a,q)]):=by kernel_rfl
theorem aZs (n m m' i:Nat) (lp lq:List At) (a:Fq×Fq) (q:Q2×Q2) (W0 W1 W2:Wk):aX prog (qR i (some a) (some q) a q) BU (cP (DM (some a) (some q) a q) (lR i)) 40 By (pJ n m m' lp lq i [W0,W1,W2]) (pJ n m m' lp lq (i+1) [W0,W1,W2,bW (a,q)])=some ([aI .lss .i64 (Int.ofNat i) (Int.ofNat n)=some (.bool true),Int.ofNat i=Int.ofNat i,i<n,fP lp (0+i*9) 9=some (cV (some a)),Int.ofNat i=Int.ofNat i,i<n,fP lq (0+i*17) 17=some (cD (some q)),aA (cV (some a))=aA (cV (some a)),aA (cD (some q))=aA (cD (some q)),Int.ofNat i=Int.ofNat i,i<n,cellAt lp (0+i*9+8)=some (.bool (vF (some a))),Int.ofNat i=Int.ofNat i,i<n,cellAt lq (0+i*17+16)=some (.bool (vF (some q))),Int.ofNat i=Int.ofNat i,i<n,fP lp (0+i*9) 9=some (KO a),Int.ofNat i=Int.ofNat i,i<n,fP lq (0+i*17) 17=some (jS q),aA (KO a)=aA (KO a),aA (jS q)=aA (jS q),aI .add .i64 (Int.ofNat i) 1=some (iI (i+1))],.nrm,pJ n m m' lp lq (i+1) [W0,W1,W2,bW (a,q)]):=by kernel_rfl
theorem aZr (n m m' i:Nat) (lp lq:List At) (a:Fq×Fq) (q:Q2×Q2) (W0 W1 W2 W3:Wk):aX prog (qR i (some a) (some q) a q) BU (cP (DM (some a) (some q) a q) (lR i)) 40 By (pJ n m m' lp lq i [W0,W1,W2,W3]) (pJ n m m' lp lq (i+1) [W0,W1,W2,W3,bW (a,q)])=some ([aI .lss .i64 (Int.ofNat i) (Int.ofNat n)=some (.bool true),Int.ofNat i=Int.ofNat i,i<n,fP lp (0+i*9) 9=some (cV (some a)),Int.ofNat i=Int.ofNat i,i<n,fP lq (0+i*17) 17=some (cD (some q)),aA (cV (some a))=aA (cV (some a)),aA (cD (some q))=aA (cD (some q)),Int.ofNat i=Int.ofNat i,i<n,cellAt lp (0+i*9+8)=some (.bool (vF (some a))),Int.ofNat i=Int.ofNat i,i<n,cellAt lq (0+i*17+16)=some (.bool (vF (some q))),Int.ofNat i=Int.ofNat i,i<n,fP lp (0+i*9) 9=some (KO a),Int.ofNat i=Int.ofNat i,i<n,fP lq (0+i*17) 17=some (jS q),aA (KO a)=aA (KO a),aA (jS q)=aA (jS q),aI .add .i64 (Int.ofNat i) 1=some (iI (i+1))],.nrm,pJ n m m' lp lq (i+1) [W0,W1,W2,W3,bW (a,q)]):=by kernel_rfl
theorem p_x (n m m' i:Nat) (lp lq:List At):aX prog q0 BU (cP wW [(23,.bool false)]) 40 By (pJ n m m' lp lq i []) (pA3 [])=some ([aI .lss .i64 (Int.ofNat i) (Int.ofNat n)=some (.bool false)],.ex 0,pA3 []):=by kernel_rfl
theorem p_y (n m m' i:Nat) (lp lq:List At) (W:Wk) (r:List Wk):aX prog q0 BU (cP wW [(23,.bool false)]) 40 By (pJ n m m' lp lq i (W::r)) (pA3 (W::r))=some ([aI .lss .i64 (Int.ofNat i) (Int.ofNat n)=some (.bool false)],.ex 0,pA3 (W::r)):=by kernel_rfl
abbrev Pq:=(Fq×Fq)×(Q2×Q2)
def DJ:Pt Fq→Pt Q2→List Pq
 | some a,some q=>[(a,q)]
 | _,_=>[]
def iW:List (C1×C2)→List Pq
 | []=>[]
 | x::r=>DJ x.1.1 x.2.1++iW r
theorem Ap:∀a b:List (C1×C2),iW (a++b)=iW a++iW b
 | [],b=>rfl
 | x::a,b=>by show DJ _ _++iW (a++b)=(DJ _ _++iW a)++iW b; rw[Ap a b,List.append_assoc]
theorem IZ:∀l:List (C1×C2),(iW l).length≤l.length
 | []=>Nat.le_refl _
 | x::r=>by
  show (DJ x.1.1 x.2.1++iW r).length≤r.length+1;rw[List.length_append];have h:=IZ r;have h2:(DJ x.1.1 x.2.1).length≤1:=by unfold DJ; split<;>simp
  omega
theorem Vd {L:List (C1×C2)} {i:Nat} {x:C1×C2} (h:L[i]?=some x):iW (L.take (i+1))=iW (L.take i)++DJ x.1.1 x.2.1:=by
 obtain⟨a,b,_,_,h1,_,h2,_⟩:=nT h;rw[h1,h2,Ap];show iW a++(DJ x.1.1 x.2.1++[])=_;rw[List.append_nil]
theorem Nq:∀(l:List (C1×C2)),∀x∈iW l,On F2 dK (some x.2)
 | [],x,h=>by cases h
 | y::r,x,h=>by
  rcases List.mem_append.1 h with h|h
  ·obtain⟨⟨p,hp⟩,⟨q,hq⟩⟩:=y;cases p with
   | none=>cases h
   | some a =>
    cases q with
    | none=>cases h
    | some q=>cases List.mem_singleton.1 h; exact hq
  ·exact Nq r x h
section
variable {n m m' i base:Nat} {lp lq:List At} {w0 w:World} {a:Act} {Q0:Exit→Act→World→Prop}
theorem jY {T:Tab} (h:TabOk prog T) (l:List (Nat×Value)):∀n d,TabOkW prog ((cP T l n).T d) base w0:=fun _ _=>h.w _ _
theorem aAl (x:C1×C2) (hG:kJ x.2) (hr:rdA n i lp lq x.1.1 x.2.1) (hn:n≤5) {l:List Pq} (hl:l.length≤i) (h:Holds BU base w0 (pJ n m m' lp lq i (l.map bW)) a w)
  {R:Act→World→Prop} (hR:∀a w,Holds BU base w0 (pJ n m m' lp lq (i+1) ((l++DJ x.1.1 x.2.1).map bW)) a w→R a w):By.wp prog (Exit.then R Q0) a w:=by
 obtain⟨hi,s1,s2,c1,c2⟩:=hr;obtain⟨⟨p,hp⟩,⟨q,hq⟩⟩:=x;have hk:=fun y z=>aVP ⟨p,hp⟩ (Q:=⟨q,hq⟩) hG y z
 have ha:aI .add .i64 (Int.ofNat i) 1=some (iI (i+1)):=lI (k:=1) (by omega);dsimp only at s1 s2 c1 c2 hk hR;cases p with
 | none =>
  have e:l++DJ none q=l:=List.append_nil l;rw[e]at hR;cases q with
  | none =>
   cases hW:l.map bW with
   | nil=>rw[hW]at h hR; exact aD aF (jY (hk zq UN) _) (jB (eH _) _ _) (aVI n m m' i lp lq) ⟨bY hi,rfl,hi,s1,rfl,hi,s2,rfl,rfl,rfl,hi,c1,ha,trivial⟩ h fun a w hA=>hR a w hA
   | cons W r=>rw[hW]at h hR; exact aD aF (jY (hk zq UN) _) (jB (eH _) _ _) (aVH n m m' i lp lq W r) ⟨bY hi,rfl,hi,s1,rfl,hi,s2,rfl,rfl,rfl,hi,c1,ha,trivial⟩ h fun a w hA=>hR a w hA
  | some q =>
   cases hW:l.map bW with
   | nil=>rw[hW]at h hR; exact aD aF (jY (hk zq UN) _) (jB (eH _) _ _) (aVG n m m' i lp lq q) ⟨bY hi,rfl,hi,s1,rfl,hi,s2,rfl,rfl,rfl,hi,c1,ha,trivial⟩ h fun a w hA=>hR a w hA
   | cons W r=>rw[hW]at h hR; exact aD aF (jY (hk zq UN) _) (jB (eH _) _ _) (aVF n m m' i lp lq q W r) ⟨bY hi,rfl,hi,s1,rfl,hi,s2,rfl,rfl,rfl,hi,c1,ha,trivial⟩ h fun a w hA=>hR a w hA
 | some pa =>
  cases q with
  | none =>
   have e:l++DJ (some pa) none=l:=List.append_nil l;rw[e]at hR;cases hW:l.map bW with
   | nil=>rw[hW]at h hR; exact aD aF (jY (hk zq UN) _) (jB (eH _) _ _) (aZx n m m' i lp lq pa) ⟨bY hi,rfl,hi,s1,rfl,hi,s2,rfl,rfl,rfl,hi,c1,rfl,hi,c2,ha,trivial⟩ h fun a w hA=>hR a w hA
   | cons W r=>rw[hW]at h hR; exact aD aF (jY (hk zq UN) _) (jB (eH _) _ _) (aZw n m m' i lp lq pa W r) ⟨bY hi,rfl,hi,s1,rfl,hi,s2,rfl,rfl,rfl,hi,c1,rfl,hi,c2,ha,trivial⟩ h fun a w hA=>hR a w hA
  | some qq =>
   have e:(l++DJ (some pa) (some qq)).map bW=l.map bW++[bW (pa,qq)]:=List.map_append;rw[e]at hR;have hlW:(l.map bW).length≤4:=by rw[List.length_map]; omega
   match hW:l.map bW,hlW with
   | [],_=>rw[hW]at h hR; exact aD aF (jY (hk pa qq) _) (jB (eH _) _ _) (aZv n m m' i lp lq pa qq) ⟨bY hi,rfl,hi,s1,rfl,hi,s2,rfl,rfl,rfl,hi,c1,rfl,hi,c2,rfl,hi,s1,rfl,hi,s2,rfl,rfl,ha,trivial⟩ h fun a w hA=>hR a w hA
   | [W0],_=>rw[hW]at h hR; exact aD aF (jY (hk pa qq) _) (jB (eH _) _ _) (aZu n m m' i lp lq pa qq W0) ⟨bY hi,rfl,hi,s1,rfl,hi,s2,rfl,rfl,rfl,hi,c1,rfl,hi,c2,rfl,hi,s1,rfl,hi,s2,rfl,rfl,ha,trivial⟩ h fun a w hA=>hR a w hA
   | [W0,W1],_=>rw[hW]at h hR; exact aD aF (jY (hk pa qq) _) (jB (eH _) _ _) (aZt n m m' i lp lq pa qq W0 W1) ⟨bY hi,rfl,hi,s1,rfl,hi,s2,rfl,rfl,rfl,hi,c1,rfl,hi,c2,rfl,hi,s1,rfl,hi,s2,rfl,rfl,ha,trivial⟩ h fun a w hA=>hR a w hA
   | [W0,W1,W2],_=>rw[hW]at h hR; exact aD aF (jY (hk pa qq) _) (jB (eH _) _ _) (aZs n m m' i lp lq pa qq W0 W1 W2) ⟨bY hi,rfl,hi,s1,rfl,hi,s2,rfl,rfl,rfl,hi,c1,rfl,hi,c2,rfl,hi,s1,rfl,hi,s2,rfl,rfl,ha,trivial⟩ h fun a w hA=>hR a w hA
   | [W0,W1,W2,W3],_=>rw[hW]at h hR; exact aD aF (jY (hk pa qq) _) (jB (eH _) _ _) (aZr n m m' i lp lq pa qq W0 W1 W2 W3) ⟨bY hi,rfl,hi,s1,rfl,hi,s2,rfl,rfl,rfl,hi,c1,rfl,hi,c2,rfl,hi,s1,rfl,hi,s2,rfl,rfl,ha,trivial⟩ h fun a w hA=>hR a w hA
   | _::_::_::_::_::_,h5=>exact absurd h5 (by simp)
theorem Tm {L:List (C1×C2)} (hn:L.length=n) (h5:n≤5) (hG:∀x∈L,kJ x.2) (hlp:lp=kZ (L.map Prod.fst)) (hlq:lq=kY (L.map Prod.snd)) (h:Holds BU base w0 (pJ n m m' lp lq 0 []) a w)
  (hQ:∀a w,Holds BU base w0 (pA3 ((iW L).map bW)) a w→Q0 .normal a w):(Code.block 0 (.loop By)).wp prog Q0 a w:=by
 refine wp_block ?_;refine pP (fun i a w=>Holds BU base w0 (pJ n m m' lp lq i ((iW (L.take i)).map bW)) a w) n (fun i hi a w hA R hR => ?_) (fun a w hA R => ?_) (by rw[List.take_zero]; exact h)
 ·obtain⟨x,hx⟩:∃x,L[i]?=some x:=⟨_,List.getElem?_eq_getElem (by omega)⟩
  have hlen:(iW (L.take i)).length≤i:=Nat.le_trans (IZ _) (by rw[List.length_take]; omega);refine aAl x (hG x (List.mem_of_getElem? hx)) ?_ h5 hlen hA fun a w hA => ?_
  ·rw[hlp,hlq];exact aOy hi (by rw[List.getElem?_map,hx]; rfl) (by rw[List.getElem?_map,hx]; rfl)
  ·rw[←Vd hx]at hA;exact hR a w hA
 ·have e:L.take n=L:=by rw[←hn,List.take_length]
  rw[e]at hA;cases hW:(iW L).map bW with
  | nil =>
   rw[hW]at hA hQ;exact aD aF (jY oG _) (gR _ _) (p_x n m m' n lp lq) ⟨eO (Nat.le_refl _),trivial⟩ hA fun a w hA=>hQ a w hA
  | cons W r =>
   rw[hW]at hA hQ;exact aD aF (jY oG _) (gR _ _) (p_y n m m' n lp lq W r) ⟨eO (Nat.le_refl _),trivial⟩ hA fun a w hA=>hQ a w hA
end
def aRi:jV
 | [.v (.im v)]=>some ([v=.slice none 0 0],.one (.fl (aN aC.one)))
 | _=>none
theorem aJs:∀cs pre r,aRi cs=some (pre,r)→aZ pre→∀(args:List Value) (w:World),bQ w cs args→Good prog 54 r args w:=by
 intro cs pre r hg hp args w ha;unfold aRi at hg;split at hg
 ·cases hg;obtain⟨rfl,_⟩:=hp;exact aB aF (fun _ _=>aVQ) (aK _) func54 aGI ⟨rfl,trivial⟩ ha
 ·cases hg
def Ir:Tab:=(wW.add 54 aRi).add 53 (g1 qQ oLa)
theorem Ls:TabOk prog Ir:=(oG.ad func54 aJs).ad func53 (bM (op:=oLa) eF fun z hp args w ha=>wla z hp.1 args w ha)
def pZ (z:aM):List Fact:=[.slot 4 (.pt 4 0),.row 4 true (aN (jW z)),.slot 5 (.im (.int .i64 0))]
theorem aZq:aX prog q0 BU (cP Ir []) 40 pr4 (pA3 []) (pZ aC.one)=some ([Value.slice none 0 0=.slice none 0 0,aC.one≠aC.zero],.rt,pZ aC.one):=by kernel_rfl
def pB1 (W:Wk) (r:List Wk):List Fact:=[.slot 4 (.pt 4 0),.row 4 true (aN aC.zero),.slot 65 (.so 63 (r.length+1)),.row 63 true (rows (W::r))]
def pB2 (z:aM):List Fact:=[.slot 4 (.pt 4 0),.row 4 true (aN aC.zero),.slot 66 (.fl (aN z))]
theorem aZp (W:Wk) (r:List Wk):sC prog q0 BU (cP Ir [] 0) ((cN (cA pr4)).extract 0 1) (pA3 (W::r)) (pB1 W r)=some ([],pB1 W r):=by kernel_rfl
theorem aZo (z:aM):sC prog q0 BU (cP Ir [] 0) ((cN (cA pr4)).extract 2 5) (pB2 z) (pZ z)=some ([z≠aC.zero],pZ z):=by kernel_rfl
theorem aAR:pr4=.seq (cA pr4) .ret:=by kernel_rfl
theorem aAS {base:Nat} {β:Nat→Bk} {a:Act} {w w':World} {d k b:Nat} {M:List Fact} {l0 l':List At} (v:TV) (h:d<a.tmps.size) (hkd:k≠d) (hrow:Fact.row k true l0∈M) (hat:Fact.at k b∈M) (hM:∀φ∈M,φ.ok base β a w)
  (hwr:WrC w w' b) (hrg:w'.rangeAt b 0 (aA l')):PostB base β β a w (some d) M [.slot d v.av,.row k true l'] (some k) (a.put (some d) v.den) w':=by
 obtain⟨r1,r2,r3,r4⟩:=hM _ hrow;obtain⟨r5,r6,r7⟩:=r3 rfl;obtain⟨e1,e2⟩:=hM _ hat;refine⟨nI _ _ _,fN _ _ _,fun s hs=>nH _ _ _ _ hs,fun _ _=>rfl,hwr.below.size,fun p hp hne=>hwr.mem p hp (by rw[←e1]; exact hne k rfl),hwr.shape,fun w0 h0=>h0.trans (hwr.below.mono (by omega)),fun φ hφ => ?_,fun k' l1 hk => ?_,fun k1 k2 l1 l2 hk hk' => ?_,fun k' hk => ?_⟩
 ·simp only[List.mem_cons,List.not_mem_nil,or_false]at hφ
  rcases hφ with rfl|rfl
  ·show (a.put (some d) _).tmps[d]?=_;rw[jC _ _ _ h,TV.av_den]
  ·exact⟨Nat.lt_of_lt_of_le r1 hwr.below.size,by rw[e1,e2]; exact hrg,fun _=>⟨r5,r6,fun q=>by rw[e1]; exact hwr.free q⟩,fun h=>by cases h⟩
 ·simp only[List.mem_cons,List.not_mem_nil,or_false]at hk
  rcases hk with hk|hk
  ·cases v<;>cases hk
  ·cases hk;exact Or.inr (Or.inl ⟨fun e=>hkd (by injection e with e; exact e.symm),l0,hrow⟩)
 ·simp only[List.mem_cons,List.not_mem_nil,or_false]at hk hk'
  rcases hk with hk|hk
  ·cases v<;>cases hk
  ·rcases hk' with hk'|hk'
   ·cases v<;>cases hk'
   ·cases hk; cases hk'; rfl
 ·cases hk;exact⟨l0,hrow⟩
theorem Holds.soAt {nt base:Nat} {w0:World} {A:List Fact} {a:Act} {w:World} (h:Holds nt base w0 A a w) {s k n b:Nat} {l:List At} (h1:Fact.slot s (.so k n)∈A) (h2:Fact.at k b∈A) (h3:Fact.row k true l∈A):∃cap,a.tmps[s]?=some (kB b 0 n cap)∧Own w b l:=by
 obtain⟨β,g1,_⟩:=h.facts;have e1:=g1 _ h1;have e2:=g1 _ h2;obtain⟨e3,e4,e5,_⟩:=g1 _ h3;obtain⟨_,_,e6⟩:=e5 rfl;simp only[Fact.ok]at e1 e2;refine⟨(β k).2.2,by rw[e1]; simp[AV.den,e2,kB],by rw[←e2.1]; exact e3,?_,fun j=>by rw[←e2.1]; exact e6 j⟩;rw[e2.1,e2.2]at e4;exact e4
theorem Fg {R:Type} (K:CR R) (x:R) (l:List R):dS K (x::l)=K.mul x (dS K l):=rfl
theorem Ty (M:Pq→aM) (x:Pq) (l:List Pq):dS aC ((x::l).map M)=aC.mul (M x) (dS aC (l.map M)):=by rw[List.map_cons,Fg]
theorem aEW (M:Pq→aM) (hM:∀(a:Fq×Fq) (q:Q2×Q2) (hp:On F1 (fm 3) (some a)) (hq:On F2 dK (some q)),kJ ⟨some q,hq⟩→M (a,q)≠aC.zero∧lv (M (a,q))=rM ⟨some a,hp⟩ ⟨some q,hq⟩) :
  ∀L:List (C1×C2),(∀x∈L,kJ x.2)→dS aC ((iW L).map M)≠aC.zero∧lv (dS aC ((iW L).map M))=L.foldr (fun x s=>vg.add (rM x.1 x.2) s) vg.zero
 | [],_=>⟨jJ.1,AM ⟨jJ.1,yJ⟩⟩
 | x::r,hG=>by
  obtain⟨h1,h2⟩:=aEW M hM r fun y hy=>hG y (List.mem_cons_of_mem _ hy)
  have hx:=hG x List.mem_cons_self;obtain⟨⟨p,hp⟩,⟨q,hq⟩⟩:=x;rw[List.foldr_cons,←h2];cases p with
  | none =>
   have e:rM ⟨none,hp⟩ ⟨q,hq⟩=vg.zero:=aES hx;have ef:iW ((⟨none,hp⟩,⟨q,hq⟩)::r)=iW r:=by cases q<;>rfl
   rw[ef];dsimp only;rw[e,vg.zadd];exact⟨h1,rfl⟩
  | some a =>
   cases q with
   | none =>
    have e:rM ⟨some a,hp⟩ ⟨none,hq⟩=vg.zero:=aER _;have ef:iW ((⟨some a,hp⟩,⟨none,hq⟩)::r)=iW r:=rfl;rw[ef];dsimp only;rw[e,vg.zadd];exact⟨h1,rfl⟩
   | some q =>
    obtain⟨m1,m2⟩:=hM a q hp hq hx;have ef:iW ((⟨some a,hp⟩,⟨some q,hq⟩)::r)=(a,q)::iW r:=rfl;rw[ef,Ty];dsimp only;rw[←m2,RD m1 h1];exact⟨nY m1 h1,rfl⟩
theorem aIQ (L:List (C1×C2)) (hG:∀x∈L,kJ x.2):dS aC ((iW L).map fun x=>mil x.1 x.2)≠aC.zero∧lv (dS aC ((iW L).map fun x=>mil x.1 x.2))=L.foldr (fun x s=>vg.add (rM x.1 x.2) s) vg.zero :=
 aEW (fun x=>mil x.1 x.2) (fun a q hp hq h=>Mp (P:=⟨some a,hp⟩) (a:=a) rfl (Q:=⟨some q,hq⟩) (q:=q) rfl h) L hG
def lQ (L:List (C1×C2)):Vq:=L.foldr (fun x s=>vg.add (rM x.1 x.2) s) vg.zero
theorem ZZ (L:List (C1×C2)) (hG:∀x∈L,kJ x.2):yK (iW L)≠aC.zero∧jW (yK (iW L))=(lQ L).1:=by
 obtain⟨h1,h2⟩:=aIQ L hG;rw[Aa];refine⟨h1,?_⟩;rw[←cW h1,h2];rfl
theorem YI {w w':World} {a:Act} {z:aM} (hA:Holds BU w.heap.size w (pZ z) a w'):bodyPost prog f20 (fun e w'=>e=.returned (RV.many [.fl (aN (jW z)),.im (.int .i64 0)]).den∧Below w.heap.size w w') .ret a w' :=
 eV (l:=[.fl (aN (jW z)),.im (.int .i64 0)]) (by kernel_rfl) (by kernel_rfl) hA
theorem Ve (l:List Pq) (h:l=[]):yK l=aC.one:=by
 rw[h,Aa];rfl
theorem kP (L:List (C1×C2)) (h5:L.length≤5) (hG:∀x∈L,kJ x.2) {m m':Nat} {args:List Value} {w:World} (ha:bQ w [.s (kZ (L.map Prod.fst)) L.length m,.s (kY (L.map Prod.snd)) L.length m'] args) :
  Good prog 20 (.many [.fl (aN (lQ L).1),.im (.int .i64 0)]) args w:=by
 obtain⟨hz,hv⟩:=ZZ L hG;rw[←hv];refine dU func20 (c:=oO) rfl ha (Nat.le_of_ble_eq_true (by kernel_rfl)) fun a w1 hA => ?_
 rw[aHV];refine wp_seq (aD aF (jY oG _) (gR _ _) (aZn L.length m m' _ _) trivial hA fun a w2 hA => ?_);refine wp_seq (aD aF (jY oG _) (gR _ _) (aZm L.length m m' _ _) ⟨by rw[aBN,decide_eq_false (fun h=>h rfl)],by rw[show (256:Int)=Int.ofNat 256 from rfl,CB,decide_eq_false (by omega)],trivial⟩ hA fun a w3 hA => ?_);refine wp_seq (aD aF (jY oG _) (gR _ _) (aZl L.length m m' _ _) trivial hA fun a w4 hA => ?_);refine wp_seq (wp_seq (aD aF (jY oG _) (gR _ _) (aZk L.length m m' _ _) trivial hA fun a w5 hA => ?_));refine Tm rfl h5 hG rfl rfl hA fun a w6 hA => ?_
 clear hv;cases hf:iW L with
 | nil =>
  rw[hf]at hA hz;rw[Ve [] rfl]at hz ⊢;exact aD aF (jY Ls _) (gR _ _) aZq ⟨rfl,hz,trivial⟩ hA fun a w7 hA=>YI hA
 | cons x r =>
  have hon:∀y∈(x::r:List Pq),On F2 dK (some y.2):=fun y hy=>Nq L y (by rw[hf]; exact hy)
  have hlen:(x::r:List Pq).length<4611686018427387904:=by
   have:=IZ L;rw[hf]at this;omega
  rw[hf]at hA hz;show pr4.wp _ _ _ _;rw[aAR];refine wp_seq (tT (l:=List.range' 0 ((cN (cA pr4)).extract 0 1).size++(1::(List.range' 2 ((cN (cA pr4)).extract 2 5).size++[]))) (by kernel_rfl) ?_);refine cH (c:=cP Ir [] 0) (fun d=>Ls.w _ _) (gR _ _) (aZp (bW x) (r.map bW)) trivial (by kernel_rfl) hA fun a w7 hA => ?_
  obtain⟨b,hA⟩:=hA.at (k:=63) (l:=rows (bW x::r.map bW)) (by simp[pB1]);obtain⟨cap,h65,hO⟩:=hA.soAt (s:=65) (k:=63) (n:=(r.map bW).length+1) (b:=b) (l:=rows (bW x::r.map bW)) (by simp[pB1]) (by simp) (by simp[pB1]);rw[List.length_map]at h65;obtain⟨L',hc⟩:=Ut (x::r) hlen hon (b:=b) (m:=cap) (w:=w7) hO;obtain⟨o,ho,hoo,hod,hog⟩:∃o,(cN (cA pr4))[1]?=some o∧(∃ts,o.op=.call ⟨.value (.func 54),#[.tmp 65],ts⟩)∧o.dst=some 66∧o.guard=none:=⟨_,rfl,⟨_,rfl⟩,rfl,rfl⟩
  obtain⟨ts,hoo⟩:=hoo;refine mS ho hog (EX hoo (vs:=[kB b 0 (x::r).length cap]) (by simp[Act.eval,h65]) (gJ func54 (by kernel_rfl) (by kernel_rfl) · _) hc fun e w8 hR => ?_);obtain⟨rfl,h1,h2⟩:=hR;refine⟨_,rfl,?_⟩;rw[hod];have hA:=hA.post (dst:=some 66) (kill:=some 63) fun β hβ=>⟨_,aAS (l0:=rows (bW x::r.map bW)) (b:=b) (.fl (aN (yK (x::r)))) (by rw[hA.size]; exact Nat.le_of_ble_eq_true (by kernel_rfl)) (by decide) (by simp[pB1]) (by simp) hβ h1 h2⟩
  have hA:=hA.sub (A':=pB2 (yK (x::r))) fun φ hφ=>by
   simp only[pB2,List.mem_cons,List.not_mem_nil,or_false]at hφ
   rcases hφ with rfl|rfl|rfl
   ·exact List.mem_append_right _ (List.mem_filter.2 ⟨by simp[pB1],rfl⟩)
   ·exact List.mem_append_right _ (List.mem_filter.2 ⟨by simp[pB1],rfl⟩)
   ·exact List.mem_append_left _ List.mem_cons_self
  exact cH (c:=cP Ir [] 0) (fun d=>Ls.w _ _) (gR _ _) (aZo (yK (x::r))) ⟨hz,trivial⟩ (by kernel_rfl) hA fun a w9 hA=>wp_ret (YI hA)
end Go.Proofs.YtglgakbkdjhojaaGreat.Ex
