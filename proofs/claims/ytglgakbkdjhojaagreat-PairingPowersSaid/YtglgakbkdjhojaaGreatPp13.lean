/- Pp13 -/
import Derived.Test.YtglgakbkdjhojaaGreatPp02
import Derived.Test.YtglgakbkdjhojaaGreatPp12
import Derived.Test.YtglgakbkdjhojaaGreatPp07
import Derived.Test.YtglgakbkdjhojaaGreatPp08
import Derived.Test.YtglgakbkdjhojaaGreatProg
set_option maxRecDepth 100000
set_option linter.unusedVariables false
set_option linter.unusedSimpArgs false
noncomputable section
namespace Go.Proofs.YtglgakbkdjhojaaGreat.Ex
open Go.Proofs.Tryz
open Go.RowKit
theorem Holds.post {nt base : Nat} {w0 : World} {A : List Fact} {a : Act} {w : World} (h : Holds nt base w0 A a w) {dst kill : Option Nat} {out : List Fact} {a' : Act} {w' : World}
  (hP : ∀ β,(∀ φ ∈ A,φ.ok base β a w) → ∃ β',PostB base β β' a w dst A out kill a' w') (hd : pC dst nt = false:=by kernel_rfl) : Holds nt base w0 (out ++ A.filter (fun φ => !(kV dst kill φ))) a' w':=by
 obtain ⟨β,g1,g2,g3,gt⟩:=h.facts;obtain ⟨β',P⟩:=hP β g1;have hkill : ∀ φ ∈ A,kV dst kill φ = false → ∀ kk k CP l,kill = some kk → φ = .row k CP l → (β kk).1 ≠ (β k).1:=fun φ hφ hc kk k CP l hkk e => by
  obtain ⟨l0,hl0⟩:=P.kills kk hkk;have hne : kk ≠ k:=fun e2 => by
   rw [e] at hc;simp only [kV,Bool.or_eq_false_iff] at hc;have:=dH.2 (e2 ▸ hkk : kill = some k);rw [hc.2] at this; cases this
  subst e;cases CP with
  | true => exact g2 kk k l0 l hl0 hφ hne
  | false =>
   have h1:=(g1 _ hl0).2.2.1 rfl;have h2:=(g1 _ hφ).2.2.2 rfl;have:=h1.1;omega
 have hmem : ∀ φ ∈ A.filter (fun φ => !(kV dst kill φ)),φ ∈ A ∧ kV dst kill φ = false:=fun φ hφ => by
  obtain ⟨h1,h2⟩:=List.mem_filter.1 hφ;exact ⟨h1,by simpa using h2⟩
 have hβ : ∀ k CP l,Fact.row k CP l ∈ A.filter (fun φ => !(kV dst kill φ)) → β' k = β k:=fun k CP l hφ => by
  obtain ⟨_,hc⟩:=hmem _ hφ;simp only [kV,Bool.or_eq_false_iff] at hc;exact P.beta k fun e => by have:=dH.2 e; rw [hc.1] at this; cases this
 have hno : ∀ k l k' l',Fact.row k true l ∈ out → Fact.row k' true l' ∈ A.filter (fun φ => !(kV dst kill φ)) → k ≠ k' → (β' k).1 ≠ (β' k').1:=fun k l k' l' hk hk' hne => by
  rw [hβ k' true l' hk'];obtain ⟨hA',hc⟩:=hmem _ hk'
  rcases P.rows k l hk with ⟨h2,_⟩ | ⟨h2,l0,h3⟩ | ⟨h2,k0,l0,hk0,he,h3⟩
  ·have:=(g1 _ hA').1;omega
  ·rw [P.beta k h2];exact g2 k k' l0 l' h3 hA' hne
  ·rw [he];refine g2 k0 k' l0 l' h3 hA' fun e => ?_
   subst e;simp only [kV,Bool.or_eq_false_iff] at hc;have:=dH.2 hk0;rw [hc.2] at this; cases this
 have hnt : β' nt = β nt:=P.beta nt fun e => by have:=dH.2 e; rw [hd] at this; cases this
 refine ⟨by rw [P.defers]; exact h.defers,by rw [P.size]; exact h.size,P.below w0 h.below,Nat.le_trans h.heap P.heap,β',fun φ hφ => ?_,fun k k' l l' hk hk' hne => ?_,fun k l hk => ?_,by rw [hnt]; exact Nat.le_trans gt.size P.heap,fun p q1 q2 => ?_,gt.shape.trans P.shape⟩
 ·rcases List.mem_append.1 hφ with hφ | hφ
  ·exact P.ok φ hφ
  ·obtain ⟨h1,h2⟩:=hmem φ hφ;exact aOm P (g1 φ h1) h2 (hkill φ h1 h2)
 ·rcases List.mem_append.1 hk with hk | hk
  ·rcases List.mem_append.1 hk' with hk' | hk'
   ·exact absurd (P.one k k' l l' hk hk') hne
   ·exact hno k l k' l' hk hk' hne
  ·rcases List.mem_append.1 hk' with hk' | hk'
   ·exact fun e => hno k' l' k l hk' hk (Ne.symm hne) e.symm
   ·rw [hβ k true l hk,hβ k' true l' hk'];exact g2 k k' l l' (hmem _ hk).1 (hmem _ hk').1 hne
 ·rw [hnt]
  rcases List.mem_append.1 hk with hk | hk
  ·rcases P.rows k l hk with ⟨h2,_⟩ | ⟨h2,l0,h3⟩ | ⟨h2,k0,l0,hk0,he,h3⟩
   ·exact Or.inr (Nat.le_trans gt.size h2)
   ·rw [P.beta k h2];exact g3 k l0 h3
   ·rw [he];exact g3 k0 l0 h3
  ·rw [hβ k true l hk];exact g3 k l (hmem _ hk).1
 ·rw [hnt] at q2;have h3:=P.mem p (Nat.lt_of_lt_of_le q2 gt.size) fun kk hkk e => by
   obtain ⟨l0,hl0⟩:=P.kills kk hkk
   rcases g3 kk l0 hl0 with h4 | h4 <;> omega
  have h4:=gt.mem p q1 q2;exact ⟨h3.1.trans h4.1,h3.2.trans h4.2⟩
theorem XC {base : Nat} {β : Nat → Bk} {a : Act} {w w' : World} {d : Nat} {M : List Fact} (v : Value) (l : List At) (b : Nat) (h : d < a.tmps.size) (hB : base ≤ w.heap.size) (hb : Below w.heap.size w w')
  (h1 : w.heap.size ≤ b) (h2 : b < w'.heap.size) (h3 : w'.rangeAt b 0 (aA l)) (h4 : ∀ j,w'.frozen? ⟨b,j,none⟩ = false) :
  PostB base β (β1 β d b) a w (some d) M [.slot d (.im v),.row d true l,.at d b] none (a.put (some d) v) w' where
 defers:=rfl
 size:=fM _ _ _
 tmps s hs:=mW _ _ _ _ hs
 beta k hk:=As _ _ _ _ hk
 heap:=hb.size
 mem p hp _:=⟨hb.cell hp,hb.frozen hp⟩
 shape:=Shape.below hb
 below _ h:=h.trans (hb.mono hB)
 ok φ hφ:=by
  simp only [List.mem_cons,List.not_mem_nil,or_false] at hφ
  rcases hφ with rfl | rfl | rfl
  ·exact jC _ _ _ h
  ·exact ⟨by rw [bU]; exact h2,by rw [bU]; exact h3,fun _ => ⟨by rw [bU]; exact Nat.le_trans hB h1,by rw [bU],fun j => by rw [bU]; exact h4 j⟩,fun h => by cases h⟩
  ·exact ⟨by rw [bU],by rw [bU]⟩
 rows k l' hk:=by
  simp only [List.mem_cons,List.not_mem_nil,or_false,reduceCtorEq,false_or] at hk;cases hk;exact Or.inl ⟨by rw [bU]; exact h1,rfl⟩
 one k k' l1 l2 hk hk':=by
  simp only [List.mem_cons,List.not_mem_nil,or_false,reduceCtorEq,false_or] at hk hk';cases hk; cases hk'; rfl
 kills k hk:=by cases hk
theorem aGQ {base : Nat} {β : Nat → Bk} {a : Act} {w w' : World} {d k b : Nat} {M : List Fact} {l0 l' : List At} (v : TV) (h : d < a.tmps.size) (hkd : k ≠ d) (hrow : Fact.row k true l0 ∈ M) (hat : Fact.at k b ∈ M) (hM : ∀ φ ∈ M,φ.ok base β a w) (hB : base ≤ w.heap.size)
  (hwr : WrAt w w' b []) (hrg : w'.rangeAt b 0 (aA l')) : PostB base β β a w (some d) M [.slot d v.av,.row k true l'] (some k) (a.put (some d) v.den) w':=by
 obtain ⟨r1,r2,r3,r4⟩:=hM _ hrow;obtain ⟨r5,r6,r7⟩:=r3 rfl;obtain ⟨e1,e2⟩:=hM _ hat;refine ⟨mX _ _ _,fM _ _ _,fun s hs => mW _ _ _ _ hs,fun _ _ => rfl,hwr.size,fun p hp hne => ?_,hwr.shape,fun w0 h0 => ?_,fun φ hφ => ?_,fun k' l1 hk => ?_,fun k1 k2 l1 l2 hk hk' => ?_,fun k' hk => ?_⟩
 ·have:=hwr.block p.block hp (by rw [← e1]; exact hne k rfl);exact ⟨World.cell?_of_block this,World.frozen?_of_block this⟩
 ·exact h0.trans ⟨hwr.os,hwr.tape,hwr.output,hwr.size,fun q hq => hwr.block q (by omega) (by omega)⟩
 ·simp only [List.mem_cons,List.not_mem_nil,or_false] at hφ
  rcases hφ with rfl | rfl
  ·show (a.put (some d) _).tmps[d]? = _;rw [jC _ _ _ h,TV.av_den]
  ·refine ⟨Nat.lt_of_lt_of_le r1 hwr.size,by rw [e1,e2]; exact hrg,fun _ => ⟨r5,r6,fun q => ?_⟩,fun h => by cases h⟩;have:=hwr.frozen q;rw [← e1] at this;rw [this]; exact r7 q
 ·simp only [List.mem_cons,List.not_mem_nil,or_false] at hk
  rcases hk with hk | hk
  ·cases v <;> cases hk
  ·cases hk;exact Or.inr (Or.inl ⟨fun e => hkd (by injection e with e; exact e.symm),l0,hrow⟩)
 ·simp only [List.mem_cons,List.not_mem_nil,or_false] at hk hk'
  rcases hk with hk | hk
  ·cases v <;> cases hk
  ·rcases hk' with hk' | hk'
   ·cases v <;> cases hk'
   ·cases hk; cases hk'; rfl
 ·cases hk;exact ⟨l0,hrow⟩
theorem DS {P : Program} {o : Oper} {a : Act} {w : World} {K : Act → World → Prop} {Q : Exit → Act → World → Prop} {id : Nat} {xs : Array Operand} {ts : Array TypeId} {vs : List Value} {R : Ending → World → Prop} (ho : o.op = .call ⟨.value (.func id),xs,ts⟩) (hv : xs.toList.map a.eval = vs)
  (he : ∀ xs,(callFunc id xs).run P w = .ok (.enter id xs) w) (hc : Calls P id vs.toArray w R) (hK : ∀ e w',R e w' → ∃ v,e = .returned v ∧ K (a.put o.dst v) w') : o.wp P a w K Q:=by
 have ea : xs.map a.eval = vs.toArray:=by rw [← Array.toArray_toList (xs:=xs.map a.eval),Array.toList_map,hv]
 have hrun : (execOp a.eval o).run P w = .ok (.enter id vs.toArray) w:=by
  have hf : a.eval (.func id) = .func (.func id) #[] #[]:=rfl;simp [execOp,ho,resolve,Deferred.ofValue,hf,invoke,ea,he]
 unfold Oper.wp;rw [hrun];refine Calls.mono hc ?_;intro e w' hr;obtain ⟨v,rfl,hk⟩:=hK e w' hr;exact hk
theorem Au {P : Program} {o : Oper} {a : Act} {w : World} {K : Act → World → Prop} {Q : Exit → Act → World → Prop} {id s : Nat} {cap : Array Value} {xs : Array Operand} {ts : Array TypeId} {vs : List Value} {R : Ending → World → Prop} (ho : o.op = .call ⟨.value (.tmp s),xs,ts⟩) (hs : a.eval (.tmp s) = .func (.func id) #[] cap) (hv : xs.toList.map a.eval = vs)
  (he : ∀ xs,(callFunc id xs).run P w = .ok (.enter id xs) w) (hc : Calls P id (vs ++ cap.toList).toArray w R) (hK : ∀ e w',R e w' → ∃ v,e = .returned v ∧ K (a.put o.dst v) w') : o.wp P a w K Q:=by
 have ea : xs.map a.eval = vs.toArray:=by rw [← Array.toArray_toList (xs:=xs.map a.eval),Array.toList_map,hv]
 have hrun : (execOp a.eval o).run P w = .ok (.enter id (vs ++ cap.toList).toArray) w:=by
  have e3 : vs.toArray ++ cap = (vs ++ cap.toList).toArray:=by simp
  simp [execOp,ho,resolve,Deferred.ofValue,hs,invoke,ea,he]
 unfold Oper.wp;rw [hrun];refine Calls.mono hc ?_;intro e w' hr;obtain ⟨v,rfl,hk⟩:=hK e w' hr;exact hk
def dA (l : List Int) : List At:=l.map fun d => .c (.int .i64 d)
def dgx : List Int:=[1,0,0,0,-1,0,0,0,0,1,0,1,0,0,0,0,1,0,0,1,0,-1,0,1,0,1,0,1,0,0,1,0,0,0,1,0,-1,0,-1,0,-1,0,1,0,1,0,0,-1,0,1,0,1,0,-1,0,0,1,0,1,0,0,0,1,0,0,0]
def dg6 : List Int:=[0,-1,0,1,0,1,0,-1,0,0,-1,0,0,0,1,0,0,-1,0,-1,0,0,0,1,0,-1,0,0,0,0,-1,0,0,1,0,-1,0,0,1,0,0,0,0,0,-1,0,0,-1,0,1,0,-1,0,0,0,-1,0,-1,0,0,0,1,0,-1,0,1]
def aCz : lO
 | [.v (.fl l),.v (.fl m)] => match ON l,ON m with
  | some a,some b => some ([wv a + wv b < 115792089237316195423570985008687907853269984665640564039457584007913129639936],.many [.fl (q1 (wv a + wv b)),.im (.int .u64 0)])
  | _,_ => none
 | _ => none
theorem aCy : ∀ cs pre r,aCz cs = some (pre,r) → aY pre → ∀ (args : List Value) (w : World),bR w cs args → Good prog 166 r args w:=by
 intro cs pre r hg hp args w ha;unfold aCz at hg;split at hg
 ·rename_i l m;split at hg
  ·rename_i a b h1 h2;cases hg;rw [NB ha,gD l _ h1,gD m _ h2];refine (AD _ _ _ _ _ _ _ _ (dL a) (dL b) w).mono ?_
   rintro e w' ⟨s0,s1,s2,s3,c,rfl,hs,hc,hv,hb⟩
   have hp1:=hp.1;have hv' : aF s0 s1 s2 s3 + 115792089237316195423570985008687907853269984665640564039457584007913129639936 * c = wv a + wv b:=hv;have hc0 : c = 0:=by omega
   subst hc0;obtain ⟨rfl,rfl,rfl,rfl⟩:=nZ hs hp1 (by omega);exact ⟨rfl,hb⟩
  ·cases hg
 ·cases hg
def aCv : lO
 | [.v (.fl l),.v (.im (.int .i64 (.ofNat i)))] => match ON l with
  | some n => bif Nat.blt i 256 then some ([],.one (.im (.int .i64 (pP (wv n) i : Nat)))) else none
  | none => none
 | _ => none
theorem aCu : ∀ cs pre r,aCv cs = some (pre,r) → aY pre → ∀ (args : List Value) (w : World),bR w cs args → Good prog 167 r args w:=by
 intro cs pre r hg hp args w ha;unfold aCv at hg;split at hg
 ·rename_i l i;split at hg
  ·rename_i n hn;cases hb : Nat.blt i 256 <;> rw [hb] at hg
   ·cases hg
   ·cases hg;exact aDR _ [i < 256] _ (by show aCw _ = _; unfold aCw; simp only [hn]) ⟨by simpa using hb,trivial⟩ args w ha
  ·cases hg
 ·cases hg
def aRh : Tab:=(T0.add 166 aCz).add 167 aCv
theorem Js : TabOk prog aRh:=((BP _).ad func166 aCy).ad func167 aCu
def cSg : Nat → Cfg:=fun _ => ⟨fun _ => aRh,fun _ => true,fun _ => none⟩
theorem aFC : aW prog (qG prog) cSg f112 300 [.v (.fl (q1 JQ))] = some ([wv JQ + wv JQ < 115792089237316195423570985008687907853269984665640564039457584007913129639936,wv (wv JQ + wv JQ) + wv JQ < 115792089237316195423570985008687907853269984665640564039457584007913129639936],.one (.fl (dA dgx))):=by kernel_rfl
theorem aFE : aW prog (qG prog) cSg f112 300 [.v (.fl (q1 yE))] = some ([wv yE + wv yE < 115792089237316195423570985008687907853269984665640564039457584007913129639936,wv (wv yE + wv yE) + wv yE < 115792089237316195423570985008687907853269984665640564039457584007913129639936],.one (.fl (dA dg6))):=by kernel_rfl
def Um (N : Nat) (D : List Int) : Prop:=∀ (args : List Value) (w : World),bR w [.v (.fl (q1 N))] args → Good prog 112 (.one (.fl (dA D))) args w
theorem aMz : Um JQ dgx:=fun args w ha => aB aG (fun _ _ => Js) (aK _) func112 aFC ⟨by decide +kernel,by decide +kernel,trivial⟩ ha
theorem aMB : Um yE dg6:=fun args w ha => aB aG (fun _ _ => Js) (aK _) func112 aFE ⟨by decide +kernel,by decide +kernel,trivial⟩ ha
def gSg (N : Nat) (D : List Int) : lO
 | [.v (.fl l)] => match ON l with
  | some n => some ([n = N],.one (.fl (dA D)))
  | none => none
 | _ => none
def aRi (N : Nat) (D : List Int) : Tab:=(fQ true).add 112 (gSg N D)
theorem jE {N : Nat} {D : List Int} (h : Um N D) : TabOk prog (aRi N D):=(eW true).ad func112 (by
 intro cs pre r hg hp args w ha;unfold gSg at hg;split at hg
 ·rename_i l;split at hg
  ·rename_i n hn;cases hg;refine h args w ?_
   match args,ha with
   | [v],ha => exact ⟨by show v = .agg (aA (q1 N)).toArray; rw [← hp.1,← gD l _ hn]; exact ha.1,trivial⟩
   | [],ha => exact ha.elim
   | _ :: _ :: _,ha => exact ha.2.elim
  ·cases hg
 ·cases hg)
def eV : Code:=(f69.body).getD .skip
def mV : Code:=pS (pS (cB (cA (cB (cB (cB (cB eV)))))))
def gF : Code:=pS (cA (cB (cB mV)))
theorem aGo : eV = .seq (cA eV) (.seq (.region 1 (cJ (cA (cB eV))) false) (.seq (cA (cB (cB eV))) (.seq (cA (cB (cB (cB eV)))) (.seq (.seq (cA (cA (cB (cB (cB (cB eV)))))) (.block 0 (.loop mV))) (cB (cB (cB (cB (cB eV))))))))):=by kernel_rfl
theorem Iw : mV = .seq (cA mV) (.seq (cA (cB mV)) (.seq (.block 1 gF) (cB (cB (cB mV))))):=by kernel_rfl
theorem aGp : gF = .seq (cA gF) (.seq (cA (cB gF)) (.seq (.region 8 (cJ (cA (cB (cB gF)))) false) (cB (cB (cB gF))))):=by kernel_rfl
def cR (N : Nat) (D : List Int) (n : Nat → Option Value) : Nat → Cfg:=fun _ => ⟨fun _ => aRi N D,fun _ => true,n⟩
def gX (g : Nat → Option Value) : Ext:={ Ext.none with gen:=g }
def rA (y : aN) (N : Nat) : List Fact:=[.slot 2 (.pt 2 0),.row 2 true (aL y),.slot 3 (.pt 3 0),.row 3 true (q1 N),.slot 4 (.pt 4 0),.row 4 true (aL aD.zero)]
def rB (y : aN) (N b : Nat) : List Fact:=[.slot 3 (.pt 3 0),.row 3 true (q1 N),.slot 4 (.pt 4 0),.row 4 true (aL aD.zero),.slot 5 (.im (MU b)),.row 12 true (aL y),.at 12 b]
def rF (D : List Int) (b i t : Nat) (u r : aN) : List Fact:=[.slot 4 (.pt 4 0),.row 4 true (aL aD.zero),.slot 5 (.im (MU b)),.row 12 true (aL u),.at 12 b,.slot 6 (.pt 6 0),.row 6 true (aL r),.slot 7 (.im (iI t)),.slot 15 (.fl (dA D)),.slot 16 (.im (iI i))]
def rG (D : List Int) (b i t : Nat) (d : Int) (u r : aN) : List Fact:=.slot 8 (.im (iI i)) :: .slot 9 (.im (.int .i64 d)) :: rF D b i t u r
theorem aSK (N : Nat) (D : List Int) (y : aN) : aX prog qN f69.ntmps (cR N D fun _ => none) 40 (cA eV) (kZ 0 [.v (.fl (aL y)),.v (.fl (q1 N))]) (rA y N) = some ([],.nrm,rA y N):=by kernel_rfl
theorem aSJ (N : Nat) (D : List Int) (y : aN) : rJ prog qN f69.ntmps (cR N D (fun _ => none) 0) ((cJ (cA (cB eV))).extract 0 1) (rA y N) (.slot 11 (.fl (aL y)) :: rA y N) = some ([],.slot 11 (.fl (aL y)) :: rA y N):=by kernel_rfl
theorem aSI (N : Nat) (D : List Int) (y : aN) (b : Nat) : rJ prog qN f69.ntmps (cR N D (fun _ => none) 0) ((cJ (cA (cB eV))).extract 2 3) (.slot 12 (.im (MU b)) :: .row 12 true (aL y) :: .at 12 b :: .slot 11 (.fl (aL y)) :: rA y N) (rB y N b) = some ([],rB y N b):=by kernel_rfl
theorem aSH (N : Nat) (D : List Int) (y : aN) (b : Nat) : aX prog qN f69.ntmps (cR N D fun _ => none) 40 (cA (cB (cB eV))) (rB y N b) (.slot 6 (.pt 6 0) :: .row 6 true (aL aD.one) :: rB y N b) = some ([],.nrm,.slot 6 (.pt 6 0) :: .row 6 true (aL aD.one) :: rB y N b):=by kernel_rfl
theorem aSG (N : Nat) (D : List Int) (y : aN) (b : Nat) : aX prog qN f69.ntmps (cR N D fun _ => none) 40 (cA (cB (cB (cB eV)))) (.slot 6 (.pt 6 0) :: .row 6 true (aL aD.one) :: rB y N b) (.slot 7 (.im (iI 0)) :: .slot 6 (.pt 6 0) :: .row 6 true (aL aD.one) :: rB y N b) = some ([],.nrm,.slot 7 (.im (iI 0)) :: .slot 6 (.pt 6 0) :: .row 6 true (aL aD.one) :: rB y N b):=by kernel_rfl
theorem aSF (N : Nat) (D : List Int) (y : aN) (b : Nat) : aX prog qN f69.ntmps (cR N D fun _ => none) 40 (cA (cA (cB (cB (cB (cB eV)))))) (.slot 7 (.im (iI 0)) :: .slot 6 (.pt 6 0) :: .row 6 true (aL aD.one) :: rB y N b) (rF D b 0 0 y aD.one) = some ([N = N],.nrm,rF D b 0 0 y aD.one):=by kernel_rfl
theorem aSL (N : Nat) (D : List Int) (b i t : Nat) (u r : aN) (c : Bool) : aX prog qN f69.ntmps (cR N D (fun s => bif Nat.beq s 17 then some (.bool c) else none)) 40 (cA mV) (rF D b i t u r) (.slot 17 (.im (.bool c)) :: rF D b i t u r) = some ([aI .lss .i64 (Int.ofNat i) 66 = some (.bool c)],.nrm,.slot 17 (.im (.bool c)) :: rF D b i t u r):=by kernel_rfl
theorem aSM (N : Nat) (D : List Int) (b i t : Nat) (u r : aN) : aX prog qN f69.ntmps (cR N D fun _ => none) 40 (cA (cB mV)) (.slot 17 (.im (.bool true)) :: rF D b i t u r) (rF D b i t u r) = some ([],.nrm,rF D b i t u r):=by kernel_rfl
theorem aSN (N : Nat) (D : List Int) (b i t : Nat) (u r : aN) : aX prog qN f69.ntmps (cR N D fun _ => none) 40 (cA (cB mV)) (.slot 17 (.im (.bool false)) :: rF D b i t u r) (rF D b i t u r) = some ([],.ex 0,rF D b i t u r):=by kernel_rfl
theorem aST (N : Nat) (D : List Int) (b i t : Nat) (d : Int) (u r : aN) : aX prog { qG prog with x:=gX (fun s => bif Nat.beq s 19 then some (.int .i64 d) else none) } f69.ntmps (cR N D fun _ => none) 40 (cA gF) (rF D b i t u r) (rG D b i t d u r) = some ([i < 66,cellAt (dA D) i = some (.int .i64 d)],.nrm,rG D b i t d u r):=by kernel_rfl
theorem aSS (N : Nat) (D : List Int) (b i t : Nat) (d : Int) (u r : aN) : aX prog qN f69.ntmps (cR N D (fun s => bif Nat.beq s 21 then some (.bool false) else none)) 40 (cA (cB gF)) (rG D b i t d u r) (rG D b i t d u r) = some ([aI .eql .i64 d 0 = some (.bool false)],.nrm,rG D b i t d u r):=by kernel_rfl
theorem aMM (N : Nat) (D : List Int) (b i t : Nat) (d : Int) (u r : aN) : aX prog qN f69.ntmps (cR N D (fun s => bif Nat.beq s 21 then some (.bool true) else none)) 40 (cA (cB gF)) (rG D b i t d u r) (rF D b i t u r) = some ([aI .eql .i64 d 0 = some (.bool true)],.ex 1,rF D b i t u r):=by kernel_rfl
theorem aSR (N : Nat) (D : List Int) (b i t k : Nat) (d : Int) (u r : aN) : rJ prog qN f69.ntmps (cR N D (fun s => bif Nat.beq s 25 then some (iI k) else none) 0) ((cJ (cA (cB (cB gF)))).extract 0 4) (rG D b i t d u r) (.slot 22 (.im (MU b)) :: .slot 25 (.im (iI k)) :: rG D b i t d u r) = some ([aI .sub .i64 (Int.ofNat i) (Int.ofNat t) = some (iI k)],.slot 22 (.im (MU b)) :: .slot 25 (.im (iI k)) :: rG D b i t d u r):=by kernel_rfl
theorem aWx (D : List Int) (b i t k : Nat) (d : Int) (u v r : aN) : ([Fact.slot 26 (TV.av (.fl (aL v))),.row 12 true (aL v)] ++ (.slot 22 (.im (MU b)) :: .slot 25 (.im (iI k)) :: rG D b i t d u r).filter (fun φ => !(kV (some 26) (some 12) φ))) = [.slot 26 (.fl (aL v)),.row 12 true (aL v),.slot 22 (.im (MU b)),.slot 25 (.im (iI k)),.slot 8 (.im (iI i)),.slot 9 (.im (.int .i64 d)),.slot 4 (.pt 4 0),.row 4 true (aL aD.zero),.slot 5 (.im (MU b)),.at 12 b,.slot 6 (.pt 6 0),.row 6 true (aL r),.slot 7 (.im (iI t)),.slot 15 (.fl (dA D)),.slot 16 (.im (iI i))]:=by kernel_rfl
theorem aSQ (N : Nat) (D : List Int) (b i t k : Nat) (d : Int) (v r : aN) : rJ prog qN f69.ntmps (cR N D (fun _ => none) 0) ((cJ (cA (cB (cB gF)))).extract 5 7) [.slot 26 (.fl (aL v)),.row 12 true (aL v),.slot 22 (.im (MU b)),.slot 25 (.im (iI k)),.slot 8 (.im (iI i)),.slot 9 (.im (.int .i64 d)),.slot 4 (.pt 4 0),.row 4 true (aL aD.zero),.slot 5 (.im (MU b)),.at 12 b,.slot 6 (.pt 6 0),.row 6 true (aL r),.slot 7 (.im (iI t)),.slot 15 (.fl (dA D)),.slot 16 (.im (iI i))] (.slot 10 (.pt 10 0) :: .row 10 true (aL v) :: rG D b i t d v r) = some ([],.slot 10 (.pt 10 0) :: .row 10 true (aL v) :: rG D b i t d v r):=by kernel_rfl
theorem aSO (N : Nat) (D : List Int) (b i t : Nat) (d : Int) (v r : aN) : aX prog qN f69.ntmps (cR N D (fun s => bif Nat.beq s 29 then some (.bool false) else none)) 40 (cB (cB (cB gF))) (.slot 10 (.pt 10 0) :: .row 10 true (aL v) :: rG D b i t d v r) (rF D b i i v (aD.mul (eD (gR r)) (eD (gR v)))) = some ([aI .lss .i64 d 0 = some (.bool false)],.nrm,rF D b i i v (aD.mul (eD (gR r)) (eD (gR v)))):=by kernel_rfl
theorem aSP (N : Nat) (D : List Int) (b i t : Nat) (d : Int) (v r : aN) : aX prog qN f69.ntmps (cR N D (fun s => bif Nat.beq s 29 then some (.bool true) else none)) 40 (cB (cB (cB gF))) (.slot 10 (.pt 10 0) :: .row 10 true (aL v) :: rG D b i t d v r) (rF D b i i v (aD.mul (eD (gR r)) (eD (gR (cH v))))) = some ([aI .lss .i64 d 0 = some (.bool true)],.nrm,rF D b i i v (aD.mul (eD (gR r)) (eD (gR (cH v))))):=by kernel_rfl
theorem aWw (N : Nat) (D : List Int) (b i t : Nat) (u r : aN) : aX prog qN f69.ntmps (cR N D (fun s => bif Nat.beq s 35 then some (iI (i + 1)) else none)) 40 (cB (cB (cB mV))) (rF D b i t u r) (rF D b (i + 1) t u r) = some ([aI .add .i64 (Int.ofNat i) 1 = some (iI (i + 1))],.nrm,rF D b (i + 1) t u r):=by kernel_rfl
theorem aWy (N : Nat) (D : List Int) (b i t : Nat) (u r : aN) : aX prog qN f69.ntmps (cR N D fun _ => none) 40 (cB (cB (cB (cB (cB eV))))) (rF D b i t u r) [.slot 4 (.pt 4 0),.row 4 true (aL r)] = some ([],.rt,[.slot 4 (.pt 4 0),.row 4 true (aL r)]):=by kernel_rfl
def dI (D : List Int) (i : Nat) : Int:=D.getD i 0
def tN (D : List Int) : Nat → Nat
 | 0 => 0
 | i + 1 => if dI D i = 0 then tN D i else i
def eN (D : List Int) : Nat → Nat
 | 0 => 0
 | i + 1 => if dI D i = 0 then eN D i else if dI D i < 0 then eN D i + 2 ^ i * p6N else eN D i + 2 ^ i
theorem aJE (D : List Int) : ∀ i,tN D i ≤ i
 | 0 => Nat.le_refl _
 | i + 1 => by
  unfold tN;split
  ·exact Nat.le_succ_of_le (aJE D i)
  ·exact Nat.le_succ _
theorem RB : ∀ (D : List Int) (i : Nat),i < D.length → cellAt (dA D) i = some (.int .i64 (dI D i))
 | [],i,h => absurd h (by simp)
 | d :: r,0,h => rfl
 | d :: r,i + 1,h => by
  show (bif Nat.blt (i + 1) 1 then _ else cellAt (dA r) (i + 1 - 1)) = _;rw [show Nat.blt (i + 1) 1 = false from Bool.eq_false_iff.2 fun h => by simp at h,cond_false,Nat.add_sub_cancel,RB r i (by simpa using h)];simp [dI]
theorem Holds.free {nt base : Nat} {w0 : World} {A : List Fact} {a : Act} {w : World} (h : Holds nt base w0 A a w) {k b : Nat} {l : List At} (h1 : Fact.row k true l ∈ A) (h2 : Fact.at k b ∈ A) : ∀ j,w.frozen? ⟨b,j,none⟩ = false:=by
 obtain ⟨β,g1,g2⟩:=h.facts;obtain ⟨_,_,e3,_⟩:=g1 _ h1;obtain ⟨e4,e5⟩:=g1 _ h2;have:=(e3 rfl).2.2;rw [e4] at this;exact this
theorem aJK (y : aN) {t i : Nat} (h : t ≤ i) : bO aD (bO aD y (2 ^ t)) (2 ^ (i - t)) = bO aD y (2 ^ i):=by
 rw [← dO,← Nat.pow_add,Nat.add_sub_cancel' h]
theorem aKb (d : Int) : aI .eql .i64 d 0 = some (.bool (decide (d = 0))):=by
 show some (Value.bool (d == 0)) = _
 by_cases h : d = 0
 ·subst h; rfl
 ·rw [decide_eq_false h];simp [h]
theorem aJZ (d : Int) : aI .lss .i64 d 0 = some (.bool (decide (d < 0))):=rfl
theorem wV {N : Nat} {D : List Int} (hsg : Um N D) (hlen : D.length = 66) (y : aN) (hy : lK y) (args : List Value) (w : World) (ha : bR w [.v (.fl (aL y)),.v (.fl (q1 N))] args) : Good prog 69 (.one (.fl (aL (bO aD y (eN D 66))))) args w:=by
 have hT : ∀ (n d : Nat) (wi : World),TabOkW prog (aRi N D) w.heap.size wi:=fun _ _ wi => (jE hsg).w _ _
 refine dS func69 (c:=eV) rfl ha (Nat.le_of_ble_eq_true (by kernel_rfl)) fun a w' hA => ?_
 rw [aGo];refine wp_seq (bD aG (fun _ _ => jE hsg) aM (aSK N D y) trivial hA fun a w1 hA => ?_);refine wp_seq (sU (l:=List.range' 0 ((cJ (cA (cB eV))).extract 0 1).size ++ (1 :: (List.range' 2 ((cJ (cA (cB eV))).extract 2 3).size ++ []))) (by kernel_rfl) ?_);refine cE (c:=cR N D (fun _ => none) 0) (fun d => (jE hsg).w _ _) (aM.w _ _) (aSJ N D y) trivial (by kernel_rfl) hA fun a w2 hA => ?_
 have h11:=hA.slotF (s:=11) (l:=aL y) (by simp);obtain ⟨o,ho,hoo,hod,hog⟩ : ∃ o,(cJ (cA (cB eV)))[1]? = some o ∧ (∃ ts,o.op = .call ⟨.value (.func 138),#[.tmp 11],ts⟩) ∧ o.dst = some 12 ∧ o.guard = none:=⟨_,rfl,⟨_,rfl⟩,rfl,rfl⟩
 obtain ⟨ts,hoo⟩:=hoo;refine mG ho hog (DS hoo (vs:=[.agg (aA (aL y)).toArray]) (by simp [Act.eval,h11]) (gI func138 (by kernel_rfl) (by kernel_rfl) · _) (JO y [.agg (aA (aL y)).toArray] _ ⟨rfl,trivial⟩) fun e w3 hR => ?_);obtain ⟨b,rfl,hb,h1,h2,h3,h4⟩:=hR;refine ⟨_,rfl,?_⟩;rw [hod];have hA:=hA.post (dst:=some 12) (kill:=none) fun β hβ => ⟨_,XC (MU b) (aL y) b (by rw [hA.size]; exact Nat.le_of_ble_eq_true (by kernel_rfl)) hA.heap hb h1 h2 h3 h4⟩
 have ef : ([Fact.slot 12 (.im (MU b)),.row 12 true (aL y),.at 12 b] ++ (.slot 11 (.fl (aL y)) :: rA y N).filter (fun φ => !(kV (some 12) none φ))) = .slot 12 (.im (MU b)) :: .row 12 true (aL y) :: .at 12 b :: .slot 11 (.fl (aL y)) :: rA y N:=by kernel_rfl
 rw [ef] at hA;refine cE (c:=cR N D (fun _ => none) 0) (fun d => (jE hsg).w _ _) (aM.w _ _) (aSI N D y b) trivial (by kernel_rfl) hA fun a w4 hA => ?_
 show (Code.seq (cA (cB (cB eV))) _).wp _ _ _ _;refine wp_seq (bD aG (fun _ _ => jE hsg) aM (aSH N D y b) trivial hA fun a w5 hA => ?_);refine wp_seq (bD aG (fun _ _ => jE hsg) aM (aSG N D y b) trivial hA fun a w6 hA => ?_);refine wp_seq (wp_seq (bD aG (fun _ _ => jE hsg) aM (aSF N D y b) ⟨rfl,trivial⟩ hA fun a w7 hA => ?_));refine wp_block ?_;refine pI (fun i a wi => Holds f69.ntmps w.heap.size w (rF D b i (tN D i) (bO aD y (2 ^ tN D i)) (bO aD y (eN D i))) a wi) 66 (fun i hi a wi hA R hR => ?_) (fun a wi hA R => ?_) (by
  show Holds _ _ _ (rF D b 0 0 (bO aD y (2 ^ 0)) (bO aD y 0)) _ _;rw [Nat.pow_zero,WN]; exact hA)
 ·rw [Iw];refine wp_seq (bD aG (fun _ _ => jE hsg) aM (aSL N D b i _ _ _ true) ⟨bX hi,trivial⟩ hA fun a w8 hA => ?_);refine wp_seq (bD aG (fun _ _ => jE hsg) aM (aSM N D b i _ _ _) trivial hA fun a w9 hA => ?_);refine wp_seq (wp_block ?_);have hfin : ∀ (Q : Exit → Act → World → Prop) a w',Holds f69.ntmps w.heap.size w (rF D b i (tN D (i + 1)) (bO aD y (2 ^ tN D (i + 1))) (bO aD y (eN D (i + 1)))) a w' → (cB (cB (cB mV))).wp prog (Exit.then R Q) a w':=fun Q a w' hA =>
   bD aG (fun _ _ => jE hsg) aM (aWw N D b i _ _ _) ⟨kS (k:=1) (by omega),trivial⟩ hA fun a w'' hA => hR a w'' hA
  rw [aGp];refine wp_seq (aC aG (fun n d => hT n d _) (Mk (x:=gX (fun s => bif Nat.beq s 19 then some (.int .i64 (dI D i)) else none)) (N:=w.heap.size) (w:=w) rfl rfl rfl fun _ _ _ h => h.elim) (aST N D b i _ (dI D i) _ _) ⟨hi,RB D i (by omega),trivial⟩ hA fun a w10 hA => ?_)
  by_cases hd : dI D i = 0
  ·refine wp_seq (bD aG (fun _ _ => jE hsg) aM (aMM N D b i _ (dI D i) _ _) ⟨by rw [aKb,decide_eq_true hd],trivial⟩ hA fun a w11 hA => ?_);refine hfin _ a w11 ?_;rw [show tN D (i + 1) = tN D i from if_pos hd,show eN D (i + 1) = eN D i from if_pos hd];exact hA
  ·refine wp_seq (bD aG (fun _ _ => jE hsg) aM (aSS N D b i _ (dI D i) _ _) ⟨by rw [aKb,decide_eq_false hd],trivial⟩ hA fun a w11 hA => ?_);refine wp_seq (sU (l:=List.range' 0 ((cJ (cA (cB (cB gF)))).extract 0 4).size ++ (4 :: (List.range' 5 ((cJ (cA (cB (cB gF)))).extract 5 7).size ++ []))) (by kernel_rfl) ?_);have ht:=aJE D i;refine cE (c:=cR N D (fun s => bif Nat.beq s 25 then some (iI (i - tN D i)) else none) 0) (fun d => (jE hsg).w _ _) (aM.w _ _) (aSR N D b i (tN D i) (i - tN D i) (dI D i) _ _) ⟨uK ht (by omega),trivial⟩ (by kernel_rfl) hA fun a w12 hA => ?_
   have h22:=hA.slot (s:=22) (v:=MU b) (by simp);have h25:=hA.slot (s:=25) (v:=iI (i - tN D i)) (by simp);obtain ⟨o2,ho2,hoo2,hod2,hog2⟩ : ∃ o,(cJ (cA (cB (cB gF))))[4]? = some o ∧ (∃ ts,o.op = .call ⟨.value (.tmp 22),#[.tmp 25],ts⟩) ∧ o.dst = some 26 ∧ o.guard = none:=⟨_,rfl,⟨_,rfl⟩,rfl,rfl⟩
   obtain ⟨ts2,hoo2⟩:=hoo2;have hold:=hA.old (k:=12) (b:=b) (l:=aL (bO aD y (2 ^ tN D i))) (by simp [rG,rF]) (by simp [rG,rF]);have hfree:=hA.free (k:=12) (b:=b) (l:=aL (bO aD y (2 ^ tN D i))) (by simp [rG,rF]) (by simp [rG,rF]);refine mG ho2 hog2 (Au hoo2 (id:=182) (cap:=#[.pointer (some ⟨b,0,none⟩)]) (vs:=[iI (i - tN D i)]) (by simp [Act.eval,h22,MU]) (by simp [Act.eval,h25]) (gI func182 (by kernel_rfl) (by kernel_rfl) · _) (Zc (i - tN D i) (by omega) _ (zQ hy _) b w12 hold.1 hold.2 hfree) fun e w13 hR2 => ?_);obtain ⟨rfl,hwr,hrg⟩:=hR2;refine ⟨_,rfl,?_⟩;rw [hod2];have hA:=hA.post (dst:=some 26) (kill:=some 12) fun β hβ => ⟨_,aGQ (.fl (aL (bO aD (bO aD y (2 ^ tN D i)) (2 ^ (i - tN D i))))) (by rw [hA.size]; exact Nat.le_of_ble_eq_true (by kernel_rfl)) (by decide) (l0:=aL (bO aD y (2 ^ tN D i))) (b:=b) (by simp [rG,rF]) (by simp [rG,rF]) hβ hA.heap hwr hrg⟩
   rw [aWx] at hA;rw [aJK y ht] at hA;refine cE (c:=cR N D (fun _ => none) 0) (fun d => (jE hsg).w _ _) (aM.w _ _) (aSQ N D b i (tN D i) (i - tN D i) (dI D i) _ _) trivial (by kernel_rfl) (by rw [aJK y ht]; exact hA) fun a w14 hA => ?_
   show (cB (cB (cB gF))).wp _ _ _ _
   by_cases hn : dI D i < 0
   ·refine bD aG (fun _ _ => jE hsg) aM (aSP N D b i (tN D i) (dI D i) _ _) ⟨by rw [aJZ,decide_eq_true hn],trivial⟩ hA fun a w15 hA => ?_
    refine hfin _ a w15 ?_;rw [show tN D (i + 1) = i from if_neg hd,show eN D (i + 1) = eN D i + 2 ^ i * p6N from (if_neg hd).trans (if_pos hn),cI,dO,← IE];rw [fA,fA] at hA;exact hA
   ·refine bD aG (fun _ _ => jE hsg) aM (aSO N D b i (tN D i) (dI D i) _ _) ⟨by rw [aJZ,decide_eq_false hn],trivial⟩ hA fun a w15 hA => ?_
    refine hfin _ a w15 ?_;rw [show tN D (i + 1) = i from if_neg hd,show eN D (i + 1) = eN D i + 2 ^ i from (if_neg hd).trans (if_neg hn),cI];rw [fA,fA] at hA;exact hA
 ·rw [Iw];refine wp_seq (bD aG (fun _ _ => jE hsg) aM (aSL N D b 66 _ _ _ false) ⟨eI (Nat.le_refl _),trivial⟩ hA fun a w8 hA => ?_);refine wp_seq (bD aG (fun _ _ => jE hsg) aM (aSN N D b 66 _ _ _) trivial hA fun a w9 hA => ?_);show (cB (cB (cB (cB (cB eV))))).wp _ _ _ _;exact bD aG (fun _ _ => jE hsg) aM (aWy N D b 66 _ _ _) trivial hA fun a w10 hA => eK (l:=[.fl (aL (bO aD y (eN D 66)))]) (by kernel_rfl) (by kernel_rfl) hA
def kxN : Nat:=(eN dgx 66 - JQ) / q4N
def k6N : Nat:=(eN dg6 66 - yE) / q4N
theorem aXX : eN dgx 66 = JQ + q4N * kxN:=by kernel_rfl
theorem aXY : eN dg6 66 = yE + q4N * k6N:=by kernel_rfl
theorem aWF {y : aN} (h : lK y) : bO aD y (eN dgx 66) = bO aD y JQ:=by rw [aXX,cI,dO,Dq h,nS,aD.mul_one]
theorem aWH {y : aN} (h : lK y) : bO aD y (eN dg6 66) = bO aD y yE:=by rw [aXY,cI,dO,Dq h,nS,aD.mul_one]
def s6F : Fq:=⟨yE,by decide +kernel⟩
def sdF : Fq:=⟨JQ,by decide +kernel⟩
theorem OK : bH prog Gu qN (fun _ => true) f70 40 [] = some ([],.one (.fl [.f s6F])):=by kernel_rfl
theorem UU : bH prog Gu qN (fun _ => true) f71 40 [] = some ([],.one (.fl [.f sdF])):=by kernel_rfl
theorem aKc : ∃ f : aN → aN,∀ y,f y = bO aD y yE:=⟨fun y => bO aD y yE,fun _ => rfl⟩
theorem aJO : ∃ f : aN → aN,∀ y,f y = bO aD y JQ:=⟨fun y => bO aD y JQ,fun _ => rfl⟩
def o6 : aN → aN:=Classical.choose aKc
def ox : aN → aN:=Classical.choose aJO
theorem YF (y : aN) : o6 y = bO aD y yE:=Classical.choose_spec aKc y
theorem aAp (y : aN) : ox y = bO aD y JQ:=Classical.choose_spec aJO y
def aHY : lO
 | [.v (.fl l),.v (.fl m)] => match oC l,ON m with
  | some y,some n => bif Nat.beq n yE then some ([lK y],.one (.fl (aL (o6 y)))) else bif Nat.beq n JQ then some ([lK y],.one (.fl (aL (ox y)))) else none
  | _,_ => none
 | _ => none
theorem Lr : ∀ cs pre r,aHY cs = some (pre,r) → aY pre → ∀ (args : List Value) (w : World),bR w cs args → Good prog 69 r args w:=by
 intro cs pre r hg hp args w ha;unfold aHY at hg;split at hg
 ·rename_i l m;split at hg
  ·rename_i y n hy hn;have hca : ∀ N,n = N → bR w [.v (.fl (aL y)),.v (.fl (q1 N))] args:=fun N e => by
    subst e
    match args,ha with
    | [u,v],ha => exact ⟨by show u = .agg (aA (aL y)).toArray; rw [← dG l _ hy]; exact ha.1,by show v = .agg (aA (q1 n)).toArray; rw [← gD m _ hn]; exact ha.2.1,trivial⟩
    | [],ha => exact ha.elim
    | [_],ha => exact ha.2.elim
    | _ :: _ :: _ :: _,ha => exact ha.2.2.elim
   cases h6 : Nat.beq n yE <;> rw [h6] at hg
   ·simp only [cond_false] at hg;cases hx : Nat.beq n JQ <;> rw [hx] at hg
    ·cases hg
    ·cases hg;have:=wV aMz (by decide) y hp.1 args w (hca _ (Nat.eq_of_beq_eq_true hx));rw [aWF hp.1,← aAp] at this;exact this
   ·cases hg;have:=wV aMB (by decide) y hp.1 args w (hca _ (Nat.eq_of_beq_eq_true h6));rw [aWH hp.1,← YF] at this;exact this
  ·cases hg
 ·cases hg
def Nn : Tab:=((Gu.add 70 (g0 (.one (.fl [.f s6F])))).add 71 (g0 (.one (.fl [.f sdF])))).add 69 aHY
theorem Eg : TabOk prog Nn:=((AS.ad func70 (jJ fun w => aH aG AS aM func70 OK trivial (args:=[]) trivial)).ad func71 (jJ fun w => aH aG AS aM func71 UU trivial (args:=[]) trivial)).ad func69 Lr
theorem Qe (x a : aN) (k : Nat) : bH prog Nn qN (fun _ => true) f165 60 [.v (.fl (aL x)),.s (aL a) 1 k] = some ([],.one (.fl (aL (aD.mul (eD (gR x)) (eD (gR a)))))):=by kernel_rfl
theorem Qd (x a b c : aN) (k : Nat) : bH prog Nn qN (fun _ => true) f165 60 [.v (.fl (aL x)),.s (aL a ++ (aL b ++ aL c)) 3 k] = some ([],.one (.fl (aL (aD.mul (eD (gR (aD.mul (eD (gR (aD.mul (eD (gR x)) (eD (gR a))))) (eD (gR b))))) (eD (gR c)))))):=by kernel_rfl
def Iu : Nat → List At → Option (List aN)
 | 0,_ => some []
 | n + 1,l => match tk l 48,dp l 48 with
  | some a,some r => (match oC a,Iu n r with | some x,some xs => some (x :: xs) | _,_ => none)
  | _,_ => none
def QP : lO
 | [.v (.fl l),.s m n k] => match oC l,Iu n m with
  | some x,some [a] => some ([],.one (.fl (aL (aD.mul x a))))
  | some x,some [a,b,c] => some ([],.one (.fl (aL (aD.mul (aD.mul (aD.mul x a) b) c))))
  | _,_ => none
 | _ => none
theorem uW : ∀ {n : Nat} {l : List At} {xs : List aN},Iu n l = some xs → xs.length = n ∧ ∃ r,aA l = aA (xs.flatMap aL) ++ r
 | 0,l,xs,h => by cases h; exact ⟨rfl,aA l,rfl⟩
 | n + 1,l,xs,h => by
  unfold Iu at h;split at h
  ·rename_i a r ht hd;split at h
   ·rename_i x xs' hx hr;cases h;obtain ⟨h1,r',h2⟩:=uW hr;obtain ⟨r2,e1,s1⟩:=sV _ _ _ ht;obtain ⟨p,e2,s2⟩:=tM _ _ _ hd;obtain ⟨h3,h4⟩:=sL (e1.symm.trans e2) (s1.trans s2.symm);refine ⟨by rw [List.length_cons,h1],r',?_⟩;rw [e1,aP,h4,h2,dG a _ hx,List.flatMap_cons,aP,List.append_assoc]
   ·cases h
  ·cases h
theorem aVh {w : World} {l m m' : List At} {x : aN} {n k : Nat} {r : List Value} (hl : aA l = aA (aL x)) (hm : aA m = aA m' ++ r) {args : List Value} (ha : bR w [.v (.fl l),.s m n k] args) : bR w [.v (.fl (aL x)),.s m' n k] args:=by
 match args,ha with
 | [u,s],ha =>
  refine ⟨by show u = .agg (aA (aL x)).toArray; rw [← hl]; exact ha.1,?_,trivial⟩;obtain ⟨b,o,e,hb,hr⟩:=ha.2.1;refine ⟨b,o,e,hb,fun j v hj => hr j v ?_⟩;rw [hm,List.getElem?_append_left (List.getElem?_eq_some_iff.1 hj).1];exact hj
 | [],ha => exact ha.elim
 | [_],ha => exact ha.2.elim
 | _ :: _ :: _ :: _,ha => exact ha.2.2.elim
theorem Fm : ∀ cs pre r,QP cs = some (pre,r) → aY pre → ∀ (args : List Value) (w : World),bR w cs args → Good prog 165 r args w:=by
 intro cs pre r hg hp args w ha;unfold QP at hg;split at hg
 ·rename_i l m n k;split at hg
  ·rename_i x a hx hm;cases hg;obtain ⟨h1,r',h2⟩:=uW hm;have hn : n = 1:=h1.symm;subst hn;have h:=aH aG Eg aM func165 (Qe x a k) trivial (args:=args) (w:=w) (aVh (r:=r') (dG l _ hx) (by rw [h2]; simp [List.flatMap]) ha);rw [fA,fA] at h;exact h
  ·rename_i x a b c hx hm;cases hg;obtain ⟨h1,r',h2⟩:=uW hm;have hn : n = 3:=h1.symm;subst hn;have h:=aH aG Eg aM func165 (Qd x a b c k) trivial (args:=args) (w:=w) (aVh (r:=r') (dG l _ hx) (by rw [h2]; simp [List.flatMap]) ha);rw [fA x,fA a,fA b,fA c,fA,fA] at h;exact h
  ·cases hg
 ·cases hg
def aRk : Tab:=Nn.add 165 QP
theorem xH : TabOk prog aRk:=Eg.ad func165 Fm
def hXr (y : aN) : aN:=aD.mul (aD.mul (aD.mul (eJ (bM 3).toNat y) (eJ (bM 2).toNat (aD.mul y (Ap y)))) (eJ (bM 1).toNat (aD.mul y (cH (hG y))))) (cH (hR y))
theorem aOD (y : aN) : hXr y = hX y:=by
 unfold hXr hX;rw [show (bM 3).toNat = 3 by decide,show (bM 2).toNat = 2 by decide,show (bM 1).toNat = 1 by decide]
def cPd : Nat → Cfg:=fun _ => ⟨fun _ => aRk,fun _ => true,fun _ => none⟩
def fU : Code:=(f111.body).getD .skip
theorem aUe (y : aN) : aX prog qN f111.ntmps cPd 40 (cA fU) (kZ 0 [.v (.fl (aL y))]) [.slot 1 (.pt 1 0),.row 1 true (aL y),.slot 2 (.pt 2 0),.row 2 true (aL aD.zero)] = some ([],.nrm,[.slot 1 (.pt 1 0),.row 1 true (aL y),.slot 2 (.pt 2 0),.row 2 true (aL aD.zero)]):=by kernel_rfl
theorem aUd (y : aN) : aX prog qN f111.ntmps cPd 40 (cA (cB fU)) [.slot 1 (.pt 1 0),.row 1 true (aL y),.slot 2 (.pt 2 0),.row 2 true (aL aD.zero)] [.slot 3 (.pt 3 0),.row 3 true (aL (o6 y)),.slot 1 (.pt 1 0),.row 1 true (aL y),.slot 2 (.pt 2 0),.row 2 true (aL aD.zero)] = some ([lK y],.nrm,[.slot 3 (.pt 3 0),.row 3 true (aL (o6 y)),.slot 1 (.pt 1 0),.row 1 true (aL y),.slot 2 (.pt 2 0),.row 2 true (aL aD.zero)]):=by kernel_rfl
theorem aUc (y s : aN) : aX prog qN f111.ntmps cPd 40 (cA (cB (cB fU))) [.slot 3 (.pt 3 0),.row 3 true (aL s),.slot 1 (.pt 1 0),.row 1 true (aL y),.slot 2 (.pt 2 0),.row 2 true (aL aD.zero)] [.slot 4 (.pt 4 0),.row 4 true (aL (ox s)),.slot 3 (.pt 3 0),.row 3 true (aL s),.slot 1 (.pt 1 0),.row 1 true (aL y),.slot 2 (.pt 2 0),.row 2 true (aL aD.zero)] = some ([lK s],.nrm,[.slot 4 (.pt 4 0),.row 4 true (aL (ox s)),.slot 3 (.pt 3 0),.row 3 true (aL s),.slot 1 (.pt 1 0),.row 1 true (aL y),.slot 2 (.pt 2 0),.row 2 true (aL aD.zero)]):=by kernel_rfl
theorem aUb (y s q : aN) : aX prog qN f111.ntmps cPd 40 (cA (cB (cB (cB fU)))) [.slot 4 (.pt 4 0),.row 4 true (aL q),.slot 3 (.pt 3 0),.row 3 true (aL s),.slot 1 (.pt 1 0),.row 1 true (aL y),.slot 2 (.pt 2 0),.row 2 true (aL aD.zero)] [.slot 5 (.pt 5 0),.row 5 true (aL (o6 q)),.slot 4 (.pt 4 0),.row 4 true (aL q),.slot 3 (.pt 3 0),.row 3 true (aL s),.slot 1 (.pt 1 0),.row 1 true (aL y),.slot 2 (.pt 2 0),.row 2 true (aL aD.zero)] = some ([lK q],.nrm,[.slot 5 (.pt 5 0),.row 5 true (aL (o6 q)),.slot 4 (.pt 4 0),.row 4 true (aL q),.slot 3 (.pt 3 0),.row 3 true (aL s),.slot 1 (.pt 1 0),.row 1 true (aL y),.slot 2 (.pt 2 0),.row 2 true (aL aD.zero)]):=by kernel_rfl
theorem aUa (y s q c : aN) : aX prog qN f111.ntmps cPd 40 (cA (cB (cB (cB (cB fU))))) [.slot 5 (.pt 5 0),.row 5 true (aL c),.slot 4 (.pt 4 0),.row 4 true (aL q),.slot 3 (.pt 3 0),.row 3 true (aL s),.slot 1 (.pt 1 0),.row 1 true (aL y),.slot 2 (.pt 2 0),.row 2 true (aL aD.zero)] [.slot 6 (.pt 6 0),.row 6 true (aL (aD.mul q q)),.slot 5 (.pt 5 0),.row 5 true (aL c),.slot 4 (.pt 4 0),.row 4 true (aL q),.slot 3 (.pt 3 0),.row 3 true (aL s),.slot 1 (.pt 1 0),.row 1 true (aL y),.slot 2 (.pt 2 0),.row 2 true (aL aD.zero)] = some ([lK q],.nrm,[.slot 6 (.pt 6 0),.row 6 true (aL (aD.mul q q)),.slot 5 (.pt 5 0),.row 5 true (aL c),.slot 4 (.pt 4 0),.row 4 true (aL q),.slot 3 (.pt 3 0),.row 3 true (aL s),.slot 1 (.pt 1 0),.row 1 true (aL y),.slot 2 (.pt 2 0),.row 2 true (aL aD.zero)]):=by kernel_rfl
theorem aTZ (y s q c t : aN) : aX prog qN f111.ntmps cPd 40 (cA (cB (cB (cB (cB (cB fU)))))) [.slot 6 (.pt 6 0),.row 6 true (aL t),.slot 5 (.pt 5 0),.row 5 true (aL c),.slot 4 (.pt 4 0),.row 4 true (aL q),.slot 3 (.pt 3 0),.row 3 true (aL s),.slot 1 (.pt 1 0),.row 1 true (aL y),.slot 2 (.pt 2 0),.row 2 true (aL aD.zero)] [.slot 7 (.pt 7 0),.row 7 true (aL (aD.mul (aD.mul (aD.mul c q) t) (aD.mul s s))),.slot 6 (.pt 6 0),.row 6 true (aL t),.slot 5 (.pt 5 0),.row 5 true (aL c),.slot 4 (.pt 4 0),.row 4 true (aL q),.slot 3 (.pt 3 0),.row 3 true (aL s),.slot 1 (.pt 1 0),.row 1 true (aL y),.slot 2 (.pt 2 0),.row 2 true (aL aD.zero)] = some ([lK s],.nrm,[.slot 7 (.pt 7 0),.row 7 true (aL (aD.mul (aD.mul (aD.mul c q) t) (aD.mul s s))),.slot 6 (.pt 6 0),.row 6 true (aL t),.slot 5 (.pt 5 0),.row 5 true (aL c),.slot 4 (.pt 4 0),.row 4 true (aL q),.slot 3 (.pt 3 0),.row 3 true (aL s),.slot 1 (.pt 1 0),.row 1 true (aL y),.slot 2 (.pt 2 0),.row 2 true (aL aD.zero)]):=by kernel_rfl
theorem aTY (y s q c t g : aN) : aX prog qN f111.ntmps cPd 40 (cA (cB (cB (cB (cB (cB (cB fU))))))) [.slot 7 (.pt 7 0),.row 7 true (aL g),.slot 6 (.pt 6 0),.row 6 true (aL t),.slot 5 (.pt 5 0),.row 5 true (aL c),.slot 4 (.pt 4 0),.row 4 true (aL q),.slot 3 (.pt 3 0),.row 3 true (aL s),.slot 1 (.pt 1 0),.row 1 true (aL y),.slot 2 (.pt 2 0),.row 2 true (aL aD.zero)] [.slot 8 (.pt 8 0),.row 8 true (aL (aD.mul (aD.mul (aD.mul g t) s) (aD.mul y y))),.slot 7 (.pt 7 0),.row 7 true (aL g),.slot 6 (.pt 6 0),.row 6 true (aL t),.slot 5 (.pt 5 0),.row 5 true (aL c),.slot 4 (.pt 4 0),.row 4 true (aL q),.slot 3 (.pt 3 0),.row 3 true (aL s),.slot 1 (.pt 1 0),.row 1 true (aL y),.slot 2 (.pt 2 0),.row 2 true (aL aD.zero)] = some ([lK y],.nrm,[.slot 8 (.pt 8 0),.row 8 true (aL (aD.mul (aD.mul (aD.mul g t) s) (aD.mul y y))),.slot 7 (.pt 7 0),.row 7 true (aL g),.slot 6 (.pt 6 0),.row 6 true (aL t),.slot 5 (.pt 5 0),.row 5 true (aL c),.slot 4 (.pt 4 0),.row 4 true (aL q),.slot 3 (.pt 3 0),.row 3 true (aL s),.slot 1 (.pt 1 0),.row 1 true (aL y),.slot 2 (.pt 2 0),.row 2 true (aL aD.zero)]):=by kernel_rfl
theorem aTX (y s q c t g h : aN) : aX prog qN f111.ntmps cPd 40 (cB (cB (cB (cB (cB (cB (cB fU))))))) [.slot 8 (.pt 8 0),.row 8 true (aL h),.slot 7 (.pt 7 0),.row 7 true (aL g),.slot 6 (.pt 6 0),.row 6 true (aL t),.slot 5 (.pt 5 0),.row 5 true (aL c),.slot 4 (.pt 4 0),.row 4 true (aL q),.slot 3 (.pt 3 0),.row 3 true (aL s),.slot 1 (.pt 1 0),.row 1 true (aL y),.slot 2 (.pt 2 0),.row 2 true (aL aD.zero)] [.slot 2 (.pt 2 0),.row 2 true (aL (aD.mul (aD.mul (aD.mul (eJ (bM 3).toNat y) (eJ (bM 2).toNat (aD.mul y q))) (eJ (bM 1).toNat (aD.mul y (cH g)))) (cH h)))] = some ([],.rt,[.slot 2 (.pt 2 0),.row 2 true (aL (aD.mul (aD.mul (aD.mul (eJ (bM 3).toNat y) (eJ (bM 2).toNat (aD.mul y q))) (eJ (bM 1).toNat (aD.mul y (cH g)))) (cH h)))]):=by kernel_rfl
theorem aHS : fU = .seq (cA fU) (.seq (cA (cB fU)) (.seq (cA (cB (cB fU))) (.seq (cA (cB (cB (cB fU)))) (.seq (cA (cB (cB (cB (cB fU))))) (.seq (cA (cB (cB (cB (cB (cB fU)))))) (.seq (cA (cB (cB (cB (cB (cB (cB fU))))))) ((cB (cB (cB (cB (cB (cB (cB fU)))))))))))))):=by kernel_rfl
theorem Fl (y : aN) (hy : lK y) (args : List Value) (w : World) (ha : bR w [.v (.fl (aL y))] args) : Good prog 111 (.one (.fl (aL (hX y)))) args w:=by
 have h6 : lK (tX y):=zQ hy _;have h2 : lK (Ap y):=zQ h6 _;refine dS func111 (c:=fU) rfl ha (Nat.le_of_ble_eq_true (by kernel_rfl)) fun a w' hA => ?_
 rw [aHS];refine wp_seq (bD aG (fun _ _ => xH) aM (aUe y) trivial hA fun a w' hA => ?_);refine wp_seq (bD aG (fun _ _ => xH) aM (aUd y) ⟨hy,trivial⟩ hA fun a w' hA => ?_);rw [show o6 y = tX y from YF y] at hA;refine wp_seq (bD aG (fun _ _ => xH) aM (aUc y (tX y)) ⟨h6,trivial⟩ hA fun a w' hA => ?_);rw [show ox (tX y) = Ap y from aAp _] at hA;refine wp_seq (bD aG (fun _ _ => xH) aM (aUb y (tX y) (Ap y)) ⟨h2,trivial⟩ hA fun a w' hA => ?_);rw [show o6 (Ap y) = hCu y from YF _] at hA;refine wp_seq (bD aG (fun _ _ => xH) aM (aUa y (tX y) (Ap y) (hCu y)) ⟨h2,trivial⟩ hA fun a w' hA => ?_);refine wp_seq (bD aG (fun _ _ => xH) aM (aTZ y (tX y) (Ap y) (hCu y) (hT y)) ⟨h6,trivial⟩ hA fun a w' hA => ?_);refine wp_seq (bD aG (fun _ _ => xH) aM (aTY y (tX y) (Ap y) (hCu y) (hT y) (hG y)) ⟨hy,trivial⟩ hA fun a w' hA => ?_);have h:=aTX y (tX y) (Ap y) (hCu y) (hT y) (hG y) (hR y);refine bD aG (fun _ _ => xH) aM h trivial hA fun a w' hA => ?_
 rw [← aOD];exact eK (l:=[.fl (aL (hXr y))]) (by kernel_rfl) (by kernel_rfl) hA
def aRm : Tab:=aRk.add 111 (g1 oC fun y => ([lK y],.one (.fl (aL (hX y)))))
theorem aJW : TabOk prog aRm:=xH.ad func111 (bC dG fun y hp args w ha => Fl y hp.1 args w ha)
def eZr (a : aN) : aN:=aD.mul (eD (gR (eJ (bM 2).toNat (aD.mul (eD (gR (cH a))) (eD (gR (lJ a))))))) (eD (gR (aD.mul (eD (gR (cH a))) (eD (gR (lJ a))))))
theorem aCZ (a : aN) : eZr a = eZ a:=by
 unfold eZr eZ;rw [fA,fA,fA,fA,aTW]
theorem Yb (x : gB) : bH prog aRm qN (fun _ => true) f53 60 [.v (.fl (fC x))] = some ([sF (eD x) ≠ F1.zero,lK (eZr (eD x))],.one (.fl (aL (hX (eZr (eD x)))))):=by kernel_rfl
def aRl : Tab:=aRm.add 53 (g1 ER fun x => ([sF (eD x) ≠ F1.zero],.one (.fl (aL (iO (eD x))))))
theorem aJV : TabOk prog aRl:=aJW.ad func53 (bC mA fun x hp args w ha => by
 have h:=aH aG aJW aM func53 (Yb x) ⟨hp.1,by rw [aCZ]; exact Mn hp.1,trivial⟩ (args:=args) (w:=w) ha;rw [aCZ] at h;exact h)
def kC (x : gB) : List Nat:=[x.1.1.1,x.1.1.2,x.2.1.1,x.2.1.2,x.1.2.1.1,x.1.2.1.2,x.2.2.1.1,x.2.2.1.2,x.1.2.2.1,x.1.2.2.2,x.2.2.2.1,x.2.2.2.2]
def pw6 (x : gB) : List At:=[.q x.1.1.1,.q x.1.1.2,.q x.2.1.1,.q x.2.1.2,.q x.1.2.1.1,.q x.1.2.1.2,.q x.2.2.1.1,.q x.2.2.1.2,.q x.1.2.2.1,.q x.1.2.2.2,.q x.2.2.2.1,.q x.2.2.2.2]
def vN (x : gB) : Prop:=∀ n ∈ kC x,wv n < FP.M
theorem aFV (x : gB) : bH prog T0 qN (fun _ => true) f116 60 [.v (.fl (fC x))] = some ([],.one (.fl (pw6 x))):=by kernel_rfl
def aVs : Tab:=T0.add 116 (g1 ER fun x => ([],.one (.fl (pw6 x))))
theorem aTv : TabOk prog aVs:=(BP _).ad func116 (bC mA fun x hp args w ha => aH aG (BP _) aM func116 (aFV x) trivial ha)
def aVt (d : Bool) : Tab:=aVs.add 124 (aIk d)
theorem aTw (d : Bool) : TabOk prog (aVt d):=aTv.ad func124 (Ls d)
def Ng (f : Nat → Nat → Bool) : Nat → Cfg:=fun n => ⟨fun s => aVt (f n s),fun _ => true,fun _ => none⟩
theorem kD (f : Nat → Nat → Bool) : ∀ n d,TabOk prog ((Ng f n).T d):=fun n d => aTw _
theorem aMH (x : gB) : aW prog (qG prog) (Ng fun _ _ => true) f64 80 [.v (.fl (fC x))] = some ([wv x.1.1.1 < FP.M,wv x.1.1.2 < FP.M,wv x.2.1.1 < FP.M,wv x.2.1.2 < FP.M,wv x.1.2.1.1 < FP.M,wv x.1.2.1.2 < FP.M,wv x.2.2.1.1 < FP.M,wv x.2.2.1.2 < FP.M,wv x.1.2.2.1 < FP.M,wv x.1.2.2.2 < FP.M,wv x.2.2.2.1 < FP.M,wv x.2.2.2.2 < FP.M],.one (.im (.bool true))):=by kernel_rfl
theorem aFU (x : gB) : aW prog (qG prog) (Ng fun n s => !(Nat.beq n 68 && Nat.beq s 12)) f64 80 [.v (.fl (fC x))] = some ([¬ wv x.1.1.1 < FP.M],.one (.im (.bool false))):=by kernel_rfl
theorem aFT (x : gB) : aW prog (qG prog) (Ng fun n s => !(Nat.beq n 68 && Nat.beq s 17)) f64 80 [.v (.fl (fC x))] = some ([wv x.1.1.1 < FP.M,¬ wv x.1.1.2 < FP.M],.one (.im (.bool false))):=by kernel_rfl
theorem aFS (x : gB) : aW prog (qG prog) (Ng fun n s => !(Nat.beq n 67 && Nat.beq s 12)) f64 80 [.v (.fl (fC x))] = some ([wv x.1.1.1 < FP.M,wv x.1.1.2 < FP.M,¬ wv x.2.1.1 < FP.M],.one (.im (.bool false))):=by kernel_rfl
theorem aFR (x : gB) : aW prog (qG prog) (Ng fun n s => !(Nat.beq n 67 && Nat.beq s 17)) f64 80 [.v (.fl (fC x))] = some ([wv x.1.1.1 < FP.M,wv x.1.1.2 < FP.M,wv x.2.1.1 < FP.M,¬ wv x.2.1.2 < FP.M],.one (.im (.bool false))):=by kernel_rfl
theorem aFQ (x : gB) : aW prog (qG prog) (Ng fun n s => !(Nat.beq n 66 && Nat.beq s 12)) f64 80 [.v (.fl (fC x))] = some ([wv x.1.1.1 < FP.M,wv x.1.1.2 < FP.M,wv x.2.1.1 < FP.M,wv x.2.1.2 < FP.M,¬ wv x.1.2.1.1 < FP.M],.one (.im (.bool false))):=by kernel_rfl
theorem aFP (x : gB) : aW prog (qG prog) (Ng fun n s => !(Nat.beq n 66 && Nat.beq s 17)) f64 80 [.v (.fl (fC x))] = some ([wv x.1.1.1 < FP.M,wv x.1.1.2 < FP.M,wv x.2.1.1 < FP.M,wv x.2.1.2 < FP.M,wv x.1.2.1.1 < FP.M,¬ wv x.1.2.1.2 < FP.M],.one (.im (.bool false))):=by kernel_rfl
theorem aFO (x : gB) : aW prog (qG prog) (Ng fun n s => !(Nat.beq n 65 && Nat.beq s 12)) f64 80 [.v (.fl (fC x))] = some ([wv x.1.1.1 < FP.M,wv x.1.1.2 < FP.M,wv x.2.1.1 < FP.M,wv x.2.1.2 < FP.M,wv x.1.2.1.1 < FP.M,wv x.1.2.1.2 < FP.M,¬ wv x.2.2.1.1 < FP.M],.one (.im (.bool false))):=by kernel_rfl
theorem aFN (x : gB) : aW prog (qG prog) (Ng fun n s => !(Nat.beq n 65 && Nat.beq s 17)) f64 80 [.v (.fl (fC x))] = some ([wv x.1.1.1 < FP.M,wv x.1.1.2 < FP.M,wv x.2.1.1 < FP.M,wv x.2.1.2 < FP.M,wv x.1.2.1.1 < FP.M,wv x.1.2.1.2 < FP.M,wv x.2.2.1.1 < FP.M,¬ wv x.2.2.1.2 < FP.M],.one (.im (.bool false))):=by kernel_rfl
theorem aFM (x : gB) : aW prog (qG prog) (Ng fun n s => !(Nat.beq n 64 && Nat.beq s 12)) f64 80 [.v (.fl (fC x))] = some ([wv x.1.1.1 < FP.M,wv x.1.1.2 < FP.M,wv x.2.1.1 < FP.M,wv x.2.1.2 < FP.M,wv x.1.2.1.1 < FP.M,wv x.1.2.1.2 < FP.M,wv x.2.2.1.1 < FP.M,wv x.2.2.1.2 < FP.M,¬ wv x.1.2.2.1 < FP.M],.one (.im (.bool false))):=by kernel_rfl
theorem aFL (x : gB) : aW prog (qG prog) (Ng fun n s => !(Nat.beq n 64 && Nat.beq s 17)) f64 80 [.v (.fl (fC x))] = some ([wv x.1.1.1 < FP.M,wv x.1.1.2 < FP.M,wv x.2.1.1 < FP.M,wv x.2.1.2 < FP.M,wv x.1.2.1.1 < FP.M,wv x.1.2.1.2 < FP.M,wv x.2.2.1.1 < FP.M,wv x.2.2.1.2 < FP.M,wv x.1.2.2.1 < FP.M,¬ wv x.1.2.2.2 < FP.M],.one (.im (.bool false))):=by kernel_rfl
theorem Ya (x : gB) : aW prog (qG prog) (Ng fun n s => !(Nat.beq n 63 && Nat.beq s 12)) f64 80 [.v (.fl (fC x))] = some ([wv x.1.1.1 < FP.M,wv x.1.1.2 < FP.M,wv x.2.1.1 < FP.M,wv x.2.1.2 < FP.M,wv x.1.2.1.1 < FP.M,wv x.1.2.1.2 < FP.M,wv x.2.2.1.1 < FP.M,wv x.2.2.1.2 < FP.M,wv x.1.2.2.1 < FP.M,wv x.1.2.2.2 < FP.M,¬ wv x.2.2.2.1 < FP.M],.one (.im (.bool false))):=by kernel_rfl
theorem Xz (x : gB) : aW prog (qG prog) (Ng fun n s => !(Nat.beq n 63 && Nat.beq s 17)) f64 80 [.v (.fl (fC x))] = some ([wv x.1.1.1 < FP.M,wv x.1.1.2 < FP.M,wv x.2.1.1 < FP.M,wv x.2.1.2 < FP.M,wv x.1.2.1.1 < FP.M,wv x.1.2.1.2 < FP.M,wv x.2.2.1.1 < FP.M,wv x.2.2.1.2 < FP.M,wv x.1.2.2.1 < FP.M,wv x.1.2.2.2 < FP.M,wv x.2.2.2.1 < FP.M,¬ wv x.2.2.2.2 < FP.M],.one (.im (.bool false))):=by kernel_rfl
theorem aXr (x : gB) (h : ¬ vN x) (args : List Value) (w : World) (ha : bR w [.v (.fl (fC x))] args) : Good prog 64 (.one (.im (.bool false))) args w:=by
 by_cases h0 : wv x.1.1.1 < FP.M
 rotate_left
 ·exact aB aG (kD _) (aK _) func64 (aFU x) ⟨h0,trivial⟩ ha
 by_cases h1 : wv x.1.1.2 < FP.M
 rotate_left
 ·exact aB aG (kD _) (aK _) func64 (aFT x) ⟨h0,h1,trivial⟩ ha
 by_cases h2 : wv x.2.1.1 < FP.M
 rotate_left
 ·exact aB aG (kD _) (aK _) func64 (aFS x) ⟨h0,h1,h2,trivial⟩ ha
 by_cases h3 : wv x.2.1.2 < FP.M
 rotate_left
 ·exact aB aG (kD _) (aK _) func64 (aFR x) ⟨h0,h1,h2,h3,trivial⟩ ha
 by_cases h4 : wv x.1.2.1.1 < FP.M
 rotate_left
 ·exact aB aG (kD _) (aK _) func64 (aFQ x) ⟨h0,h1,h2,h3,h4,trivial⟩ ha
 by_cases h5 : wv x.1.2.1.2 < FP.M
 rotate_left
 ·exact aB aG (kD _) (aK _) func64 (aFP x) ⟨h0,h1,h2,h3,h4,h5,trivial⟩ ha
 by_cases h6 : wv x.2.2.1.1 < FP.M
 rotate_left
 ·exact aB aG (kD _) (aK _) func64 (aFO x) ⟨h0,h1,h2,h3,h4,h5,h6,trivial⟩ ha
 by_cases h7 : wv x.2.2.1.2 < FP.M
 rotate_left
 ·exact aB aG (kD _) (aK _) func64 (aFN x) ⟨h0,h1,h2,h3,h4,h5,h6,h7,trivial⟩ ha
 by_cases h8 : wv x.1.2.2.1 < FP.M
 rotate_left
 ·exact aB aG (kD _) (aK _) func64 (aFM x) ⟨h0,h1,h2,h3,h4,h5,h6,h7,h8,trivial⟩ ha
 by_cases h9 : wv x.1.2.2.2 < FP.M
 rotate_left
 ·exact aB aG (kD _) (aK _) func64 (aFL x) ⟨h0,h1,h2,h3,h4,h5,h6,h7,h8,h9,trivial⟩ ha
 by_cases h10 : wv x.2.2.2.1 < FP.M
 rotate_left
 ·exact aB aG (kD _) (aK _) func64 (Ya x) ⟨h0,h1,h2,h3,h4,h5,h6,h7,h8,h9,h10,trivial⟩ ha
 by_cases h11 : wv x.2.2.2.2 < FP.M
 rotate_left
 ·exact aB aG (kD _) (aK _) func64 (Xz x) ⟨h0,h1,h2,h3,h4,h5,h6,h7,h8,h9,h10,h11,trivial⟩ ha
 refine absurd (fun n hn => ?_) h;simp only [kC,List.mem_cons,List.not_mem_nil,or_false] at hn
 rcases hn with rfl | rfl | rfl | rfl | rfl | rfl | rfl | rfl | rfl | rfl | rfl | rfl
 all_goals assumption
def oMb (c : Bool) (x : gB) : List Prop × RV:=bif c then ([vN x],.one (.im (.bool true))) else ([¬ vN x],.one (.im (.bool false)))
theorem aAW (c : Bool) (x : gB) (hp : aY (oMb c x).1) (args : List Value) (w : World) (ha : bR w [.v (.fl (fC x))] args) : Good prog 64 (oMb c x).2 args w:=by
 cases c
 ·exact aXr x hp.1 args w ha
 ·have h : vN x:=hp.1;exact aB aG (kD _) (aK _) func64 (aMH x) ⟨h _ (by simp [kC]),h _ (by simp [kC]),h _ (by simp [kC]),h _ (by simp [kC]),h _ (by simp [kC]),h _ (by simp [kC]),h _ (by simp [kC]),h _ (by simp [kC]),h _ (by simp [kC]),h _ (by simp [kC]),h _ (by simp [kC]),h _ (by simp [kC]),trivial⟩ ha
theorem RT (z : aN) : vN (gR z):=fun n hn => by
 have hv : ∀ q : Fq,wv q.1 < FP.M:=fun q => by unfold wv; rw [bZ q.2]; exact q.2
 simp only [kC,List.mem_cons,List.not_mem_nil,or_false] at hn
 rcases hn with rfl | rfl | rfl | rfl | rfl | rfl | rfl | rfl | rfl | rfl | rfl | rfl
 all_goals exact hv _
def aJn (c : Bool) : Tab:=aRl.add 64 (g1 ER (oMb c))
theorem aAM (c : Bool) : TabOk prog (aJn c):=aJV.ad func64 (bC mA (aAW c))
theorem VY (x : gB) : bH prog (aJn false) (qG prog) (fun _ => true) f25 60 [.v (.fl (fC x))] = some ([¬ vN x],.many [.fl (aL aD.zero),.im (.int .i64 21)]):=by kernel_rfl
theorem VX (x : gB) : bH prog (aJn true) (qG prog) (fun _ => true) f25 60 [.v (.fl (fC x))] = some ([vN x,aA (fC x) = aA (aL aD.zero)],.many [.fl (aL aD.zero),.im (.int .i64 22)]):=by kernel_rfl
theorem VW (x : gB) : bH prog (aJn true) (qG prog) (fun _ => false) f25 60 [.v (.fl (fC x))] = some ([vN x,aA (fC x) ≠ aA (aL aD.zero),sF (eD x) ≠ F1.zero],.many [.fl (aL (iO (eD x))),.im (.int .i64 0)]):=by kernel_rfl
def aVq : Tab:=(((Gu.add 70 (g0 (.one (.fl [.f s6F])))).add 71 (g0 (.one (.fl [.f sdF])))).add 69 aHY).add 64 (g1 ER (oMb true))
theorem aTr : TabOk prog aVq:=(((AS.ad func70 (jJ fun w => aH aG AS aM func70 OK trivial (args:=[]) trivial)).ad func71 (jJ fun w => aH aG AS aM func71 UU trivial (args:=[]) trivial)).ad func69 Lr).ad func64 (bC mA (aAW true))
def cIg (c : Bool) : Nat → Cfg:=fun _ => ⟨fun s => bif Nat.beq s 7 then fQ c else aVq,fun _ => true,fun _ => none⟩
theorem aDH (c : Bool) : ∀ n d,TabOk prog ((cIg c n).T d):=fun n d => by
 show TabOk _ (bif Nat.beq d 7 then fQ c else _);cases Nat.beq d 7
 ·exact aTr
 ·exact eW c
theorem Yd (z : aN) : aW prog (qG prog) (cIg false) f28 60 [.v (.fl (aL z))] = some ([vN (gR z),¬ lK z],.one (.im (.bool false))):=by kernel_rfl
theorem Yc (z : aN) : aW prog (qG prog) (cIg true) f28 60 [.v (.fl (aL z))] = some ([vN (gR z),lK z,lK z,lK (o6 z),aA (aL (ox (o6 z))) = aA (aL (eJ (bM 1).toNat z))],.one (.im (.bool true))):=by kernel_rfl
def ZA (z : aN) : Prop:=lK z ∧ bO aD z Go.Proofs.YtglgakbkdjhojaaGreat.FR.M = aD.one
def oIg (c : Bool) (z : aN) : List Prop × RV:=bif c then ([ZA z],.one (.im (.bool true))) else ([¬ lK z],.one (.im (.bool false)))
theorem aNS (c : Bool) (z : aN) (hp : aY (oIg c z).1) (args : List Value) (w : World) (ha : bR w [.v (.fl (aL z))] args) : Good prog 28 (oIg c z).2 args w:=by
 cases c
 ·exact aB aG (aDH false) (aK _) func28 (Yd z) ⟨RT z,hp.1,trivial⟩ ha
 ·obtain ⟨h1,h2⟩ : ZA z:=hp.1;refine aB aG (aDH true) (aK _) func28 (Yc z) ⟨RT z,h1,h1,by rw [YF]; exact zQ h1 _,?_,trivial⟩ ha;rw [aAp,YF,aWG h2,show (bM 1).toNat = 1 by decide,QI]
def Ld : Nat:=29793968203157093288
def KG : List Int:=[0,0,0,1,0,1,0,-1,0,0,-1,0,0,0,1,0,0,-1,0,-1,0,0,0,1,0,-1,0,0,0,0,-1,0,0,1,0,-1,0,0,1,0,0,0,0,0,-1,0,0,-1,0,1,0,-1,0,0,0,-1,0,-1,0,0,0,1,0,-1,0,1]
theorem aFD : aW prog (qG prog) cSg f112 300 [.v (.fl (q1 Ld))] = some ([wv Ld + wv Ld < 115792089237316195423570985008687907853269984665640564039457584007913129639936,wv (wv Ld + wv Ld) + wv Ld < 115792089237316195423570985008687907853269984665640564039457584007913129639936],.one (.fl (dA KG))):=by kernel_rfl
theorem aMA : Um Ld KG:=fun args w ha => aB aG (fun _ _ => Js) (aK _) func112 aFD ⟨by decide +kernel,by decide +kernel,trivial⟩ ha
def aLi : Tab:=aRh.add 70 (g0 (.one (.fl [.f s6F])))
theorem aNO : TabOk prog aLi:=Js.ad func70 (jJ fun w => aH aG AS aM func70 OK trivial (args:=[]) trivial)
theorem aMI : aW prog (qG prog) (fun _ => ⟨fun _ => aLi,fun _ => true,fun _ => none⟩) f113 60 [] = some ([wv s6F.1 + wv 2 < 115792089237316195423570985008687907853269984665640564039457584007913129639936],.one (.fl (q1 (wv s6F.1 + wv 2)))):=by kernel_rfl
theorem aTP : wv s6F.1 + wv 2 = Ld:=by decide +kernel
def aKZ : Tab:=Uk.add 113 (g0 (.one (.fl (q1 Ld))))
theorem aNF : TabOk prog aKZ:=XR.ad func113 (jJ fun w => by
 have h:=aB aG (fun _ _ => aNO) (aK _) func113 aMI ⟨by decide +kernel,trivial⟩ (args:=[]) (w:=w) trivial;rw [aTP] at h;exact h)
def vQ : Tab:=aKZ.add 112 (gSg Ld KG)
theorem aOO {N : Nat} {D : List Int} (h : Um N D) : ∀ cs pre r,gSg N D cs = some (pre,r) → aY pre → ∀ (args : List Value) (w : World),bR w cs args → Good prog 112 r args w:=by
 intro cs pre r hg hp args w ha;unfold gSg at hg;split at hg
 ·rename_i l;split at hg
  ·rename_i n hn;cases hg;obtain ⟨rfl,_⟩:=hp;refine h args w ?_
   match args,ha with
   | [v],ha =>
    refine ⟨?_,trivial⟩;show v = .agg (aA (q1 n)).toArray;rw [← gD l n hn];exact ha.1
   | [],ha => exact ha.elim
   | _ :: _ :: _,ha => exact ha.2.elim
  ·cases hg
 ·cases hg
theorem nV : TabOk prog vQ:=aNF.ad func112 (aOO aMA)
def oH : Code:=(f54.body).getD .skip
def tW : Nat:=f54.ntmps
def lp3 : Code:=cA (cB (cB (cB oH)))
def lp4 : Code:=cB (cB (cB (cB oH)))
def lpO : Code:=pS (pS (cB lp3))
def lpX : Code:=pS (cA (cB lpO))
def lpI : Code:=pS (pS (cB (cB lpX)))
def lpE : Code:=pS (pS (cB (cA lp4)))
theorem aHC : oH = .seq (cA oH) (.seq (cA (cB oH)) (.seq (cA (cB (cB oH))) (.seq (.seq (cA lp3) (.block 0 (.loop lpO))) (.seq (.seq (cA (cA lp4)) (.block 4 (.loop lpE))) (cB lp4))))):=by kernel_rfl
theorem YM : lpO = .seq (cA lpO) (.seq (.block 1 (.seq (cA lpX) (.seq (cA (cB lpX)) (.block 2 (.loop lpI))))) (cB (cB lpO))):=by kernel_rfl
def cL (l : List (Nat × Value)) : Nat → Cfg:=fun _ => ⟨fun _ => vQ,fun _ => true,assoc l⟩
theorem nI (l : List (Nat × Value)) (base : Nat) (w0 : World) : ∀ n d,TabOkW prog ((cL l n).T d) base w0:=fun _ _ => nV.w _ _
def q0 : EqT:=Zd prog (BL []) (BL []) Nv
theorem gO (base : Nat) (w0 : World) : cK prog q0 base w0:=oE (eE _) _ _
def lA0 (b N n m : Nat) (l : List At) : List Fact:=[.slot 0 (.sl 0 0 n m),.row 0 true l,.at 0 b,.at tW N,.slot 2 (.pt 2 0),.row 2 true (aL aD.zero)]
def lA1 (b N n m : Nat) (l : List At) (f : aN) : List Fact:=[.slot 0 (.sl 0 0 n m),.row 0 true l,.at 0 b,.at tW N,.slot 2 (.pt 2 0),.row 2 true (aL aD.zero),.slot 3 (.pt 3 0),.row 3 true (aL f)]
def lA2 (b N n m : Nat) (l : List At) (f : aN) : List Fact:=[.slot 0 (.sl 0 0 n m),.row 0 true l,.at 0 b,.at tW N,.slot 2 (.pt 2 0),.row 2 true (aL aD.zero),.slot 3 (.pt 3 0),.row 3 true (aL f),.slot 4 (.pt 4 0),.row 4 true (dA KG)]
def lA (b N n m : Nat) (l : List At) (f : aN) (k : Int) : List Fact:=[.slot 0 (.sl 0 0 n m),.row 0 true l,.at 0 b,.at tW N,.slot 2 (.pt 2 0),.row 2 true (aL aD.zero),.slot 3 (.pt 3 0),.row 3 true (aL f),.slot 4 (.pt 4 0),.row 4 true (dA KG),.slot 5 (.im (.int .i64 k))]
def lB (b N n m : Nat) (l : List At) (f : aN) (k : Int) (j : Nat) : List Fact:=[.slot 0 (.sl 0 0 n m),.row 0 true l,.at 0 b,.at tW N,.slot 2 (.pt 2 0),.row 2 true (aL aD.zero),.slot 3 (.pt 3 0),.row 3 true (aL f),.slot 4 (.pt 4 0),.row 4 true (dA KG),.slot 5 (.im (.int .i64 k)),.slot 18 (.im (iI n)),.slot 19 (.im (iI j))]
theorem aXC (b N n m : Nat) (l : List At) : aX prog q0 tW (cL []) 40 (cA oH) (Ug tW b N (.sl 0 0 n m) l []) (lA0 b N n m l) = some ([],.nrm,lA0 b N n m l):=by kernel_rfl
theorem aXB (b N n m : Nat) (l : List At) : aX prog q0 tW (cL []) 40 (cA (cB oH)) (lA0 b N n m l) (lA1 b N n m l aD.one) = some ([],.nrm,lA1 b N n m l aD.one):=by kernel_rfl
theorem aXA (b N n m : Nat) (l : List At) (f : aN) : aX prog q0 tW (cL []) 40 (cA (cB (cB oH))) (lA1 b N n m l f) (lA2 b N n m l f) = some ([Ld = Ld],.nrm,lA2 b N n m l f):=by kernel_rfl
theorem aXz (b N n m : Nat) (l : List At) (f : aN) : aX prog q0 tW (cL []) 40 (cA lp3) (lA2 b N n m l f) (lA b N n m l f 64) = some ([],.nrm,lA b N n m l f 64):=by kernel_rfl
theorem l_c (b N n m : Nat) (l : List At) (f : aN) (k : Int) : aX prog q0 tW (cL [(12,.bool true)]) 40 (cA lpO) (lA b N n m l f k) (lA b N n m l f k) = some ([aI .geq .i64 k 0 = some (.bool true)],.nrm,lA b N n m l f k):=by kernel_rfl
theorem l_x (b N n m : Nat) (l : List At) (f : aN) (k : Int) : aX prog q0 tW (cL [(12,.bool false)]) 40 (cA lpO) (lA b N n m l f k) (lA2 b N n m l f) = some ([aI .geq .i64 k 0 = some (.bool false)],.ex 0,lA2 b N n m l f):=by kernel_rfl
theorem aXy (b N n m : Nat) (l : List At) (f : aN) (k : Int) : aX prog q0 tW (cL []) 40 (cA lpX) (lA b N n m l f k) (lA b N n m l (aD.mul f f) k) = some ([],.nrm,lA b N n m l (aD.mul f f) k):=by kernel_rfl
theorem aXD (b N n m : Nat) (l : List At) (f : aN) (k : Int) : aX prog q0 tW (cL []) 40 (cA (cB lpX)) (lA b N n m l f k) (lB b N n m l f k 0) = some ([],.nrm,lB b N n m l f k 0):=by kernel_rfl
theorem aXE (b N n m : Nat) (l : List At) (f : aN) (k k' : Int) : aX prog q0 tW (cL [(14,.int .i64 k')]) 40 (cB (cB lpO)) (lA b N n m l f k) (lA b N n m l f k') = some ([aI .sub .i64 k 1 = some (.int .i64 k')],.nrm,lA b N n m l f k'):=by kernel_rfl
theorem aXG (b N n m : Nat) (l : List At) (f : aN) (k : Int) (j : Nat) : aX prog q0 tW (cL [(20,.bool false)]) 40 lpI (lB b N n m l f k j) (lA b N n m l f k) = some ([aI .lss .i64 (Int.ofNat j) (Int.ofNat n) = some (.bool false)],.ex 2,lA b N n m l f k):=by kernel_rfl
def T5i (l l1 : List At) (j : Nat) (f g : aN) (d : Int) : Tab5:=Nv.add 115 (pe2 l (50 * j) (oO f) (.int .i64 d) (.one (.fl (oO g))) l1)
def qI (l l1 : List At) (j kk : Nat) (f g : aN) (d : Int) : EqT:=qPx prog (BL []) (BL []) (assoc [(24,j),(28,kk)]) (assoc [(29,.int .i64 d)]) (T5i l l1 j f g d)
section
variable {R A Q S : Type} (K : CR R) (lfG : A → Q → Int → S → R) (npG : Q → Int → S → S) (ewG : A → Q → S → R)
theorem GH (d : Int) : ∀ (a b : List (A × Q × S)) (f : R),jG K lfG d f (a ++ b) = jG K lfG d (jG K lfG d f a) b
 | [],b,f => rfl
 | W :: a,b,f => GH d a b _
theorem MM : ∀ (a b : List (A × Q × S)) (f : R),lV K ewG f (a ++ b) = lV K ewG (lV K ewG f a) b
 | [],b,f => rfl
 | W :: a,b,f => MM a b _
theorem VZ : ∀ (a b : List Int) (s : R × List (A × Q × S)),lZ K lfG npG (a ++ b) s = lZ K lfG npG b (lZ K lfG npG a s)
 | [],b,s => rfl
 | d :: a,b,s => VZ a b _
theorem nJ {α : Type} {l : List α} {j : Nat} {x : α} (h : l[j]? = some x) : ∃ a b,l = a ++ x :: b ∧ a.length = j ∧ l.take j = a ∧ l.drop j = x :: b ∧ l.take (j + 1) = a ++ [x] ∧ l.drop (j + 1) = b:=by
 obtain ⟨hlt,he⟩:=List.getElem?_eq_some_iff.1 h;refine ⟨l.take j,l.drop (j + 1),by rw [← he,List.getElem_cons_drop hlt,List.take_append_drop],by rw [List.length_take]; omega,rfl,by rw [← he,List.getElem_cons_drop hlt],by rw [List.take_add_one,h]; rfl,rfl⟩
theorem Ey {d : Int} {f : R} {Ws : List (A × Q × S)} {j : Nat} {W : A × Q × S} (h : Ws[j]? = some W) : jG K lfG d f (Ws.take (j + 1)) = K.mul (jG K lfG d f (Ws.take j)) (lfG W.1 W.2.1 d W.2.2):=by
 obtain ⟨a,b,_,_,h1,_,h2,_⟩:=nJ h;rw [h1,h2,GH];rfl
theorem Ts {f : R} {Ws : List (A × Q × S)} {j : Nat} {W : A × Q × S} (h : Ws[j]? = some W) : lV K ewG f (Ws.take (j + 1)) = K.mul (lV K ewG f (Ws.take j)) (ewG W.1 W.2.1 W.2.2):=by
 obtain ⟨a,b,_,_,h1,_,h2,_⟩:=nJ h;rw [h1,h2,MM];rfl
theorem Yp (p : Q → Prop) : ∀ (ds : List Int) (s : R × List (A × Q × S)),(∀ W ∈ s.2,p W.2.1) → ∀ W ∈ (lZ K lfG npG ds s).2,p W.2.1
 | [],s,h => h
 | d :: ds,s,h => Yp p ds _ fun W hW => by
  obtain ⟨V,hV,rfl⟩:=List.mem_map.1 hW;exact h V hV
theorem EQ : ∀ (ds : List Int) (s : R × List (A × Q × S)),(lZ K lfG npG ds s).2.length = s.2.length
 | [],s => rfl
 | d :: ds,s => by
  show (lZ K lfG npG ds _).2.length = _;rw [EQ ds];exact List.length_map _
end
def GG {α : Type} (g : α → α) (l : List α) (j : Nat) : List α:=(l.take j).map g ++ l.drop j
theorem Kx {α : Type} (g : α → α) {l : List α} {j : Nat} {x : α} (h : l[j]? = some x) : (GG g l j)[j]? = some x:=by
 obtain ⟨a,b,_,h0,h1,h2,_⟩:=nJ h;unfold GG;rw [h1,h2,List.getElem?_append_right (by rw [List.length_map,h0]; exact Nat.le_refl _),List.length_map,h0,Nat.sub_self];rfl
theorem Kw {α : Type} (g : α → α) {l : List α} {j : Nat} {x : α} (h : l[j]? = some x) : (GG g l j).set j (g x) = GG g l (j + 1):=by
 obtain ⟨a,b,_,h0,h1,h2,h3,h4⟩:=nJ h;unfold GG;rw [h1,h2,h3,h4,← h0];simp
theorem aKk {α : Type} (g : α → α) (l : List α) : GG g l 0 = l:=by simp [GG]
theorem Ky {α : Type} (g : α → α) (l : List α) : GG g l l.length = l.map g:=by simp [GG]
theorem aXF (b N n m j kk : Nat) (l l1 : List At) (f g : aN) (k d : Int) : aX prog (qI l l1 j kk f g d) tW (cL [(20,.bool true),(32,iI (j + 1))]) 40 lpI (lB b N n m l f k j) (lB b N n m l1 g k (j + 1)) =
  some ([aI .lss .i64 (Int.ofNat j) (Int.ofNat n) = some (.bool true),Int.ofNat j = Int.ofNat j,j < n,k = Int.ofNat kk,kk < 66,cellAt (dA KG) (0 + kk * 1) = some (.int .i64 d),l = l,0 + j * 50 = 50 * j,aA (oO f) = aA (oO f),Value.int .i64 d = .int .i64 d,aI .add .i64 (Int.ofNat j) 1 = some (iI (j + 1))],.nrm,lB b N n m l1 g k (j + 1)):=by kernel_rfl
def lE (b N n m : Nat) (l : List At) (f : aN) (j : Nat) : List Fact:=[.slot 0 (.sl 0 0 n m),.row 0 true l,.at 0 b,.at tW N,.slot 2 (.pt 2 0),.row 2 true (aL aD.zero),.slot 3 (.pt 3 0),.row 3 true (aL f),.slot 4 (.pt 4 0),.row 4 true (dA KG),.slot 34 (.im (iI n)),.slot 35 (.im (iI j))]
def lF (b N : Nat) (l : List At) (f : aN) : List Fact:=[.slot 2 (.pt 2 0),.row 2 true (aL f),.row 0 true l,.at 0 b,.at tW N]
theorem aTQ (b N n m : Nat) (l : List At) (f : aN) : aX prog q0 tW (cL []) 40 (cA (cA lp4)) (lA2 b N n m l f) (lE b N n m l f 0) = some ([],.nrm,lE b N n m l f 0):=by kernel_rfl
theorem aXI (b N n m : Nat) (l : List At) (f : aN) (j : Nat) : aX prog q0 tW (cL [(36,.bool false)]) 40 lpE (lE b N n m l f j) (lA2 b N n m l f) = some ([aI .lss .i64 (Int.ofNat j) (Int.ofNat n) = some (.bool false)],.ex 4,lA2 b N n m l f):=by kernel_rfl
def T5f (l l1 : List At) (j : Nat) (f g : aN) : Tab5:=Nv.add 118 (pe1 l (50 * j) (oO f) (.one (.fl (oO g))) l1)
def qE (l l1 : List At) (j : Nat) (f g : aN) : EqT:=qPx prog (BL []) (BL []) (assoc [(40,j)]) (assoc []) (T5f l l1 j f g)
theorem aXH (b N n m j : Nat) (l l1 : List At) (f g : aN) : aX prog (qE l l1 j f g) tW (cL [(36,.bool true),(45,iI (j + 1))]) 40 lpE (lE b N n m l f j) (lE b N n m l1 g (j + 1)) =
  some ([aI .lss .i64 (Int.ofNat j) (Int.ofNat n) = some (.bool true),Int.ofNat j = Int.ofNat j,j < n,l = l,0 + j * 50 = 50 * j,aA (oO f) = aA (oO f),aI .add .i64 (Int.ofNat j) 1 = some (iI (j + 1))],.nrm,lE b N n m l1 g (j + 1)):=by kernel_rfl
theorem aTR (b N n m : Nat) (l : List At) (f : aN) : aX prog q0 tW (cL []) 40 (cB lp4) (lA2 b N n m l f) (lF b N l f) = some ([],.rt,lF b N l f):=by kernel_rfl
theorem aRo {Ws : List Wk} {j : Nat} {W : Wk} (h : Ws[j]? = some W) (f : aN) (d : Int) (hd : d = 0 ∨ d = 1 ∨ d = -1) : PtOk prog (T5i (rows Ws) (rows (Ws.set j (Wq np d W))) j f (aD.mul f (lf W.1 W.2.1 d W.2.2)) d) :=
 (eE _).ad func115 (aNd (Bh h f d hd))
theorem aRp {Ws : List Wk} {j : Nat} {a : Fq × Fq} {q : Q2 × Q2} {p : J2} (h : Ws[j]? = some (a,q,p)) (f : aN) (hq : On F2 dF (some q)) : PtOk prog (T5f (rows Ws) (rows (Ws.set j (enW (a,q,p)))) j f (aD.mul f (ew a q p))) :=
 (eE _).ad func118 (Eb (Tt h f hq))
section
variable {N n m b : Nat} {w0 : World} {Q : Exit → Act → World → Prop}
theorem aBX {Ws : List Wk} (hn : Ws.length = n) (hlt : n < 4611686018427387904) {f : aN} {k d : Int} {kk : Nat} (hk : k = Int.ofNat kk) (hkk : kk < 66) (hc : cellAt (dA KG) (0 + kk * 1) = some (.int .i64 d)) (hd : d = 0 ∨ d = 1 ∨ d = -1) {a : Act} {w : World}
  (h : Holds tW b w0 (lB b N n m (rows Ws) f k 0) a w) (hQ : ∀ a w,Holds tW b w0 (lA b N n m (rows (Ws.map (Wq np d))) (jG aD lf d f Ws) k) a w → Q .normal a w) : (Code.block 2 (.loop lpI)).wp prog Q a w:=by
 refine wp_block ?_;refine pI (fun j a w => Holds tW b w0 (lB b N n m (rows (GG (Wq np d) Ws j)) (jG aD lf d f (Ws.take j)) k j) a w) n (fun j hj a w hA R hR => ?_) (fun a w hA R => ?_) (by rw [aKk,List.take_zero]; exact h)
 ·obtain ⟨W,hW⟩ : ∃ W,Ws[j]? = some W:=⟨_,List.getElem?_eq_getElem (by omega)⟩
  have ht:=aRo (Kx (Wq np d) hW) (jG aD lf d f (Ws.take j)) d hd;rw [Kw (Wq np d) hW] at ht;rw [← Ey aD lf hW] at ht;refine aC aG (nI _ _ _) (jB ht _ _) (aXF b N n m j kk _ _ _ _ k d) ⟨bX hj,rfl,hj,hk,hkk,hc,rfl,by omega,rfl,rfl,kS (k:=1) (by omega),trivial⟩ hA fun a w hA => hR a w hA
 ·refine aC aG (nI _ _ _) (gO _ _) (aXG b N n m _ _ k n) ⟨eI (Nat.le_refl _),trivial⟩ hA fun a w hA => ?_
  subst hn;rw [Ky,List.take_length] at hA;exact hQ a w hA
theorem aIv {Ws : List Wk} (hn : Ws.length = n) (hlt : n < 4611686018427387904) (hq : ∀ W ∈ Ws,On F2 dF (some W.2.1)) {f : aN} {a : Act} {w : World}
  (h : Holds tW b w0 (lE b N n m (rows Ws) f 0) a w) (hQ : ∀ a w,Holds tW b w0 (lA2 b N n m (rows (Ws.map enW)) (lV aD ew f Ws)) a w → Q .normal a w) : (Code.block 4 (.loop lpE)).wp prog Q a w:=by
 refine wp_block ?_;refine pI (fun j a w => Holds tW b w0 (lE b N n m (rows (GG enW Ws j)) (lV aD ew f (Ws.take j)) j) a w) n (fun j hj a w hA R hR => ?_) (fun a w hA R => ?_) (by rw [aKk,List.take_zero]; exact h)
 ·obtain ⟨W,hW⟩ : ∃ W,Ws[j]? = some W:=⟨_,List.getElem?_eq_getElem (by omega)⟩
  obtain ⟨pa,pq,pp⟩:=W;have ht:=aRp (Kx enW hW) (lV aD ew f (Ws.take j)) (hq _ (List.mem_of_getElem? hW));rw [Kw enW hW] at ht;have e:=Ts aD ew (f:=f) hW;dsimp only at e;rw [← e] at ht;refine aC aG (nI _ _ _) (jB ht _ _) (aXH b N n m j _ _ _ _) ⟨bX hj,rfl,hj,rfl,by omega,rfl,kS (k:=1) (by omega),trivial⟩ hA fun a w hA => hR a w hA
 ·refine aC aG (nI _ _ _) (gO _ _) (aXI b N n m _ _ n) ⟨eI (Nat.le_refl _),trivial⟩ hA fun a w hA => ?_
  subst hn;rw [Ky,List.take_length] at hA;exact hQ a w hA
theorem aUS : (List.range 65).all (fun i => decide (tY.take (i + 1) = tY.take i ++ [dI KG (64 - i)]) && decide (dI KG (64 - i) = 0 ∨ dI KG (64 - i) = 1 ∨ dI KG (64 - i) = -1)) = true:=by kernel_rfl
theorem aPG {i : Nat} (h : i < 65) : tY.take (i + 1) = tY.take i ++ [dI KG (64 - i)] ∧ (dI KG (64 - i) = 0 ∨ dI KG (64 - i) = 1 ∨ dI KG (64 - i) = -1):=by
 have:=List.all_eq_true.1 aUS i (List.mem_range.2 h);rw [Bool.and_eq_true,decide_eq_true_eq,decide_eq_true_eq] at this;exact this
theorem aPF : tY.take 65 = tY:=by kernel_rfl
theorem aKa (k : Int) : aI .geq .i64 k 0 = some (.bool (decide (k ≥ 0))):=rfl
theorem aAw {Ws : List Wk} (hn : Ws.length = n) (hlt : n < 4611686018427387904) {f : aN} {a : Act} {w : World}
  (h : Holds tW b w0 (lA b N n m (rows Ws) f 64) a w) (hQ : ∀ a w,Holds tW b w0 (lA2 b N n m (rows (lZ aD lf np tY (f,Ws)).2) (lZ aD lf np tY (f,Ws)).1) a w → Q .normal a w) : (Code.block 0 (.loop lpO)).wp prog Q a w:=by
 refine wp_block ?_;refine pI (fun i a w => Holds tW b w0 (lA b N n m (rows (lZ aD lf np (tY.take i) (f,Ws)).2) (lZ aD lf np (tY.take i) (f,Ws)).1 (64 - (i : Int))) a w) 65 (fun i hi a w hA R hR => ?_) (fun a w hA R => ?_) (by rw [List.take_zero,show (64 : Int) - ((0 : Nat) : Int) = 64 from rfl]; exact h)
 ·obtain ⟨h1,h2⟩:=aPG hi;have hl:=EQ aD lf np (tY.take i) (f,Ws);rw [show lZ aD lf np (tY.take (i + 1)) (f,Ws) = _ from (congrArg (fun x => lZ aD lf np x (f,Ws)) h1).trans (VZ aD lf np _ _ _)] at hR;generalize lZ aD lf np (tY.take i) (f,Ws) = s at hA hR hl;have hR : ∀ a w,Holds tW b w0 (lA b N n m (rows (s.2.map (Wq np (dI KG (64 - i))))) (jG aD lf (dI KG (64 - i)) (aD.mul s.1 s.1) s.2) (64 - ((i + 1 : Nat) : Int))) a w → R a w:=hR
  rw [YM];refine wp_seq (aC aG (nI _ _ _) (gO _ _) (l_c b N n m _ _ _) ⟨by rw [aKa,decide_eq_true (by omega)],trivial⟩ hA fun a w hA => ?_);refine wp_seq (wp_block (wp_seq (aC aG (nI _ _ _) (gO _ _) (aXy b N n m _ _ _) trivial hA fun a w hA => ?_)));refine wp_seq (aC aG (nI _ _ _) (gO _ _) (aXD b N n m _ _ _) trivial hA fun a w hA => ?_);refine aBX (kk:=64 - i) (d:=dI KG (64 - i)) (hl.trans hn) hlt (by show (64 : Int) - (i : Int) = ((64 - i : Nat) : Int); omega) (by omega) (by rw [Nat.zero_add,Nat.mul_one]; exact RB KG _ (by show _ < 66; omega)) h2 hA fun a w hA => ?_
  refine aC aG (nI _ _ _) (gO _ _) (aXE b N n m _ _ _ (64 - ((i + 1 : Nat) : Int))) ⟨?_,trivial⟩ hA fun a w hA => hR a w hA
  show some (Value.int .i64 (IntKind.i64.wrap ((64 : Int) - (i : Int) - 1))) = _;rw [show (64 : Int) - (i : Int) - 1 = 64 - ((i + 1 : Nat) : Int) by omega,Ti _ (by omega) (by omega)]
 ·rw [YM];refine wp_seq (aC aG (nI _ _ _) (gO _ _) (l_x b N n m _ _ _) ⟨by rw [aKa,decide_eq_false (by omega)],trivial⟩ hA fun a w hA => ?_);rw [aPF] at hA;exact hQ a w hA
end
theorem Td (l : List ((Fq × Fq) × (Q2 × Q2))) (hlt : l.length < 4611686018427387904) (hq : ∀ x ∈ l,On F2 dF (some x.2)) {b m : Nat} {w : World} (hO : Own w b (rows (l.map bW))) :
  ∃ L,Calls prog 54 #[jW b 0 l.length m] w (Wr b w (.one (.fl (aL (xM l)))) L):=by
 have hw : (l.map bW).length = l.length:=List.length_map _;have hqw : ∀ W ∈ l.map bW,On F2 dF (some W.2.1):=fun W hW => by
  obtain ⟨x,hx,rfl⟩:=List.mem_map.1 hW;exact hq x hx
 have hL : xM l = lV aD ew (lZ aD lf np tY (aD.one,l.map bW)).1 (lZ aD lf np tY (aD.one,l.map bW)).2:=by with_unfolding_all rfl
 have hqr:=Yp aD lf np (fun q => On F2 dF (some q)) tY (aD.one,l.map bW) hqw;have hlr:=(EQ aD lf np tY (aD.one,l.map bW)).trans hw;rw [hL];clear hL;refine ⟨rows ((lZ aD lf np tY (aD.one,l.map bW)).2.map enW),?_⟩;refine ME (x:=.sl 0 0 l.length m) (v:=jW b 0 l.length m) (ts:=[]) func54 (c:=oH) rfl (fun β h => by simp [AV.den,jW,h]) hO (Nat.le_of_ble_eq_true (by kernel_rfl)) fun a w1 hA => ?_
 rw [aHC];refine wp_seq (aC aG (nI _ _ _) (gO _ _) (aXC b w.heap.size l.length m _) trivial hA fun a w2 hA => ?_);refine wp_seq (aC aG (nI _ _ _) (gO _ _) (aXB b w.heap.size l.length m _) trivial hA fun a w3 hA => ?_);refine wp_seq (aC aG (nI _ _ _) (gO _ _) (aXA b w.heap.size l.length m _ _) ⟨rfl,trivial⟩ hA fun a w4 hA => ?_);refine wp_seq (wp_seq (aC aG (nI _ _ _) (gO _ _) (aXz b w.heap.size l.length m _ _) trivial hA fun a w5 hA => ?_));refine aAw hw hlt hA fun a w6 hA => ?_
 generalize lZ aD lf np tY (aD.one,l.map bW) = s at hA hqr hlr ⊢;refine wp_seq (wp_seq (aC aG (nI _ _ _) (gO _ _) (aTQ b w.heap.size l.length m _ _) trivial hA fun a w7 hA => ?_));refine aIv hlr hlt hqr hA fun a w8 hA => ?_
 refine aC aG (nI _ _ _) (gO _ _) (aTR b w.heap.size l.length m _ _) trivial hA fun a w9 hA => ?_
 exact pJ (l:=[.fl (aL (lV aD ew s.1 s.2))]) (r:=.one (.fl (aL (lV aD ew s.1 s.2)))) (by kernel_rfl) (by kernel_rfl) hA ⟨rfl,hA.wrc (by simp [lF]) (by simp [lF]) (by simp [lF])⟩
def gE1 (m : List At) (r : RV) : lO
 | [.v (.fl l)] => some ([aA l = aA m],r)
 | _ => none
def gE2 (m m' : List At) (r : RV) : lO
 | [.v (.fl l),.v (.fl l')] => some ([aA l = aA m,aA l' = aA m'],r)
 | _ => none
theorem QQ {f : FuncId} {m : List At} {r0 : RV} (h : ∀ w,Good prog f r0 [.agg (aA m).toArray] w) : ∀ cs pre r,gE1 m r0 cs = some (pre,r) → aY pre → ∀ (args : List Value) (w : World),bR w cs args → Good prog f r args w:=by
 intro cs pre r hg hp args w ha;unfold gE1 at hg;split at hg
 ·cases hg;rw [BM ha,hp.1];exact h w
 ·cases hg
theorem Fp {f : FuncId} {m m' : List At} {r0 : RV} (h : ∀ w,Good prog f r0 [.agg (aA m).toArray,.agg (aA m').toArray] w) : ∀ cs pre r,gE2 m m' r0 cs = some (pre,r) → aY pre → ∀ (args : List Value) (w : World),bR w cs args → Good prog f r args w:=by
 intro cs pre r hg hp args w ha;unfold gE2 at hg;split at hg
 ·cases hg;rw [NB ha,hp.1,hp.2.1];exact h w
 ·cases hg
theorem aHP {Q : C2} (h : oJ Q) : Tg (KM Q.1) = true:=by
 unfold Tg;rw [aSn,tM2,aEJ,(Fe Q).2 h];exact decide_eq_true ⟨rfl,rfl⟩
def k0 : RV:=.one (.im (.int .i64 0))
theorem Xc (p : nM) : aW prog (qG prog) (wq JB) f107 60 [.v (.fl (rC p))] = some ([],.one (.im (.int .i64 (RK p.1 p.2.1 p.2.2).1))):=by kernel_rfl
theorem aWe (P : C1) (w : World) : Good prog 107 k0 [.agg (aA (gC P.1)).toArray] w:=by
 have h:=aB aG (fun _ _ => zD) (aK _) func107 (Xc (Vx P.1)) trivial (args:=[.agg (aA (gC P.1)).toArray]) (w:=w) ⟨rfl,trivial⟩;rw [show (RK (Vx P.1).1 (Vx P.1).2.1 (Vx P.1).2.2).1 = 0 from tC1 P] at h;exact h
theorem aXk (p : jP) : JB 161 [.v (.fl (jS p))] = some ([],.one (.im (.int .i64 (rM p.1 p.2.1 p.2.2).1))):=by kernel_rfl
theorem aXM (p : jP) : JB 162 [.v (.fl (jS p))] = some ([],.one (.im (.bool (Tg p)))):=by kernel_rfl
def aVv (m : List At) : Tab:=(JB.add 161 (gE1 m k0)).add 162 (gE1 m (.one (.im (.bool true))))
theorem aTy {Q : C2} (h : oJ Q) : TabOk prog (aVv (eC Q.1)):=(zD.ad func161 (QQ fun w => by
  have h:=(zD _ _ _ _ (aXk (KM Q.1)) trivial).2 [.agg (aA (eC Q.1)).toArray] w ⟨rfl,trivial⟩;rw [show (rM (KM Q.1).1 (KM Q.1).2.1 (KM Q.1).2.2).1 = 0 from tC2 Q] at h;exact h)).ad func162 (QQ fun w => by
  have h:=(zD _ _ _ _ (aXM (KM Q.1)) trivial).2 [.agg (aA (eC Q.1)).toArray] w ⟨rfl,trivial⟩;rw [aHP ‹oJ Q›] at h;exact h)
theorem Xb (q : Pt Q2) : aW prog (qG prog) (wq (aVv (eC q))) f108 60 [.v (.fl (eC q))] = some ([aA (eC q) = aA (eC q),aA (eC q) = aA (eC q)],k0):=by kernel_rfl
theorem aWd {Q : C2} (h : oJ Q) (w : World) : Good prog 108 k0 [.agg (aA (eC Q.1)).toArray] w :=
 aB aG (fun _ _ => aTy h) (aK _) func108 (Xb Q.1) ⟨rfl,rfl,trivial⟩ ⟨rfl,trivial⟩
def aVu (p : Pt Fq) (q : Pt Q2) : Tab:=(vQ.add 107 (gE1 (gC p) k0)).add 108 (gE1 (eC q) k0)
theorem aTx (P : C1) {Q : C2} (h : oJ Q) : TabOk prog (aVu P.1 Q.1):=(nV.ad func107 (QQ (aWe P))).ad func108 (QQ (aWd h))
theorem OE (p : Pt Fq) (q : Pt Q2) : aW prog (qG prog) (wq (aVu p q)) f51 60 [.v (.fl (gC p)),.v (.fl (eC q))] = some ([aA (gC p) = aA (gC p),aA (eC q) = aA (eC q)],k0):=by kernel_rfl
theorem Bo (a : Fq × Fq) (q : Q2 × Q2) : aW prog (qG prog) (wq vQ) f52 60 [.v (.fl (JG a)),.v (.fl (jR q))] = some ([],.one (.fl (wA (bW (a,q))))):=by kernel_rfl
def CI (p : Pt Fq) (q : Pt Q2) (a : Fq × Fq) (q' : Q2 × Q2) : Tab:=(vQ.add 51 (gE2 (gC p) (eC q) k0)).add 52 (gE2 (JG a) (jR q') (.one (.fl (wA (bW (a,q'))))))
theorem aTt (P : C1) {Q : C2} (h : oJ Q) (a : Fq × Fq) (q' : Q2 × Q2) : TabOk prog (CI P.1 Q.1 a q'):=(nV.ad func51 (Fp fun w => aB aG (fun _ _ => aTx P h) (aK _) func51 (OE P.1 Q.1) ⟨rfl,rfl,trivial⟩ ⟨rfl,rfl,trivial⟩)).add
 func52 (by kernel_rfl) (by kernel_rfl) (Fp fun w => aB aG (fun _ _ => nV) (aK _) func52 (Bo a q') trivial ⟨rfl,rfl,trivial⟩)
def oLa (z : aN) : List Prop × RV:=([z ≠ aD.zero],.one (.fl (aL (iO z))))
theorem aRU (z : aN) : aRl 53 [.v (.fl (aL z))] = some ([sF (eD (gR z)) ≠ F1.zero],.one (.fl (aL (iO (eD (gR z)))))):=by kernel_rfl
theorem wla (z : aN) (hz : z ≠ aD.zero) (args : List Value) (w : World) (ha : bR w [.v (.fl (aL z))] args) : Good prog 53 (.one (.fl (aL (iO z)))) args w:=by
 have h:=(aJV _ _ _ _ (aRU z) ⟨by rw [fA]; exact fun e => hz (pF e),trivial⟩).2 args w ha;rw [fA] at h;exact h
def Ll (l : List At) : Bool:=match l with
 | [.f a,.f b,.f c,.f d,.f e,.f f,.f g,.f h,.f i,.f j,.f k,.f l] => Nat.beq a.1 1 && (Nat.beq b.1 0 && (Nat.beq c.1 0 && (Nat.beq d.1 0 && (Nat.beq e.1 0 && (Nat.beq f.1 0 && (Nat.beq g.1 0 && (Nat.beq h.1 0 && (Nat.beq i.1 0 && (Nat.beq j.1 0 && (Nat.beq k.1 0 && Nat.beq l.1 0))))))))))
 | _ => false
theorem Fc {l : List At} (h : Ll l = true) : aA l = aA (aL aD.one):=by
 unfold Ll at h;split at h
 ·simp only [Bool.and_eq_true] at h;obtain ⟨h1,h2,h3,h4,h5,h6,h7,h8,h9,h10,h11,h12⟩:=h;show w4 _ ++ (w4 _ ++ (w4 _ ++ (w4 _ ++ (w4 _ ++ (w4 _ ++ (w4 _ ++ (w4 _ ++ (w4 _ ++ (w4 _ ++ (w4 _ ++ (w4 _ ++ []))))))))))) = w4 1 ++ (w4 0 ++ (w4 0 ++ (w4 0 ++ (w4 0 ++ (w4 0 ++ (w4 0 ++ (w4 0 ++ (w4 0 ++ (w4 0 ++ (w4 0 ++ (w4 0 ++ [])))))))))));rw [Nat.eq_of_beq_eq_true h1,Nat.eq_of_beq_eq_true h2,Nat.eq_of_beq_eq_true h3,Nat.eq_of_beq_eq_true h4,Nat.eq_of_beq_eq_true h5,Nat.eq_of_beq_eq_true h6,Nat.eq_of_beq_eq_true h7,Nat.eq_of_beq_eq_true h8,Nat.eq_of_beq_eq_true h9,Nat.eq_of_beq_eq_true h10,Nat.eq_of_beq_eq_true h11,Nat.eq_of_beq_eq_true h12]
 ·cases h
def aOQ : lO
 | [.v (.fl l)] => bif Ll l then some ([],.one (.fl (aL aD.one))) else none
 | _ => none
theorem aSs (z : aN) : vQ 114 [.v (.fl (aL z))] = some ([],.one (.fl (aL (aD.mul z z)))):=by kernel_rfl
theorem aHZ : ∀ cs pre r,aOQ cs = some (pre,r) → aY pre → ∀ (args : List Value) (w : World),bR w cs args → Good prog 114 r args w:=by
 intro cs pre r hg hp args w ha;unfold aOQ at hg;split at hg
 ·rename_i l;cases hb : Ll l <;> rw [hb] at hg
  ·cases hg
  ·cases hg;rw [BM ha,Fc hb];have h:=(nV _ _ _ _ (aSs aD.one) trivial).2 [.agg (aA (aL aD.one)).toArray] w ⟨rfl,trivial⟩;rw [aD.one_mul] at h;exact h
 ·cases hg
def aVr : Tab:=vQ.add 114 aOQ
theorem aTu : TabOk prog aVr:=nV.ad func114 aHZ
theorem aFI : aW prog (qG prog) (wq aVr) f54 300 [.v (.im (.slice none 0 0))] = some ([Ld = Ld],.one (.fl (aL aD.one))):=by kernel_rfl
def oG : Code:=(f20.body).getD .skip
def AO : Nat:=f20.ntmps
def pr3 : Code:=cA (cB (cB (cB oG)))
def pr4 : Code:=cB (cB (cB (cB oG)))
def Am : Code:=pS (pS (cB pr3))
theorem aGP : oG = .seq (cA oG) (.seq (cA (cB oG)) (.seq (cA (cB (cB oG))) (.seq (.seq (cA pr3) (.block 0 (.loop Am))) pr4))):=by kernel_rfl
def wF : List Wk → List Fact
 | [] => [.slot 6 (.im (.slice none 0 0))]
 | W :: r => [.slot 6 (.so 63 (r.length + 1)),.row 63 true (rows (W :: r)),.app 63 109 50 (r.length + 1)]
def pA0 (n m m' : Nat) (lp lq : List At) : List Fact:=[.slot 0 (.sl 0 0 n m),.row 0 false lp,.slot 1 (.sl 1 0 n m'),.row 1 false lq,.slot 4 (.pt 4 0),.row 4 true (aL aD.zero)]
def pA1 (n m m' : Nat) (lp lq : List At) (Ws : List Wk) : List Fact:=[.slot 0 (.sl 0 0 n m),.row 0 false lp,.slot 1 (.sl 1 0 n m'),.row 1 false lq,.slot 4 (.pt 4 0),.row 4 true (aL aD.zero)] ++ wF Ws
def pB (n m m' : Nat) (lp lq : List At) (i : Nat) (Ws : List Wk) : List Fact:=[.slot 0 (.sl 0 0 n m),.row 0 false lp,.slot 1 (.sl 1 0 n m'),.row 1 false lq,.slot 4 (.pt 4 0),.row 4 true (aL aD.zero),.slot 21 (.im (iI n)),.slot 22 (.im (iI i))] ++ wF Ws
def pA3 (Ws : List Wk) : List Fact:=[.slot 4 (.pt 4 0),.row 4 true (aL aD.zero)] ++ wF Ws
def cP (T : Tab) (l : List (Nat × Value)) : Nat → Cfg:=fun _ => ⟨fun _ => T,fun _ => true,assoc l⟩
theorem aWQ (n m m' : Nat) (lp lq : List At) : aX prog q0 AO (cP vQ []) 40 (cA oG) (kZ 0 [.s lp n m,.s lq n m']) (pA0 n m m' lp lq) = some ([],.nrm,pA0 n m m' lp lq):=by kernel_rfl
theorem aWP (n m m' : Nat) (lp lq : List At) : aX prog q0 AO (cP vQ [(13,.bool false),(17,.bool false)]) 40 (cA (cB oG)) (pA0 n m m' lp lq) (pA0 n m m' lp lq) = some ([aI .neq .i64 (Int.ofNat n) (Int.ofNat n) = some (.bool false),aI .gtr .i64 (Int.ofNat n) 256 = some (.bool false)],.nrm,pA0 n m m' lp lq):=by kernel_rfl
theorem aWO (n m m' : Nat) (lp lq : List At) : aX prog q0 AO (cP vQ []) 40 (cA (cB (cB oG))) (pA0 n m m' lp lq) (pA1 n m m' lp lq []) = some ([],.nrm,pA1 n m m' lp lq []):=by kernel_rfl
theorem aWN (n m m' : Nat) (lp lq : List At) : aX prog q0 AO (cP vQ []) 40 (cA pr3) (pA1 n m m' lp lq []) (pB n m m' lp lq 0 []) = some ([],.nrm,pB n m m' lp lq 0 []):=by kernel_rfl
def qR (i : Nat) (p : Pt Fq) (q : Pt Q2) (a : Fq × Fq) (q' : Q2 × Q2) : EqT:=qPx prog (BL [(28,gC p),(32,eC q),(56,JG a),(60,jR q')]) (BL []) (assoc [(27,i),(31,i),(40,i),(47,i),(55,i),(59,i)]) (assoc [(42,.bool (uG p)),(49,.bool (uG q))]) Nv
def pN {α : Type} (g : α → List At) : List α → List At
 | [] => []
 | x :: r => g x ++ pN g r
theorem IG {α : Type} (g : α → List At) : ∀ a b : List α,pN g (a ++ b) = pN g a ++ pN g b
 | [],b => rfl
 | x :: a,b => by show g x ++ pN g (a ++ b) = (g x ++ pN g a) ++ pN g b; rw [IG g a b,List.append_assoc]
theorem RP {α : Type} {g : α → List At} {c : Nat} (h : ∀ x,cS (g x) = c) : ∀ l : List α,cS (pN g l) = l.length * c
 | [] => by rw [List.length_nil,Nat.zero_mul]; rfl
 | x :: r => by
  show cS (g x ++ pN g r) = _;rw [vJ,h,RP h r,List.length_cons,Nat.succ_mul,Nat.add_comm]
theorem UF {α : Type} {g : α → List At} {c : Nat} (h : ∀ x,cS (g x) = c) {l : List α} {j : Nat} {x : α} (hj : l[j]? = some x) : fO (pN g l) (0 + j * c) c = some (g x):=by
 obtain ⟨a,b,rfl,rfl,_⟩:=nJ hj;rw [IG,Nat.zero_add,← RP h];show fO (pN g a ++ (g x ++ pN g b)) _ c = _;unfold fO;rw [show cS (pN g a) = cS (pN g a) + 0 from rfl,DD,Ms];show tk (g x ++ pN g b) c = _;have:=NV (g x) (pN g b)
 rwa [h] at this
theorem ZY : ∀ (x y : List At) (m : Nat),cellAt (x ++ y) (cS x + m) = cellAt y m
 | [],y,m => by show cellAt y (0 + m) = _; rw [Nat.zero_add]
 | a :: x,y,m => by
  show (bif Nat.blt (a.sz + cS x + m) a.sz then a.cells[a.sz + cS x + m]? else cellAt (x ++ y) (a.sz + cS x + m - a.sz)) = _;have e : Nat.blt (a.sz + cS x + m) a.sz = false:=by
   cases hb : Nat.blt (a.sz + cS x + m) a.sz
   ·rfl
   ·have : a.sz + cS x + m < a.sz:=by simpa using hb
    omega
  rw [e,show a.sz + cS x + m - a.sz = cS x + m by omega];exact ZY x y m
theorem MY {α : Type} {g : α → List At} {c o : Nat} {v : Value} (h : ∀ x,cS (g x) = c) {l : List α} {j : Nat} {x : α} (hj : l[j]? = some x) (hv : ∀ y,cellAt (g x ++ y) o = some v) : cellAt (pN g l) (0 + j * c + o) = some v:=by
 obtain ⟨a,b,rfl,rfl,_⟩:=nJ hj;rw [IG,Nat.zero_add,← RP h,ZY];exact hv (pN g b)
def Zk (l : List C1) : List At:=pN (fun P => gC P.1) l
def Zj (l : List C2) : List At:=pN (fun P => eC P.1) l
def rdA (n i : Nat) (lp lq : List At) (p : Pt Fq) (q : Pt Q2) : Prop:=i < n ∧ fO lp (0 + i * 9) 9 = some (gC p) ∧ fO lq (0 + i * 17) 17 = some (eC q) ∧ cellAt lp (0 + i * 9 + 8) = some (.bool (uG p)) ∧ cellAt lq (0 + i * 17 + 16) = some (.bool (uG q))
theorem aML {Ps : List C1} {Qs : List C2} {i n : Nat} (hi : i < n) {P : C1} {Q : C2} (hP : Ps[i]? = some P) (hQ : Qs[i]? = some Q) : rdA n i (Zk Ps) (Zj Qs) P.1 Q.1 :=
 ⟨hi,UF (g:=fun P : C1 => gC P.1) (c:=9) (fun _ => rfl) hP,UF (g:=fun P : C2 => eC P.1) (c:=17) (fun _ => rfl) hQ,MY (g:=fun P : C1 => gC P.1) (c:=9) (o:=8) (v:=.bool (uG P.1)) (fun _ => rfl) hP fun y => rfl,MY (g:=fun P : C2 => eC P.1) (c:=17) (o:=16) (v:=.bool (uG Q.1)) (fun _ => rfl) hQ fun y => rfl⟩
def zq : Fq × Fq:=(F1.zero,F1.zero)
def SV : Q2 × Q2:=(F2.zero,F2.zero)
def lR (i : Nat) : List (Nat × Value):=[(23,.bool true),(64,iI (i + 1))]
theorem aTn (n m m' i : Nat) (lp lq : List At) : aX prog (qR i none none zq SV) AO (cP (CI none none zq SV) (lR i)) 40 Am (pB n m m' lp lq i []) (pB n m m' lp lq (i + 1) []) = some ([aI .lss .i64 (Int.ofNat i) (Int.ofNat n) = some (.bool true),Int.ofNat i = Int.ofNat i,i < n,fO lp (0 + i * 9) 9 = some (gC none),Int.ofNat i = Int.ofNat i,i < n,fO lq (0 + i * 17) 17 = some (eC none),aA (gC none) = aA (gC none),aA (eC none) = aA (eC none),Int.ofNat i = Int.ofNat i,i < n,cellAt lp (0 + i * 9 + 8) = some (.bool (uG (none : Pt Fq))),aI .add .i64 (Int.ofNat i) 1 = some (iI (i + 1))],.nrm,pB n m m' lp lq (i + 1) []):=by kernel_rfl
theorem aTl (n m m' i : Nat) (lp lq : List At) (q : Q2 × Q2) : aX prog (qR i none (some q) zq SV) AO (cP (CI none (some q) zq SV) (lR i)) 40 Am (pB n m m' lp lq i []) (pB n m m' lp lq (i + 1) []) = some ([aI .lss .i64 (Int.ofNat i) (Int.ofNat n) = some (.bool true),Int.ofNat i = Int.ofNat i,i < n,fO lp (0 + i * 9) 9 = some (gC none),Int.ofNat i = Int.ofNat i,i < n,fO lq (0 + i * 17) 17 = some (eC (some q)),aA (gC none) = aA (gC none),aA (eC (some q)) = aA (eC (some q)),Int.ofNat i = Int.ofNat i,i < n,cellAt lp (0 + i * 9 + 8) = some (.bool (uG (none : Pt Fq))),aI .add .i64 (Int.ofNat i) 1 = some (iI (i + 1))],.nrm,pB n m m' lp lq (i + 1) []):=by kernel_rfl
theorem aXb (n m m' i : Nat) (lp lq : List At) (a : Fq × Fq) : aX prog (qR i (some a) none zq SV) AO (cP (CI (some a) none zq SV) (lR i)) 40 Am (pB n m m' lp lq i []) (pB n m m' lp lq (i + 1) []) = some ([aI .lss .i64 (Int.ofNat i) (Int.ofNat n) = some (.bool true),Int.ofNat i = Int.ofNat i,i < n,fO lp (0 + i * 9) 9 = some (gC (some a)),Int.ofNat i = Int.ofNat i,i < n,fO lq (0 + i * 17) 17 = some (eC none),aA (gC (some a)) = aA (gC (some a)),aA (eC none) = aA (eC none),Int.ofNat i = Int.ofNat i,i < n,cellAt lp (0 + i * 9 + 8) = some (.bool (uG (some a))),Int.ofNat i = Int.ofNat i,i < n,cellAt lq (0 + i * 17 + 16) = some (.bool (uG (none : Pt Q2))),aI .add .i64 (Int.ofNat i) 1 = some (iI (i + 1))],.nrm,pB n m m' lp lq (i + 1) []):=by kernel_rfl
theorem aTm (n m m' i : Nat) (lp lq : List At) (W : Wk) (r : List Wk) : aX prog (qR i none none zq SV) AO (cP (CI none none zq SV) (lR i)) 40 Am (pB n m m' lp lq i (W :: r)) (pB n m m' lp lq (i + 1) (W :: r)) = some ([aI .lss .i64 (Int.ofNat i) (Int.ofNat n) = some (.bool true),Int.ofNat i = Int.ofNat i,i < n,fO lp (0 + i * 9) 9 = some (gC none),Int.ofNat i = Int.ofNat i,i < n,fO lq (0 + i * 17) 17 = some (eC none),aA (gC none) = aA (gC none),aA (eC none) = aA (eC none),Int.ofNat i = Int.ofNat i,i < n,cellAt lp (0 + i * 9 + 8) = some (.bool (uG (none : Pt Fq))),aI .add .i64 (Int.ofNat i) 1 = some (iI (i + 1))],.nrm,pB n m m' lp lq (i + 1) (W :: r)):=by kernel_rfl
theorem aTk (n m m' i : Nat) (lp lq : List At) (q : Q2 × Q2) (W : Wk) (r : List Wk) : aX prog (qR i none (some q) zq SV) AO (cP (CI none (some q) zq SV) (lR i)) 40 Am (pB n m m' lp lq i (W :: r)) (pB n m m' lp lq (i + 1) (W :: r)) = some ([aI .lss .i64 (Int.ofNat i) (Int.ofNat n) = some (.bool true),Int.ofNat i = Int.ofNat i,i < n,fO lp (0 + i * 9) 9 = some (gC none),Int.ofNat i = Int.ofNat i,i < n,fO lq (0 + i * 17) 17 = some (eC (some q)),aA (gC none) = aA (gC none),aA (eC (some q)) = aA (eC (some q)),Int.ofNat i = Int.ofNat i,i < n,cellAt lp (0 + i * 9 + 8) = some (.bool (uG (none : Pt Fq))),aI .add .i64 (Int.ofNat i) 1 = some (iI (i + 1))],.nrm,pB n m m' lp lq (i + 1) (W :: r)):=by kernel_rfl
theorem aXa (n m m' i : Nat) (lp lq : List At) (a : Fq × Fq) (W : Wk) (r : List Wk) : aX prog (qR i (some a) none zq SV) AO (cP (CI (some a) none zq SV) (lR i)) 40 Am (pB n m m' lp lq i (W :: r)) (pB n m m' lp lq (i + 1) (W :: r)) = some ([aI .lss .i64 (Int.ofNat i) (Int.ofNat n) = some (.bool true),Int.ofNat i = Int.ofNat i,i < n,fO lp (0 + i * 9) 9 = some (gC (some a)),Int.ofNat i = Int.ofNat i,i < n,fO lq (0 + i * 17) 17 = some (eC none),aA (gC (some a)) = aA (gC (some a)),aA (eC none) = aA (eC none),Int.ofNat i = Int.ofNat i,i < n,cellAt lp (0 + i * 9 + 8) = some (.bool (uG (some a))),Int.ofNat i = Int.ofNat i,i < n,cellAt lq (0 + i * 17 + 16) = some (.bool (uG (none : Pt Q2))),aI .add .i64 (Int.ofNat i) 1 = some (iI (i + 1))],.nrm,pB n m m' lp lq (i + 1) (W :: r)):=by kernel_rfl
theorem aWZ (n m m' i : Nat) (lp lq : List At) (a : Fq × Fq) (q : Q2 × Q2) : aX prog (qR i (some a) (some q) a q) AO (cP (CI (some a) (some q) a q) (lR i)) 40 Am (pB n m m' lp lq i []) (pB n m m' lp lq (i + 1) [bW (a,q)]) = some ([aI .lss .i64 (Int.ofNat i) (Int.ofNat n) = some (.bool true),Int.ofNat i = Int.ofNat i,i < n,fO lp (0 + i * 9) 9 = some (gC (some a)),Int.ofNat i = Int.ofNat i,i < n,fO lq (0 + i * 17) 17 = some (eC (some q)),aA (gC (some a)) = aA (gC (some a)),aA (eC (some q)) = aA (eC (some q)),Int.ofNat i = Int.ofNat i,i < n,cellAt lp (0 + i * 9 + 8) = some (.bool (uG (some a))),Int.ofNat i = Int.ofNat i,i < n,cellAt lq (0 + i * 17 + 16) = some (.bool (uG (some q))),Int.ofNat i = Int.ofNat i,i < n,fO lp (0 + i * 9) 9 = some (JG a),Int.ofNat i = Int.ofNat i,i < n,fO lq (0 + i * 17) 17 = some (jR q),aA (JG a) = aA (JG a),aA (jR q) = aA (jR q),aI .add .i64 (Int.ofNat i) 1 = some (iI (i + 1))],.nrm,pB n m m' lp lq (i + 1) [bW (a,q)]):=by kernel_rfl
theorem aWY (n m m' i : Nat) (lp lq : List At) (a : Fq × Fq) (q : Q2 × Q2) (W0 : Wk) : aX prog (qR i (some a) (some q) a q) AO (cP (CI (some a) (some q) a q) (lR i)) 40 Am (pB n m m' lp lq i [W0]) (pB n m m' lp lq (i + 1) [W0,bW (a,q)]) = some ([aI .lss .i64 (Int.ofNat i) (Int.ofNat n) = some (.bool true),Int.ofNat i = Int.ofNat i,i < n,fO lp (0 + i * 9) 9 = some (gC (some a)),Int.ofNat i = Int.ofNat i,i < n,fO lq (0 + i * 17) 17 = some (eC (some q)),aA (gC (some a)) = aA (gC (some a)),aA (eC (some q)) = aA (eC (some q)),Int.ofNat i = Int.ofNat i,i < n,cellAt lp (0 + i * 9 + 8) = some (.bool (uG (some a))),Int.ofNat i = Int.ofNat i,i < n,cellAt lq (0 + i * 17 + 16) = some (.bool (uG (some q))),Int.ofNat i = Int.ofNat i,i < n,fO lp (0 + i * 9) 9 = some (JG a),Int.ofNat i = Int.ofNat i,i < n,fO lq (0 + i * 17) 17 = some (jR q),aA (JG a) = aA (JG a),aA (jR q) = aA (jR q),aI .add .i64 (Int.ofNat i) 1 = some (iI (i + 1))],.nrm,pB n m m' lp lq (i + 1) [W0,bW (a,q)]):=by kernel_rfl
theorem aWX (n m m' i : Nat) (lp lq : List At) (a : Fq × Fq) (q : Q2 × Q2) (W0 W1 : Wk) : aX prog (qR i (some a) (some q) a q) AO (cP (CI (some a) (some q) a q) (lR i)) 40 Am (pB n m m' lp lq i [W0,W1]) (pB n m m' lp lq (i + 1) [W0,W1,bW (a,q)]) = some ([aI .lss .i64 (Int.ofNat i) (Int.ofNat n) = some (.bool true),Int.ofNat i = Int.ofNat i,i < n,fO lp (0 + i * 9) 9 = some (gC (some a)),Int.ofNat i = Int.ofNat i,i < n,fO lq (0 + i * 17) 17 = some (eC (some q)),aA (gC (some a)) = aA (gC (some a)),aA (eC (some q)) = aA (eC (some q)),Int.ofNat i = Int.ofNat i,i < n,cellAt lp (0 + i * 9 + 8) = some (.bool (uG (some a))),Int.ofNat i = Int.ofNat i,i < n,cellAt lq (0 + i * 17 + 16) = some (.bool (uG (some q))),Int.ofNat i = Int.ofNat i,i < n,fO lp (0 + i * 9) 9 = some (JG a),Int.ofNat i = Int.ofNat i,i < n,fO lq (0 + i * 17) 17 = some (jR q),aA (JG a) = aA (JG a),aA (jR q) = aA (jR q),aI .add .i64 (Int.ofNat i) 1 = some (iI (i + 1))],.nrm,pB n m m' lp lq (i + 1) [W0,W1,bW (a,q)]):=by kernel_rfl
theorem aWW (n m m' i : Nat) (lp lq : List At) (a : Fq × Fq) (q : Q2 × Q2) (W0 W1 W2 : Wk) : aX prog (qR i (some a) (some q) a q) AO (cP (CI (some a) (some q) a q) (lR i)) 40 Am (pB n m m' lp lq i [W0,W1,W2]) (pB n m m' lp lq (i + 1) [W0,W1,W2,bW (a,q)]) = some ([aI .lss .i64 (Int.ofNat i) (Int.ofNat n) = some (.bool true),Int.ofNat i = Int.ofNat i,i < n,fO lp (0 + i * 9) 9 = some (gC (some a)),Int.ofNat i = Int.ofNat i,i < n,fO lq (0 + i * 17) 17 = some (eC (some q)),aA (gC (some a)) = aA (gC (some a)),aA (eC (some q)) = aA (eC (some q)),Int.ofNat i = Int.ofNat i,i < n,cellAt lp (0 + i * 9 + 8) = some (.bool (uG (some a))),Int.ofNat i = Int.ofNat i,i < n,cellAt lq (0 + i * 17 + 16) = some (.bool (uG (some q))),Int.ofNat i = Int.ofNat i,i < n,fO lp (0 + i * 9) 9 = some (JG a),Int.ofNat i = Int.ofNat i,i < n,fO lq (0 + i * 17) 17 = some (jR q),aA (JG a) = aA (JG a),aA (jR q) = aA (jR q),aI .add .i64 (Int.ofNat i) 1 = some (iI (i + 1))],.nrm,pB n m m' lp lq (i + 1) [W0,W1,W2,bW (a,q)]):=by kernel_rfl
theorem aWV (n m m' i : Nat) (lp lq : List At) (a : Fq × Fq) (q : Q2 × Q2) (W0 W1 W2 W3 : Wk) : aX prog (qR i (some a) (some q) a q) AO (cP (CI (some a) (some q) a q) (lR i)) 40 Am (pB n m m' lp lq i [W0,W1,W2,W3]) (pB n m m' lp lq (i + 1) [W0,W1,W2,W3,bW (a,q)]) = some ([aI .lss .i64 (Int.ofNat i) (Int.ofNat n) = some (.bool true),Int.ofNat i = Int.ofNat i,i < n,fO lp (0 + i * 9) 9 = some (gC (some a)),Int.ofNat i = Int.ofNat i,i < n,fO lq (0 + i * 17) 17 = some (eC (some q)),aA (gC (some a)) = aA (gC (some a)),aA (eC (some q)) = aA (eC (some q)),Int.ofNat i = Int.ofNat i,i < n,cellAt lp (0 + i * 9 + 8) = some (.bool (uG (some a))),Int.ofNat i = Int.ofNat i,i < n,cellAt lq (0 + i * 17 + 16) = some (.bool (uG (some q))),Int.ofNat i = Int.ofNat i,i < n,fO lp (0 + i * 9) 9 = some (JG a),Int.ofNat i = Int.ofNat i,i < n,fO lq (0 + i * 17) 17 = some (jR q),aA (JG a) = aA (JG a),aA (jR q) = aA (jR q),aI .add .i64 (Int.ofNat i) 1 = some (iI (i + 1))],.nrm,pB n m m' lp lq (i + 1) [W0,W1,W2,W3,bW (a,q)]):=by kernel_rfl
theorem p_x (n m m' i : Nat) (lp lq : List At) : aX prog q0 AO (cP vQ [(23,.bool false)]) 40 Am (pB n m m' lp lq i []) (pA3 []) = some ([aI .lss .i64 (Int.ofNat i) (Int.ofNat n) = some (.bool false)],.ex 0,pA3 []):=by kernel_rfl
theorem p_y (n m m' i : Nat) (lp lq : List At) (W : Wk) (r : List Wk) : aX prog q0 AO (cP vQ [(23,.bool false)]) 40 Am (pB n m m' lp lq i (W :: r)) (pA3 (W :: r)) = some ([aI .lss .i64 (Int.ofNat i) (Int.ofNat n) = some (.bool false)],.ex 0,pA3 (W :: r)):=by kernel_rfl
end Go.Proofs.YtglgakbkdjhojaaGreat.Ex
