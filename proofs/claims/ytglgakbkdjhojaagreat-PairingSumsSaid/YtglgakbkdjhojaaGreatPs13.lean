/- Ps13 -/
import Derived.Test.YtglgakbkdjhojaaGreatPs02
import Derived.Test.YtglgakbkdjhojaaGreatPs12
import Derived.Test.YtglgakbkdjhojaaGreatPs07
import Derived.Test.YtglgakbkdjhojaaGreatPs08
import Derived.Test.YtglgakbkdjhojaaGreatProg
set_option maxRecDepth 100000
set_option linter.unusedVariables false
set_option linter.unusedSimpArgs false
noncomputable section
namespace Go.Proofs.YtglgakbkdjhojaaGreat.Ex
open Go.Proofs.Tryz
open Go.RowKit
theorem Holds.post {nt base : Nat} {w0 : World} {A : List Fact} {a : Act} {w : World} (h : Holds nt base w0 A a w) {dst kill : Option Nat} {out : List Fact} {a' : Act} {w' : World}
  (hP : ∀ β,(∀ φ ∈ A,φ.ok base β a w) → ∃ β',PostB base β β' a w dst A out kill a' w') (hd : oW dst nt = false:=by kernel_rfl) : Holds nt base w0 (out ++ A.filter (fun φ => !(kT dst kill φ))) a' w':=by
 obtain ⟨β,g1,g2,g3,gt⟩:=h.facts;obtain ⟨β',P⟩:=hP β g1;have hkill : ∀ φ ∈ A,kT dst kill φ = false → ∀ kk k CT l,kill = some kk → φ = .row k CT l → (β kk).1 ≠ (β k).1:=fun φ hφ hc kk k CT l hkk e => by
  obtain ⟨l0,hl0⟩:=P.kills kk hkk;have hne : kk ≠ k:=fun e2 => by
   rw [e] at hc;simp only [kT,Bool.or_eq_false_iff] at hc;have:=dH.2 (e2 ▸ hkk : kill = some k);rw [hc.2] at this; cases this
  subst e;cases CT with
  | true => exact g2 kk k l0 l hl0 hφ hne
  | false =>
   have h1:=(g1 _ hl0).2.2.1 rfl;have h2:=(g1 _ hφ).2.2.2 rfl;have:=h1.1;omega
 have hmem : ∀ φ ∈ A.filter (fun φ => !(kT dst kill φ)),φ ∈ A ∧ kT dst kill φ = false:=fun φ hφ => by
  obtain ⟨h1,h2⟩:=List.mem_filter.1 hφ;exact ⟨h1,by simpa using h2⟩
 have hβ : ∀ k CT l,Fact.row k CT l ∈ A.filter (fun φ => !(kT dst kill φ)) → β' k = β k:=fun k CT l hφ => by
  obtain ⟨_,hc⟩:=hmem _ hφ;simp only [kT,Bool.or_eq_false_iff] at hc;exact P.beta k fun e => by have:=dH.2 e; rw [hc.1] at this; cases this
 have hno : ∀ k l k' l',Fact.row k true l ∈ out → Fact.row k' true l' ∈ A.filter (fun φ => !(kT dst kill φ)) → k ≠ k' → (β' k).1 ≠ (β' k').1:=fun k l k' l' hk hk' hne => by
  rw [hβ k' true l' hk'];obtain ⟨hA',hc⟩:=hmem _ hk'
  rcases P.rows k l hk with ⟨h2,_⟩ | ⟨h2,l0,h3⟩ | ⟨h2,k0,l0,hk0,he,h3⟩
  ·have:=(g1 _ hA').1;omega
  ·rw [P.beta k h2];exact g2 k k' l0 l' h3 hA' hne
  ·rw [he];refine g2 k0 k' l0 l' h3 hA' fun e => ?_
   subst e;simp only [kT,Bool.or_eq_false_iff] at hc;have:=dH.2 hk0;rw [hc.2] at this; cases this
 have hnt : β' nt = β nt:=P.beta nt fun e => by have:=dH.2 e; rw [hd] at this; cases this
 refine ⟨by rw [P.defers]; exact h.defers,by rw [P.size]; exact h.size,P.below w0 h.below,Nat.le_trans h.heap P.heap,β',fun φ hφ => ?_,fun k k' l l' hk hk' hne => ?_,fun k l hk => ?_,by rw [hnt]; exact Nat.le_trans gt.size P.heap,fun p q1 q2 => ?_,gt.shape.trans P.shape⟩
 ·rcases List.mem_append.1 hφ with hφ | hφ
  ·exact P.ok φ hφ
  ·obtain ⟨h1,h2⟩:=hmem φ hφ;exact aPf P (g1 φ h1) h2 (hkill φ h1 h2)
 ·rcases List.mem_append.1 hk with hk | hk
  ·rcases List.mem_append.1 hk' with hk' | hk'
   ·exact absurd (P.one k k' l l' hk hk') hne
   ·exact hno k l k' l' hk hk' hne
  ·rcases List.mem_append.1 hk' with hk' | hk'
   ·exact fun e => hno k' l' k l hk' hk (Ne.symm hne) e.symm
   ·rw [hβ k true l hk,hβ k' true l' hk'];exact g2 k k' l l' (hmem _ hk).1 (hmem _ hk').1 hne
 ·rw [hnt]
  rcases List.mem_append.1 hk with hk | hk
  ·rcases P.rows k l hk with ⟨h2,_⟩ | ⟨h2,l0,h3⟩ | ⟨h2,k0,l0,hk0,he,h3⟩
   ·exact Or.inr (Nat.le_trans gt.size h2)
   ·rw [P.beta k h2];exact g3 k l0 h3
   ·rw [he];exact g3 k0 l0 h3
  ·rw [hβ k true l hk];exact g3 k l (hmem _ hk).1
 ·rw [hnt] at q2;have h3:=P.mem p (Nat.lt_of_lt_of_le q2 gt.size) fun kk hkk e => by
   obtain ⟨l0,hl0⟩:=P.kills kk hkk
   rcases g3 kk l0 hl0 with h4 | h4 <;> omega
  have h4:=gt.mem p q1 q2;exact ⟨h3.1.trans h4.1,h3.2.trans h4.2⟩
theorem XL {base : Nat} {β : Nat → Bk} {a : Act} {w w' : World} {d : Nat} {M : List Fact} (v : Value) (l : List At) (b : Nat) (h : d < a.tmps.size) (hB : base ≤ w.heap.size) (hb : Below w.heap.size w w')
  (h1 : w.heap.size ≤ b) (h2 : b < w'.heap.size) (h3 : w'.rangeAt b 0 (aA l)) (h4 : ∀ j,w'.frozen? ⟨b,j,none⟩ = false) :
  PostB base β (β1 β d b) a w (some d) M [.slot d (.im v),.row d true l,.at d b] none (a.put (some d) v) w' where
 defers:=rfl
 size:=fL _ _ _
 tmps s hs:=mT _ _ _ _ hs
 beta k hk:=Az _ _ _ _ hk
 heap:=hb.size
 mem p hp _:=⟨hb.cell hp,hb.frozen hp⟩
 shape:=Shape.below hb
 below _ h:=h.trans (hb.mono hB)
 ok φ hφ:=by
  simp only [List.mem_cons,List.not_mem_nil,or_false] at hφ
  rcases hφ with rfl | rfl | rfl
  ·exact jB _ _ _ h
  ·exact ⟨by rw [bU]; exact h2,by rw [bU]; exact h3,fun _ => ⟨by rw [bU]; exact Nat.le_trans hB h1,by rw [bU],fun j => by rw [bU]; exact h4 j⟩,fun h => by cases h⟩
  ·exact ⟨by rw [bU],by rw [bU]⟩
 rows k l' hk:=by
  simp only [List.mem_cons,List.not_mem_nil,or_false,reduceCtorEq,false_or] at hk;cases hk;exact Or.inl ⟨by rw [bU]; exact h1,rfl⟩
 one k k' l1 l2 hk hk':=by
  simp only [List.mem_cons,List.not_mem_nil,or_false,reduceCtorEq,false_or] at hk hk';cases hk; cases hk'; rfl
 kills k hk:=by cases hk
theorem aGR {base : Nat} {β : Nat → Bk} {a : Act} {w w' : World} {d k b : Nat} {M : List Fact} {l0 l' : List At} (v : TV) (h : d < a.tmps.size) (hkd : k ≠ d) (hrow : Fact.row k true l0 ∈ M) (hat : Fact.at k b ∈ M) (hM : ∀ φ ∈ M,φ.ok base β a w) (hB : base ≤ w.heap.size)
  (hwr : WrAt w w' b []) (hrg : w'.rangeAt b 0 (aA l')) : PostB base β β a w (some d) M [.slot d v.av,.row k true l'] (some k) (a.put (some d) v.den) w':=by
 obtain ⟨r1,r2,r3,r4⟩:=hM _ hrow;obtain ⟨r5,r6,r7⟩:=r3 rfl;obtain ⟨e1,e2⟩:=hM _ hat;refine ⟨mU _ _ _,fL _ _ _,fun s hs => mT _ _ _ _ hs,fun _ _ => rfl,hwr.size,fun p hp hne => ?_,hwr.shape,fun w0 h0 => ?_,fun φ hφ => ?_,fun k' l1 hk => ?_,fun k1 k2 l1 l2 hk hk' => ?_,fun k' hk => ?_⟩
 ·have:=hwr.block p.block hp (by rw [← e1]; exact hne k rfl);exact ⟨World.cell?_of_block this,World.frozen?_of_block this⟩
 ·exact h0.trans ⟨hwr.os,hwr.tape,hwr.output,hwr.size,fun q hq => hwr.block q (by omega) (by omega)⟩
 ·simp only [List.mem_cons,List.not_mem_nil,or_false] at hφ
  rcases hφ with rfl | rfl
  ·show (a.put (some d) _).tmps[d]? = _;rw [jB _ _ _ h,TV.av_den]
  ·refine ⟨Nat.lt_of_lt_of_le r1 hwr.size,by rw [e1,e2]; exact hrg,fun _ => ⟨r5,r6,fun q => ?_⟩,fun h => by cases h⟩;have:=hwr.frozen q;rw [← e1] at this;rw [this]; exact r7 q
 ·simp only [List.mem_cons,List.not_mem_nil,or_false] at hk
  rcases hk with hk | hk
  ·cases v <;> cases hk
  ·cases hk;exact Or.inr (Or.inl ⟨fun e => hkd (by injection e with e; exact e.symm),l0,hrow⟩)
 ·simp only [List.mem_cons,List.not_mem_nil,or_false] at hk hk'
  rcases hk with hk | hk
  ·cases v <;> cases hk
  ·rcases hk' with hk' | hk'
   ·cases v <;> cases hk'
   ·cases hk; cases hk'; rfl
 ·cases hk;exact ⟨l0,hrow⟩
theorem DX {P : Program} {o : Oper} {a : Act} {w : World} {K : Act → World → Prop} {Q : Exit → Act → World → Prop} {id : Nat} {xs : Array Operand} {ts : Array TypeId} {vs : List Value} {R : Ending → World → Prop} (ho : o.op = .call ⟨.value (.func id),xs,ts⟩) (hv : xs.toList.map a.eval = vs)
  (he : ∀ xs,(callFunc id xs).run P w = .ok (.enter id xs) w) (hc : Calls P id vs.toArray w R) (hK : ∀ e w',R e w' → ∃ v,e = .returned v ∧ K (a.put o.dst v) w') : o.wp P a w K Q:=by
 have ea : xs.map a.eval = vs.toArray:=by rw [← Array.toArray_toList (xs:=xs.map a.eval),Array.toList_map,hv]
 have hrun : (execOp a.eval o).run P w = .ok (.enter id vs.toArray) w:=by
  have hf : a.eval (.func id) = .func (.func id) #[] #[]:=rfl;simp [execOp,ho,resolve,Deferred.ofValue,hf,invoke,ea,he]
 unfold Oper.wp;rw [hrun];refine Calls.mono hc ?_;intro e w' hr;obtain ⟨v,rfl,hk⟩:=hK e w' hr;exact hk
theorem Ba {P : Program} {o : Oper} {a : Act} {w : World} {K : Act → World → Prop} {Q : Exit → Act → World → Prop} {id s : Nat} {cap : Array Value} {xs : Array Operand} {ts : Array TypeId} {vs : List Value} {R : Ending → World → Prop} (ho : o.op = .call ⟨.value (.tmp s),xs,ts⟩) (hs : a.eval (.tmp s) = .func (.func id) #[] cap) (hv : xs.toList.map a.eval = vs)
  (he : ∀ xs,(callFunc id xs).run P w = .ok (.enter id xs) w) (hc : Calls P id (vs ++ cap.toList).toArray w R) (hK : ∀ e w',R e w' → ∃ v,e = .returned v ∧ K (a.put o.dst v) w') : o.wp P a w K Q:=by
 have ea : xs.map a.eval = vs.toArray:=by rw [← Array.toArray_toList (xs:=xs.map a.eval),Array.toList_map,hv]
 have hrun : (execOp a.eval o).run P w = .ok (.enter id (vs ++ cap.toList).toArray) w:=by
  have e3 : vs.toArray ++ cap = (vs ++ cap.toList).toArray:=by simp
  simp [execOp,ho,resolve,Deferred.ofValue,hs,invoke,ea,he]
 unfold Oper.wp;rw [hrun];refine Calls.mono hc ?_;intro e w' hr;obtain ⟨v,rfl,hk⟩:=hK e w' hr;exact hk
def dA (l : List Int) : List At:=l.map fun d => .c (.int .i64 d)
def dgx : List Int:=[1,0,0,0,-1,0,0,0,0,1,0,1,0,0,0,0,1,0,0,1,0,-1,0,1,0,1,0,1,0,0,1,0,0,0,1,0,-1,0,-1,0,-1,0,1,0,1,0,0,-1,0,1,0,1,0,-1,0,0,1,0,1,0,0,0,1,0,0,0]
def dg6 : List Int:=[0,-1,0,1,0,1,0,-1,0,0,-1,0,0,0,1,0,0,-1,0,-1,0,0,0,1,0,-1,0,0,0,0,-1,0,0,1,0,-1,0,0,1,0,0,0,0,0,-1,0,0,-1,0,1,0,-1,0,0,0,-1,0,-1,0,0,0,1,0,-1,0,1]
def aCK : kZ
 | [.v (.fl l),.v (.fl m)] => match KW l,KW m with
  | some a,some b => some ([wv a + wv b < 115792089237316195423570985008687907853269984665640564039457584007913129639936],.many [.fl (q1 (wv a + wv b)),.im (.int .u64 0)])
  | _,_ => none
 | _ => none
theorem aCJ : ∀ cs pre r,aCK cs = some (pre,r) → aZ pre → ∀ (args : List Value) (w : World),bR w cs args → Good prog 166 r args w:=by
 intro cs pre r hg hp args w ha;unfold aCK at hg;split at hg
 ·rename_i l m;split at hg
  ·rename_i a b h1 h2;cases hg;rw [NI ha,fQ l _ h1,fQ m _ h2];refine (AI _ _ _ _ _ _ _ _ (dL a) (dL b) w).mono ?_
   rintro e w' ⟨s0,s1,s2,s3,c,rfl,hs,hc,hv,hb⟩
   have hp1:=hp.1;have hv' : aF s0 s1 s2 s3 + 115792089237316195423570985008687907853269984665640564039457584007913129639936 * c = wv a + wv b:=hv;have hc0 : c = 0:=by omega
   subst hc0;obtain ⟨rfl,rfl,rfl,rfl⟩:=pD hs hp1 (by omega);exact ⟨rfl,hb⟩
  ·cases hg
 ·cases hg
def aCG : kZ
 | [.v (.fl l),.v (.im (.int .i64 (.ofNat i)))] => match KW l with
  | some n => bif Nat.blt i 256 then some ([],.one (.im (.int .i64 (pK (wv n) i : Nat)))) else none
  | none => none
 | _ => none
theorem aCF : ∀ cs pre r,aCG cs = some (pre,r) → aZ pre → ∀ (args : List Value) (w : World),bR w cs args → Good prog 167 r args w:=by
 intro cs pre r hg hp args w ha;unfold aCG at hg;split at hg
 ·rename_i l i;split at hg
  ·rename_i n hn;cases hb : Nat.blt i 256 <;> rw [hb] at hg
   ·cases hg
   ·cases hg;exact aEb _ [i < 256] _ (by show aCH _ = _; unfold aCH; simp only [hn]) ⟨by simpa using hb,trivial⟩ args w ha
  ·cases hg
 ·cases hg
def aSa : Tab:=(T0.add 166 aCK).add 167 aCG
theorem Ke : TabOk prog aSa:=((uO _).ad func166 aCJ).ad func167 aCF
def cSg : Nat → Cfg:=fun _ => ⟨fun _ => aSa,fun _ => true,fun _ => none⟩
theorem aFN : aX prog (qG prog) cSg f112 300 [.v (.fl (q1 KR))] = some ([wv KR + wv KR < 115792089237316195423570985008687907853269984665640564039457584007913129639936,wv (wv KR + wv KR) + wv KR < 115792089237316195423570985008687907853269984665640564039457584007913129639936],.one (.fl (dA dgx))):=by kernel_rfl
theorem aFP : aX prog (qG prog) cSg f112 300 [.v (.fl (q1 yO))] = some ([wv yO + wv yO < 115792089237316195423570985008687907853269984665640564039457584007913129639936,wv (wv yO + wv yO) + wv yO < 115792089237316195423570985008687907853269984665640564039457584007913129639936],.one (.fl (dA dg6))):=by kernel_rfl
def Vd (N : Nat) (D : List Int) : Prop:=∀ (args : List Value) (w : World),bR w [.v (.fl (q1 N))] args → Good prog 112 (.one (.fl (dA D))) args w
theorem aMX : Vd KR dgx:=fun args w ha => aB aG (fun _ _ => Ke) (aK _) func112 aFN ⟨by decide +kernel,by decide +kernel,trivial⟩ ha
theorem aMZ : Vd yO dg6:=fun args w ha => aB aG (fun _ _ => Ke) (aK _) func112 aFP ⟨by decide +kernel,by decide +kernel,trivial⟩ ha
def gSg (N : Nat) (D : List Int) : kZ
 | [.v (.fl l)] => match KW l with
  | some n => some ([n = N],.one (.fl (dA D)))
  | none => none
 | _ => none
def aSb (N : Nat) (D : List Int) : Tab:=(jZ true).add 112 (gSg N D)
theorem jD {N : Nat} {D : List Int} (h : Vd N D) : TabOk prog (aSb N D):=(gC true).ad func112 (by
 intro cs pre r hg hp args w ha;unfold gSg at hg;split at hg
 ·rename_i l;split at hg
  ·rename_i n hn;cases hg;refine h args w ?_
   match args,ha with
   | [v],ha => exact ⟨by show v = .agg (aA (q1 N)).toArray; rw [← hp.1,← fQ l _ hn]; exact ha.1,trivial⟩
   | [],ha => exact ha.elim
   | _ :: _ :: _,ha => exact ha.2.elim
  ·cases hg
 ·cases hg)
def eO : Code:=(f69.body).getD .skip
def mS : Code:=pO (pO (cB (cA (cB (cB (cB (cB eO)))))))
def gB : Code:=pO (cA (cB (cB mS)))
theorem aGp : eO = .seq (cA eO) (.seq (.region 1 (cK (cA (cB eO))) false) (.seq (cA (cB (cB eO))) (.seq (cA (cB (cB (cB eO)))) (.seq (.seq (cA (cA (cB (cB (cB (cB eO)))))) (.block 0 (.loop mS))) (cB (cB (cB (cB (cB eO))))))))):=by kernel_rfl
theorem Ji : mS = .seq (cA mS) (.seq (cA (cB mS)) (.seq (.block 1 gB) (cB (cB (cB mS))))):=by kernel_rfl
theorem aGq : gB = .seq (cA gB) (.seq (cA (cB gB)) (.seq (.region 8 (cK (cA (cB (cB gB)))) false) (cB (cB (cB gB))))):=by kernel_rfl
def cR (N : Nat) (D : List Int) (n : Nat → Option Value) : Nat → Cfg:=fun _ => ⟨fun _ => aSb N D,fun _ => true,n⟩
def gX (g : Nat → Option Value) : Ext:={ Ext.none with gen:=g }
def rA (y : aM) (N : Nat) : List Fact:=[.slot 2 (.pt 2 0),.row 2 true (aN y),.slot 3 (.pt 3 0),.row 3 true (q1 N),.slot 4 (.pt 4 0),.row 4 true (aN aD.zero)]
def rB (y : aM) (N b : Nat) : List Fact:=[.slot 3 (.pt 3 0),.row 3 true (q1 N),.slot 4 (.pt 4 0),.row 4 true (aN aD.zero),.slot 5 (.im (NC b)),.row 12 true (aN y),.at 12 b]
def rF (D : List Int) (b i t : Nat) (u r : aM) : List Fact:=[.slot 4 (.pt 4 0),.row 4 true (aN aD.zero),.slot 5 (.im (NC b)),.row 12 true (aN u),.at 12 b,.slot 6 (.pt 6 0),.row 6 true (aN r),.slot 7 (.im (iI t)),.slot 15 (.fl (dA D)),.slot 16 (.im (iI i))]
def rG (D : List Int) (b i t : Nat) (d : Int) (u r : aM) : List Fact:=.slot 8 (.im (iI i)) :: .slot 9 (.im (.int .i64 d)) :: rF D b i t u r
theorem aTD (N : Nat) (D : List Int) (y : aM) : aY prog qN f69.ntmps (cR N D fun _ => none) 40 (cA eO) (kV 0 [.v (.fl (aN y)),.v (.fl (q1 N))]) (rA y N) = some ([],.nrm,rA y N):=by kernel_rfl
theorem aTC (N : Nat) (D : List Int) (y : aM) : rI prog qN f69.ntmps (cR N D (fun _ => none) 0) ((cK (cA (cB eO))).extract 0 1) (rA y N) (.slot 11 (.fl (aN y)) :: rA y N) = some ([],.slot 11 (.fl (aN y)) :: rA y N):=by kernel_rfl
theorem aTB (N : Nat) (D : List Int) (y : aM) (b : Nat) : rI prog qN f69.ntmps (cR N D (fun _ => none) 0) ((cK (cA (cB eO))).extract 2 3) (.slot 12 (.im (NC b)) :: .row 12 true (aN y) :: .at 12 b :: .slot 11 (.fl (aN y)) :: rA y N) (rB y N b) = some ([],rB y N b):=by kernel_rfl
theorem aTA (N : Nat) (D : List Int) (y : aM) (b : Nat) : aY prog qN f69.ntmps (cR N D fun _ => none) 40 (cA (cB (cB eO))) (rB y N b) (.slot 6 (.pt 6 0) :: .row 6 true (aN aD.one) :: rB y N b) = some ([],.nrm,.slot 6 (.pt 6 0) :: .row 6 true (aN aD.one) :: rB y N b):=by kernel_rfl
theorem aTz (N : Nat) (D : List Int) (y : aM) (b : Nat) : aY prog qN f69.ntmps (cR N D fun _ => none) 40 (cA (cB (cB (cB eO)))) (.slot 6 (.pt 6 0) :: .row 6 true (aN aD.one) :: rB y N b) (.slot 7 (.im (iI 0)) :: .slot 6 (.pt 6 0) :: .row 6 true (aN aD.one) :: rB y N b) = some ([],.nrm,.slot 7 (.im (iI 0)) :: .slot 6 (.pt 6 0) :: .row 6 true (aN aD.one) :: rB y N b):=by kernel_rfl
theorem aTy (N : Nat) (D : List Int) (y : aM) (b : Nat) : aY prog qN f69.ntmps (cR N D fun _ => none) 40 (cA (cA (cB (cB (cB (cB eO)))))) (.slot 7 (.im (iI 0)) :: .slot 6 (.pt 6 0) :: .row 6 true (aN aD.one) :: rB y N b) (rF D b 0 0 y aD.one) = some ([N = N],.nrm,rF D b 0 0 y aD.one):=by kernel_rfl
theorem aTE (N : Nat) (D : List Int) (b i t : Nat) (u r : aM) (c : Bool) : aY prog qN f69.ntmps (cR N D (fun s => bif Nat.beq s 17 then some (.bool c) else none)) 40 (cA mS) (rF D b i t u r) (.slot 17 (.im (.bool c)) :: rF D b i t u r) = some ([aI .lss .i64 (Int.ofNat i) 66 = some (.bool c)],.nrm,.slot 17 (.im (.bool c)) :: rF D b i t u r):=by kernel_rfl
theorem aTF (N : Nat) (D : List Int) (b i t : Nat) (u r : aM) : aY prog qN f69.ntmps (cR N D fun _ => none) 40 (cA (cB mS)) (.slot 17 (.im (.bool true)) :: rF D b i t u r) (rF D b i t u r) = some ([],.nrm,rF D b i t u r):=by kernel_rfl
theorem aTG (N : Nat) (D : List Int) (b i t : Nat) (u r : aM) : aY prog qN f69.ntmps (cR N D fun _ => none) 40 (cA (cB mS)) (.slot 17 (.im (.bool false)) :: rF D b i t u r) (rF D b i t u r) = some ([],.ex 0,rF D b i t u r):=by kernel_rfl
theorem aTM (N : Nat) (D : List Int) (b i t : Nat) (d : Int) (u r : aM) : aY prog { qG prog with x:=gX (fun s => bif Nat.beq s 19 then some (.int .i64 d) else none) } f69.ntmps (cR N D fun _ => none) 40 (cA gB) (rF D b i t u r) (rG D b i t d u r) = some ([i < 66,cellAt (dA D) i = some (.int .i64 d)],.nrm,rG D b i t d u r):=by kernel_rfl
theorem aTL (N : Nat) (D : List Int) (b i t : Nat) (d : Int) (u r : aM) : aY prog qN f69.ntmps (cR N D (fun s => bif Nat.beq s 21 then some (.bool false) else none)) 40 (cA (cB gB)) (rG D b i t d u r) (rG D b i t d u r) = some ([aI .eql .i64 d 0 = some (.bool false)],.nrm,rG D b i t d u r):=by kernel_rfl
theorem aNi (N : Nat) (D : List Int) (b i t : Nat) (d : Int) (u r : aM) : aY prog qN f69.ntmps (cR N D (fun s => bif Nat.beq s 21 then some (.bool true) else none)) 40 (cA (cB gB)) (rG D b i t d u r) (rF D b i t u r) = some ([aI .eql .i64 d 0 = some (.bool true)],.ex 1,rF D b i t u r):=by kernel_rfl
theorem aTK (N : Nat) (D : List Int) (b i t k : Nat) (d : Int) (u r : aM) : rI prog qN f69.ntmps (cR N D (fun s => bif Nat.beq s 25 then some (iI k) else none) 0) ((cK (cA (cB (cB gB)))).extract 0 4) (rG D b i t d u r) (.slot 22 (.im (NC b)) :: .slot 25 (.im (iI k)) :: rG D b i t d u r) = some ([aI .sub .i64 (Int.ofNat i) (Int.ofNat t) = some (iI k)],.slot 22 (.im (NC b)) :: .slot 25 (.im (iI k)) :: rG D b i t d u r):=by kernel_rfl
theorem aXh (D : List Int) (b i t k : Nat) (d : Int) (u v r : aM) : ([Fact.slot 26 (TV.av (.fl (aN v))),.row 12 true (aN v)] ++ (.slot 22 (.im (NC b)) :: .slot 25 (.im (iI k)) :: rG D b i t d u r).filter (fun φ => !(kT (some 26) (some 12) φ))) = [.slot 26 (.fl (aN v)),.row 12 true (aN v),.slot 22 (.im (NC b)),.slot 25 (.im (iI k)),.slot 8 (.im (iI i)),.slot 9 (.im (.int .i64 d)),.slot 4 (.pt 4 0),.row 4 true (aN aD.zero),.slot 5 (.im (NC b)),.at 12 b,.slot 6 (.pt 6 0),.row 6 true (aN r),.slot 7 (.im (iI t)),.slot 15 (.fl (dA D)),.slot 16 (.im (iI i))]:=by kernel_rfl
theorem aTJ (N : Nat) (D : List Int) (b i t k : Nat) (d : Int) (v r : aM) : rI prog qN f69.ntmps (cR N D (fun _ => none) 0) ((cK (cA (cB (cB gB)))).extract 5 7) [.slot 26 (.fl (aN v)),.row 12 true (aN v),.slot 22 (.im (NC b)),.slot 25 (.im (iI k)),.slot 8 (.im (iI i)),.slot 9 (.im (.int .i64 d)),.slot 4 (.pt 4 0),.row 4 true (aN aD.zero),.slot 5 (.im (NC b)),.at 12 b,.slot 6 (.pt 6 0),.row 6 true (aN r),.slot 7 (.im (iI t)),.slot 15 (.fl (dA D)),.slot 16 (.im (iI i))] (.slot 10 (.pt 10 0) :: .row 10 true (aN v) :: rG D b i t d v r) = some ([],.slot 10 (.pt 10 0) :: .row 10 true (aN v) :: rG D b i t d v r):=by kernel_rfl
theorem aTH (N : Nat) (D : List Int) (b i t : Nat) (d : Int) (v r : aM) : aY prog qN f69.ntmps (cR N D (fun s => bif Nat.beq s 29 then some (.bool false) else none)) 40 (cB (cB (cB gB))) (.slot 10 (.pt 10 0) :: .row 10 true (aN v) :: rG D b i t d v r) (rF D b i i v (aD.mul (fW (kR r)) (fW (kR v)))) = some ([aI .lss .i64 d 0 = some (.bool false)],.nrm,rF D b i i v (aD.mul (fW (kR r)) (fW (kR v)))):=by kernel_rfl
theorem aTI (N : Nat) (D : List Int) (b i t : Nat) (d : Int) (v r : aM) : aY prog qN f69.ntmps (cR N D (fun s => bif Nat.beq s 29 then some (.bool true) else none)) 40 (cB (cB (cB gB))) (.slot 10 (.pt 10 0) :: .row 10 true (aN v) :: rG D b i t d v r) (rF D b i i v (aD.mul (fW (kR r)) (fW (kR (bZ v))))) = some ([aI .lss .i64 d 0 = some (.bool true)],.nrm,rF D b i i v (aD.mul (fW (kR r)) (fW (kR (bZ v))))):=by kernel_rfl
theorem aXg (N : Nat) (D : List Int) (b i t : Nat) (u r : aM) : aY prog qN f69.ntmps (cR N D (fun s => bif Nat.beq s 35 then some (iI (i + 1)) else none)) 40 (cB (cB (cB mS))) (rF D b i t u r) (rF D b (i + 1) t u r) = some ([aI .add .i64 (Int.ofNat i) 1 = some (iI (i + 1))],.nrm,rF D b (i + 1) t u r):=by kernel_rfl
theorem aXi (N : Nat) (D : List Int) (b i t : Nat) (u r : aM) : aY prog qN f69.ntmps (cR N D fun _ => none) 40 (cB (cB (cB (cB (cB eO))))) (rF D b i t u r) [.slot 4 (.pt 4 0),.row 4 true (aN r)] = some ([],.rt,[.slot 4 (.pt 4 0),.row 4 true (aN r)]):=by kernel_rfl
def dI (D : List Int) (i : Nat) : Int:=D.getD i 0
def tN (D : List Int) : Nat → Nat
 | 0 => 0
 | i + 1 => if dI D i = 0 then tN D i else i
def eN (D : List Int) : Nat → Nat
 | 0 => 0
 | i + 1 => if dI D i = 0 then eN D i else if dI D i < 0 then eN D i + 2 ^ i * p6N else eN D i + 2 ^ i
theorem aJN (D : List Int) : ∀ i,tN D i ≤ i
 | 0 => Nat.le_refl _
 | i + 1 => by
  unfold tN;split
  ·exact Nat.le_succ_of_le (aJN D i)
  ·exact Nat.le_succ _
theorem RN : ∀ (D : List Int) (i : Nat),i < D.length → cellAt (dA D) i = some (.int .i64 (dI D i))
 | [],i,h => absurd h (by simp)
 | d :: r,0,h => rfl
 | d :: r,i + 1,h => by
  show (bif Nat.blt (i + 1) 1 then _ else cellAt (dA r) (i + 1 - 1)) = _;rw [show Nat.blt (i + 1) 1 = false from Bool.eq_false_iff.2 fun h => by simp at h,cond_false,Nat.add_sub_cancel,RN r i (by simpa using h)];simp [dI]
theorem Holds.free {nt base : Nat} {w0 : World} {A : List Fact} {a : Act} {w : World} (h : Holds nt base w0 A a w) {k b : Nat} {l : List At} (h1 : Fact.row k true l ∈ A) (h2 : Fact.at k b ∈ A) : ∀ j,w.frozen? ⟨b,j,none⟩ = false:=by
 obtain ⟨β,g1,g2⟩:=h.facts;obtain ⟨_,_,e3,_⟩:=g1 _ h1;obtain ⟨e4,e5⟩:=g1 _ h2;have:=(e3 rfl).2.2;rw [e4] at this;exact this
theorem aJT (y : aM) {t i : Nat} (h : t ≤ i) : bN aD (bN aD y (2 ^ t)) (2 ^ (i - t)) = bN aD y (2 ^ i):=by
 rw [← dU,← Nat.pow_add,Nat.add_sub_cancel' h]
theorem aKB (d : Int) : aI .eql .i64 d 0 = some (.bool (decide (d = 0))):=by
 show some (Value.bool (d == 0)) = _
 by_cases h : d = 0
 ·subst h; rfl
 ·rw [decide_eq_false h];simp [h]
theorem aKz (d : Int) : aI .lss .i64 d 0 = some (.bool (decide (d < 0))):=rfl
theorem wU {N : Nat} {D : List Int} (hsg : Vd N D) (hlen : D.length = 66) (y : aM) (hy : qH y) (args : List Value) (w : World) (ha : bR w [.v (.fl (aN y)),.v (.fl (q1 N))] args) : Good prog 69 (.one (.fl (aN (bN aD y (eN D 66))))) args w:=by
 have hT : ∀ (n d : Nat) (wi : World),TabOkW prog (aSb N D) w.heap.size wi:=fun _ _ wi => (jD hsg).w _ _
 refine dS func69 (c:=eO) rfl ha (Nat.le_of_ble_eq_true (by kernel_rfl)) fun a w' hA => ?_
 rw [aGp];refine wp_seq (bC aG (fun _ _ => jD hsg) aL (aTD N D y) trivial hA fun a w1 hA => ?_);refine wp_seq (sT (l:=List.range' 0 ((cK (cA (cB eO))).extract 0 1).size ++ (1 :: (List.range' 2 ((cK (cA (cB eO))).extract 2 3).size ++ []))) (by kernel_rfl) ?_);refine cF (c:=cR N D (fun _ => none) 0) (fun d => (jD hsg).w _ _) (aL.w _ _) (aTC N D y) trivial (by kernel_rfl) hA fun a w2 hA => ?_
 have h11:=hA.slotF (s:=11) (l:=aN y) (by simp);obtain ⟨o,ho,hoo,hod,hog⟩ : ∃ o,(cK (cA (cB eO)))[1]? = some o ∧ (∃ ts,o.op = .call ⟨.value (.func 138),#[.tmp 11],ts⟩) ∧ o.dst = some 12 ∧ o.guard = none:=⟨_,rfl,⟨_,rfl⟩,rfl,rfl⟩
 obtain ⟨ts,hoo⟩:=hoo;refine mA ho hog (DX hoo (vs:=[.agg (aA (aN y)).toArray]) (by simp [Act.eval,h11]) (gF func138 (by kernel_rfl) (by kernel_rfl) · _) (JV y [.agg (aA (aN y)).toArray] _ ⟨rfl,trivial⟩) fun e w3 hR => ?_);obtain ⟨b,rfl,hb,h1,h2,h3,h4⟩:=hR;refine ⟨_,rfl,?_⟩;rw [hod];have hA:=hA.post (dst:=some 12) (kill:=none) fun β hβ => ⟨_,XL (NC b) (aN y) b (by rw [hA.size]; exact Nat.le_of_ble_eq_true (by kernel_rfl)) hA.heap hb h1 h2 h3 h4⟩
 have ef : ([Fact.slot 12 (.im (NC b)),.row 12 true (aN y),.at 12 b] ++ (.slot 11 (.fl (aN y)) :: rA y N).filter (fun φ => !(kT (some 12) none φ))) = .slot 12 (.im (NC b)) :: .row 12 true (aN y) :: .at 12 b :: .slot 11 (.fl (aN y)) :: rA y N:=by kernel_rfl
 rw [ef] at hA;refine cF (c:=cR N D (fun _ => none) 0) (fun d => (jD hsg).w _ _) (aL.w _ _) (aTB N D y b) trivial (by kernel_rfl) hA fun a w4 hA => ?_
 show (Code.seq (cA (cB (cB eO))) _).wp _ _ _ _;refine wp_seq (bC aG (fun _ _ => jD hsg) aL (aTA N D y b) trivial hA fun a w5 hA => ?_);refine wp_seq (bC aG (fun _ _ => jD hsg) aL (aTz N D y b) trivial hA fun a w6 hA => ?_);refine wp_seq (wp_seq (bC aG (fun _ _ => jD hsg) aL (aTy N D y b) ⟨rfl,trivial⟩ hA fun a w7 hA => ?_));refine wp_block ?_;refine pC (fun i a wi => Holds f69.ntmps w.heap.size w (rF D b i (tN D i) (bN aD y (2 ^ tN D i)) (bN aD y (eN D i))) a wi) 66 (fun i hi a wi hA R hR => ?_) (fun a wi hA R => ?_) (by
  show Holds _ _ _ (rF D b 0 0 (bN aD y (2 ^ 0)) (bN aD y 0)) _ _;rw [Nat.pow_zero,KX]; exact hA)
 ·rw [Ji];refine wp_seq (bC aG (fun _ _ => jD hsg) aL (aTE N D b i _ _ _ true) ⟨bX hi,trivial⟩ hA fun a w8 hA => ?_);refine wp_seq (bC aG (fun _ _ => jD hsg) aL (aTF N D b i _ _ _) trivial hA fun a w9 hA => ?_);refine wp_seq (wp_block ?_);have hfin : ∀ (Q : Exit → Act → World → Prop) a w',Holds f69.ntmps w.heap.size w (rF D b i (tN D (i + 1)) (bN aD y (2 ^ tN D (i + 1))) (bN aD y (eN D (i + 1)))) a w' → (cB (cB (cB mS))).wp prog (Exit.then R Q) a w':=fun Q a w' hA =>
   bC aG (fun _ _ => jD hsg) aL (aXg N D b i _ _ _) ⟨kQ (k:=1) (by omega),trivial⟩ hA fun a w'' hA => hR a w'' hA
  rw [aGq];refine wp_seq (aC aG (fun n d => hT n d _) (Mu (x:=gX (fun s => bif Nat.beq s 19 then some (.int .i64 (dI D i)) else none)) (N:=w.heap.size) (w:=w) rfl rfl rfl fun _ _ _ h => h.elim) (aTM N D b i _ (dI D i) _ _) ⟨hi,RN D i (by omega),trivial⟩ hA fun a w10 hA => ?_)
  by_cases hd : dI D i = 0
  ·refine wp_seq (bC aG (fun _ _ => jD hsg) aL (aNi N D b i _ (dI D i) _ _) ⟨by rw [aKB,decide_eq_true hd],trivial⟩ hA fun a w11 hA => ?_);refine hfin _ a w11 ?_;rw [show tN D (i + 1) = tN D i from if_pos hd,show eN D (i + 1) = eN D i from if_pos hd];exact hA
  ·refine wp_seq (bC aG (fun _ _ => jD hsg) aL (aTL N D b i _ (dI D i) _ _) ⟨by rw [aKB,decide_eq_false hd],trivial⟩ hA fun a w11 hA => ?_);refine wp_seq (sT (l:=List.range' 0 ((cK (cA (cB (cB gB)))).extract 0 4).size ++ (4 :: (List.range' 5 ((cK (cA (cB (cB gB)))).extract 5 7).size ++ []))) (by kernel_rfl) ?_);have ht:=aJN D i;refine cF (c:=cR N D (fun s => bif Nat.beq s 25 then some (iI (i - tN D i)) else none) 0) (fun d => (jD hsg).w _ _) (aL.w _ _) (aTK N D b i (tN D i) (i - tN D i) (dI D i) _ _) ⟨uK ht (by omega),trivial⟩ (by kernel_rfl) hA fun a w12 hA => ?_
   have h22:=hA.slot (s:=22) (v:=NC b) (by simp);have h25:=hA.slot (s:=25) (v:=iI (i - tN D i)) (by simp);obtain ⟨o2,ho2,hoo2,hod2,hog2⟩ : ∃ o,(cK (cA (cB (cB gB))))[4]? = some o ∧ (∃ ts,o.op = .call ⟨.value (.tmp 22),#[.tmp 25],ts⟩) ∧ o.dst = some 26 ∧ o.guard = none:=⟨_,rfl,⟨_,rfl⟩,rfl,rfl⟩
   obtain ⟨ts2,hoo2⟩:=hoo2;have hold:=hA.old (k:=12) (b:=b) (l:=aN (bN aD y (2 ^ tN D i))) (by simp [rG,rF]) (by simp [rG,rF]);have hfree:=hA.free (k:=12) (b:=b) (l:=aN (bN aD y (2 ^ tN D i))) (by simp [rG,rF]) (by simp [rG,rF]);refine mA ho2 hog2 (Ba hoo2 (id:=182) (cap:=#[.pointer (some ⟨b,0,none⟩)]) (vs:=[iI (i - tN D i)]) (by simp [Act.eval,h22,NC]) (by simp [Act.eval,h25]) (gF func182 (by kernel_rfl) (by kernel_rfl) · _) (Zp (i - tN D i) (by omega) _ (QS hy _) b w12 hold.1 hold.2 hfree) fun e w13 hR2 => ?_);obtain ⟨rfl,hwr,hrg⟩:=hR2;refine ⟨_,rfl,?_⟩;rw [hod2];have hA:=hA.post (dst:=some 26) (kill:=some 12) fun β hβ => ⟨_,aGR (.fl (aN (bN aD (bN aD y (2 ^ tN D i)) (2 ^ (i - tN D i))))) (by rw [hA.size]; exact Nat.le_of_ble_eq_true (by kernel_rfl)) (by decide) (l0:=aN (bN aD y (2 ^ tN D i))) (b:=b) (by simp [rG,rF]) (by simp [rG,rF]) hβ hA.heap hwr hrg⟩
   rw [aXh] at hA;rw [aJT y ht] at hA;refine cF (c:=cR N D (fun _ => none) 0) (fun d => (jD hsg).w _ _) (aL.w _ _) (aTJ N D b i (tN D i) (i - tN D i) (dI D i) _ _) trivial (by kernel_rfl) (by rw [aJT y ht]; exact hA) fun a w14 hA => ?_
   show (cB (cB (cB gB))).wp _ _ _ _
   by_cases hn : dI D i < 0
   ·refine bC aG (fun _ _ => jD hsg) aL (aTI N D b i (tN D i) (dI D i) _ _) ⟨by rw [aKz,decide_eq_true hn],trivial⟩ hA fun a w15 hA => ?_
    refine hfin _ a w15 ?_;rw [show tN D (i + 1) = i from if_neg hd,show eN D (i + 1) = eN D i + 2 ^ i * p6N from (if_neg hd).trans (if_pos hn),cI,dU,← IM];rw [fE,fE] at hA;exact hA
   ·refine bC aG (fun _ _ => jD hsg) aL (aTH N D b i (tN D i) (dI D i) _ _) ⟨by rw [aKz,decide_eq_false hn],trivial⟩ hA fun a w15 hA => ?_
    refine hfin _ a w15 ?_;rw [show tN D (i + 1) = i from if_neg hd,show eN D (i + 1) = eN D i + 2 ^ i from (if_neg hd).trans (if_neg hn),cI];rw [fE,fE] at hA;exact hA
 ·rw [Ji];refine wp_seq (bC aG (fun _ _ => jD hsg) aL (aTE N D b 66 _ _ _ false) ⟨eI (Nat.le_refl _),trivial⟩ hA fun a w8 hA => ?_);refine wp_seq (bC aG (fun _ _ => jD hsg) aL (aTG N D b 66 _ _ _) trivial hA fun a w9 hA => ?_);show (cB (cB (cB (cB (cB eO))))).wp _ _ _ _;exact bC aG (fun _ _ => jD hsg) aL (aXi N D b 66 _ _ _) trivial hA fun a w10 hA => eJ (l:=[.fl (aN (bN aD y (eN D 66)))]) (by kernel_rfl) (by kernel_rfl) hA
def kxN : Nat:=(eN dgx 66 - KR) / q4N
def k6N : Nat:=(eN dg6 66 - yO) / q4N
theorem aYG : eN dgx 66 = KR + q4N * kxN:=by kernel_rfl
theorem aYH : eN dg6 66 = yO + q4N * k6N:=by kernel_rfl
theorem aXp {y : aM} (h : qH y) : bN aD y (eN dgx 66) = bN aD y KR:=by rw [aYG,cI,dU,Dw h,nN,aD.mul_one]
theorem aXq {y : aM} (h : qH y) : bN aD y (eN dg6 66) = bN aD y yO:=by rw [aYH,cI,dU,Dw h,nN,aD.mul_one]
def s6F : Fq:=⟨yO,by decide +kernel⟩
def sdF : Fq:=⟨KR,by decide +kernel⟩
theorem Iz : bK prog Vb qN (fun _ => true) f70 40 [] = some ([],.one (.fl [.f s6F])):=by kernel_rfl
theorem Yb : bK prog Vb qN (fun _ => true) f71 40 [] = some ([],.one (.fl [.f sdF])):=by kernel_rfl
theorem aKC : ∃ f : aM → aM,∀ y,f y = bN aD y yO:=⟨fun y => bN aD y yO,fun _ => rfl⟩
theorem aJX : ∃ f : aM → aM,∀ y,f y = bN aD y KR:=⟨fun y => bN aD y KR,fun _ => rfl⟩
def o6 : aM → aM:=Classical.choose aKC
def ox : aM → aM:=Classical.choose aJX
theorem aBq (y : aM) : o6 y = bN aD y yO:=Classical.choose_spec aKC y
theorem aJY (y : aM) : ox y = bN aD y KR:=Classical.choose_spec aJX y
def aPH : kZ
 | [.v (.fl l),.v (.fl m)] => match pV l,KW m with
  | some y,some n => bif Nat.beq n yO then some ([qH y],.one (.fl (aN (o6 y)))) else bif Nat.beq n KR then some ([qH y],.one (.fl (aN (ox y)))) else none
  | _,_ => none
 | _ => none
theorem aIi : ∀ cs pre r,aPH cs = some (pre,r) → aZ pre → ∀ (args : List Value) (w : World),bR w cs args → Good prog 69 r args w:=by
 intro cs pre r hg hp args w ha;unfold aPH at hg;split at hg
 ·rename_i l m;split at hg
  ·rename_i y n hy hn;have hca : ∀ N,n = N → bR w [.v (.fl (aN y)),.v (.fl (q1 N))] args:=fun N e => by
    subst e
    match args,ha with
    | [u,v],ha => exact ⟨by show u = .agg (aA (aN y)).toArray; rw [← eD l _ hy]; exact ha.1,by show v = .agg (aA (q1 n)).toArray; rw [← fQ m _ hn]; exact ha.2.1,trivial⟩
    | [],ha => exact ha.elim
    | [_],ha => exact ha.2.elim
    | _ :: _ :: _ :: _,ha => exact ha.2.2.elim
   cases h6 : Nat.beq n yO <;> rw [h6] at hg
   ·simp only [cond_false] at hg;cases hx : Nat.beq n KR <;> rw [hx] at hg
    ·cases hg
    ·cases hg;have:=wU aMX (by decide) y hp.1 args w (hca _ (Nat.eq_of_beq_eq_true hx));rw [aXp hp.1,← aJY] at this;exact this
   ·cases hg;have:=wU aMZ (by decide) y hp.1 args w (hca _ (Nat.eq_of_beq_eq_true h6));rw [aXq hp.1,← aBq] at this;exact this
  ·cases hg
 ·cases hg
def Nu : Tab:=((Vb.add 70 (g0 (.one (.fl [.f s6F])))).add 71 (g0 (.one (.fl [.f sdF])))).add 69 aPH
theorem Et : TabOk prog Nu:=((YF.ad func70 (gP fun w => aH aG YF aL func70 Iz trivial (args:=[]) trivial)).ad func71 (gP fun w => aH aG YF aL func71 Yb trivial (args:=[]) trivial)).ad func69 aIi
theorem Qp (x a : aM) (k : Nat) : bK prog Nu qN (fun _ => true) f165 60 [.v (.fl (aN x)),.s (aN a) 1 k] = some ([],.one (.fl (aN (aD.mul (fW (kR x)) (fW (kR a)))))):=by kernel_rfl
theorem Qo (x a b c : aM) (k : Nat) : bK prog Nu qN (fun _ => true) f165 60 [.v (.fl (aN x)),.s (aN a ++ (aN b ++ aN c)) 3 k] = some ([],.one (.fl (aN (aD.mul (fW (kR (aD.mul (fW (kR (aD.mul (fW (kR x)) (fW (kR a))))) (fW (kR b))))) (fW (kR c)))))):=by kernel_rfl
def Jg : Nat → List At → Option (List aM)
 | 0,_ => some []
 | n + 1,l => match tk l 48,dp l 48 with
  | some a,some r => (match pV a,Jg n r with | some x,some xs => some (x :: xs) | _,_ => none)
  | _,_ => none
def RB : kZ
 | [.v (.fl l),.s m n k] => match pV l,Jg n m with
  | some x,some [a] => some ([],.one (.fl (aN (aD.mul x a))))
  | some x,some [a,b,c] => some ([],.one (.fl (aN (aD.mul (aD.mul (aD.mul x a) b) c))))
  | _,_ => none
 | _ => none
theorem uX : ∀ {n : Nat} {l : List At} {xs : List aM},Jg n l = some xs → xs.length = n ∧ ∃ r,aA l = aA (xs.flatMap aN) ++ r
 | 0,l,xs,h => by cases h; exact ⟨rfl,aA l,rfl⟩
 | n + 1,l,xs,h => by
  unfold Jg at h;split at h
  ·rename_i a r ht hd;split at h
   ·rename_i x xs' hx hr;cases h;obtain ⟨h1,r',h2⟩:=uX hr;obtain ⟨r2,e1,s1⟩:=sU _ _ _ ht;obtain ⟨p,e2,s2⟩:=tP _ _ _ hd;obtain ⟨h3,h4⟩:=sJ (e1.symm.trans e2) (s1.trans s2.symm);refine ⟨by rw [List.length_cons,h1],r',?_⟩;rw [e1,aR,h4,h2,eD a _ hx,List.flatMap_cons,aR,List.append_assoc]
   ·cases h
  ·cases h
theorem aVY {w : World} {l m m' : List At} {x : aM} {n k : Nat} {r : List Value} (hl : aA l = aA (aN x)) (hm : aA m = aA m' ++ r) {args : List Value} (ha : bR w [.v (.fl l),.s m n k] args) : bR w [.v (.fl (aN x)),.s m' n k] args:=by
 match args,ha with
 | [u,s],ha =>
  refine ⟨by show u = .agg (aA (aN x)).toArray; rw [← hl]; exact ha.1,?_,trivial⟩;obtain ⟨b,o,e,hb,hr⟩:=ha.2.1;refine ⟨b,o,e,hb,fun j v hj => hr j v ?_⟩;rw [hm,List.getElem?_append_left (List.getElem?_eq_some_iff.1 hj).1];exact hj
 | [],ha => exact ha.elim
 | [_],ha => exact ha.2.elim
 | _ :: _ :: _ :: _,ha => exact ha.2.2.elim
theorem Ga : ∀ cs pre r,RB cs = some (pre,r) → aZ pre → ∀ (args : List Value) (w : World),bR w cs args → Good prog 165 r args w:=by
 intro cs pre r hg hp args w ha;unfold RB at hg;split at hg
 ·rename_i l m n k;split at hg
  ·rename_i x a hx hm;cases hg;obtain ⟨h1,r',h2⟩:=uX hm;have hn : n = 1:=h1.symm;subst hn;have h:=aH aG Et aL func165 (Qp x a k) trivial (args:=args) (w:=w) (aVY (r:=r') (eD l _ hx) (by rw [h2]; simp [List.flatMap]) ha);rw [fE,fE] at h;exact h
  ·rename_i x a b c hx hm;cases hg;obtain ⟨h1,r',h2⟩:=uX hm;have hn : n = 3:=h1.symm;subst hn;have h:=aH aG Et aL func165 (Qo x a b c k) trivial (args:=args) (w:=w) (aVY (r:=r') (eD l _ hx) (by rw [h2]; simp [List.flatMap]) ha);rw [fE x,fE a,fE b,fE c,fE,fE] at h;exact h
  ·cases hg
 ·cases hg
def aSc : Tab:=Nu.add 165 RB
theorem xG : TabOk prog aSc:=Et.ad func165 Ga
def hXr (y : aM) : aM:=aD.mul (aD.mul (aD.mul (dV (bP 3).toNat y) (dV (bP 2).toNat (aD.mul y (QX y)))) (dV (bP 1).toNat (aD.mul y (bZ (hG y))))) (bZ (hR y))
theorem aPw (y : aM) : hXr y = hX y:=by
 unfold hXr hX;rw [show (bP 3).toNat = 3 by decide,show (bP 2).toNat = 2 by decide,show (bP 1).toNat = 1 by decide]
def cPd : Nat → Cfg:=fun _ => ⟨fun _ => aSc,fun _ => true,fun _ => none⟩
def fS : Code:=(f111.body).getD .skip
theorem aUW (y : aM) : aY prog qN f111.ntmps cPd 40 (cA fS) (kV 0 [.v (.fl (aN y))]) [.slot 1 (.pt 1 0),.row 1 true (aN y),.slot 2 (.pt 2 0),.row 2 true (aN aD.zero)] = some ([],.nrm,[.slot 1 (.pt 1 0),.row 1 true (aN y),.slot 2 (.pt 2 0),.row 2 true (aN aD.zero)]):=by kernel_rfl
theorem aUV (y : aM) : aY prog qN f111.ntmps cPd 40 (cA (cB fS)) [.slot 1 (.pt 1 0),.row 1 true (aN y),.slot 2 (.pt 2 0),.row 2 true (aN aD.zero)] [.slot 3 (.pt 3 0),.row 3 true (aN (o6 y)),.slot 1 (.pt 1 0),.row 1 true (aN y),.slot 2 (.pt 2 0),.row 2 true (aN aD.zero)] = some ([qH y],.nrm,[.slot 3 (.pt 3 0),.row 3 true (aN (o6 y)),.slot 1 (.pt 1 0),.row 1 true (aN y),.slot 2 (.pt 2 0),.row 2 true (aN aD.zero)]):=by kernel_rfl
theorem aUU (y s : aM) : aY prog qN f111.ntmps cPd 40 (cA (cB (cB fS))) [.slot 3 (.pt 3 0),.row 3 true (aN s),.slot 1 (.pt 1 0),.row 1 true (aN y),.slot 2 (.pt 2 0),.row 2 true (aN aD.zero)] [.slot 4 (.pt 4 0),.row 4 true (aN (ox s)),.slot 3 (.pt 3 0),.row 3 true (aN s),.slot 1 (.pt 1 0),.row 1 true (aN y),.slot 2 (.pt 2 0),.row 2 true (aN aD.zero)] = some ([qH s],.nrm,[.slot 4 (.pt 4 0),.row 4 true (aN (ox s)),.slot 3 (.pt 3 0),.row 3 true (aN s),.slot 1 (.pt 1 0),.row 1 true (aN y),.slot 2 (.pt 2 0),.row 2 true (aN aD.zero)]):=by kernel_rfl
theorem aUT (y s q : aM) : aY prog qN f111.ntmps cPd 40 (cA (cB (cB (cB fS)))) [.slot 4 (.pt 4 0),.row 4 true (aN q),.slot 3 (.pt 3 0),.row 3 true (aN s),.slot 1 (.pt 1 0),.row 1 true (aN y),.slot 2 (.pt 2 0),.row 2 true (aN aD.zero)] [.slot 5 (.pt 5 0),.row 5 true (aN (o6 q)),.slot 4 (.pt 4 0),.row 4 true (aN q),.slot 3 (.pt 3 0),.row 3 true (aN s),.slot 1 (.pt 1 0),.row 1 true (aN y),.slot 2 (.pt 2 0),.row 2 true (aN aD.zero)] = some ([qH q],.nrm,[.slot 5 (.pt 5 0),.row 5 true (aN (o6 q)),.slot 4 (.pt 4 0),.row 4 true (aN q),.slot 3 (.pt 3 0),.row 3 true (aN s),.slot 1 (.pt 1 0),.row 1 true (aN y),.slot 2 (.pt 2 0),.row 2 true (aN aD.zero)]):=by kernel_rfl
theorem aUS (y s q c : aM) : aY prog qN f111.ntmps cPd 40 (cA (cB (cB (cB (cB fS))))) [.slot 5 (.pt 5 0),.row 5 true (aN c),.slot 4 (.pt 4 0),.row 4 true (aN q),.slot 3 (.pt 3 0),.row 3 true (aN s),.slot 1 (.pt 1 0),.row 1 true (aN y),.slot 2 (.pt 2 0),.row 2 true (aN aD.zero)] [.slot 6 (.pt 6 0),.row 6 true (aN (aD.mul q q)),.slot 5 (.pt 5 0),.row 5 true (aN c),.slot 4 (.pt 4 0),.row 4 true (aN q),.slot 3 (.pt 3 0),.row 3 true (aN s),.slot 1 (.pt 1 0),.row 1 true (aN y),.slot 2 (.pt 2 0),.row 2 true (aN aD.zero)] = some ([qH q],.nrm,[.slot 6 (.pt 6 0),.row 6 true (aN (aD.mul q q)),.slot 5 (.pt 5 0),.row 5 true (aN c),.slot 4 (.pt 4 0),.row 4 true (aN q),.slot 3 (.pt 3 0),.row 3 true (aN s),.slot 1 (.pt 1 0),.row 1 true (aN y),.slot 2 (.pt 2 0),.row 2 true (aN aD.zero)]):=by kernel_rfl
theorem aUR (y s q c t : aM) : aY prog qN f111.ntmps cPd 40 (cA (cB (cB (cB (cB (cB fS)))))) [.slot 6 (.pt 6 0),.row 6 true (aN t),.slot 5 (.pt 5 0),.row 5 true (aN c),.slot 4 (.pt 4 0),.row 4 true (aN q),.slot 3 (.pt 3 0),.row 3 true (aN s),.slot 1 (.pt 1 0),.row 1 true (aN y),.slot 2 (.pt 2 0),.row 2 true (aN aD.zero)] [.slot 7 (.pt 7 0),.row 7 true (aN (aD.mul (aD.mul (aD.mul c q) t) (aD.mul s s))),.slot 6 (.pt 6 0),.row 6 true (aN t),.slot 5 (.pt 5 0),.row 5 true (aN c),.slot 4 (.pt 4 0),.row 4 true (aN q),.slot 3 (.pt 3 0),.row 3 true (aN s),.slot 1 (.pt 1 0),.row 1 true (aN y),.slot 2 (.pt 2 0),.row 2 true (aN aD.zero)] = some ([qH s],.nrm,[.slot 7 (.pt 7 0),.row 7 true (aN (aD.mul (aD.mul (aD.mul c q) t) (aD.mul s s))),.slot 6 (.pt 6 0),.row 6 true (aN t),.slot 5 (.pt 5 0),.row 5 true (aN c),.slot 4 (.pt 4 0),.row 4 true (aN q),.slot 3 (.pt 3 0),.row 3 true (aN s),.slot 1 (.pt 1 0),.row 1 true (aN y),.slot 2 (.pt 2 0),.row 2 true (aN aD.zero)]):=by kernel_rfl
theorem aUQ (y s q c t g : aM) : aY prog qN f111.ntmps cPd 40 (cA (cB (cB (cB (cB (cB (cB fS))))))) [.slot 7 (.pt 7 0),.row 7 true (aN g),.slot 6 (.pt 6 0),.row 6 true (aN t),.slot 5 (.pt 5 0),.row 5 true (aN c),.slot 4 (.pt 4 0),.row 4 true (aN q),.slot 3 (.pt 3 0),.row 3 true (aN s),.slot 1 (.pt 1 0),.row 1 true (aN y),.slot 2 (.pt 2 0),.row 2 true (aN aD.zero)] [.slot 8 (.pt 8 0),.row 8 true (aN (aD.mul (aD.mul (aD.mul g t) s) (aD.mul y y))),.slot 7 (.pt 7 0),.row 7 true (aN g),.slot 6 (.pt 6 0),.row 6 true (aN t),.slot 5 (.pt 5 0),.row 5 true (aN c),.slot 4 (.pt 4 0),.row 4 true (aN q),.slot 3 (.pt 3 0),.row 3 true (aN s),.slot 1 (.pt 1 0),.row 1 true (aN y),.slot 2 (.pt 2 0),.row 2 true (aN aD.zero)] = some ([qH y],.nrm,[.slot 8 (.pt 8 0),.row 8 true (aN (aD.mul (aD.mul (aD.mul g t) s) (aD.mul y y))),.slot 7 (.pt 7 0),.row 7 true (aN g),.slot 6 (.pt 6 0),.row 6 true (aN t),.slot 5 (.pt 5 0),.row 5 true (aN c),.slot 4 (.pt 4 0),.row 4 true (aN q),.slot 3 (.pt 3 0),.row 3 true (aN s),.slot 1 (.pt 1 0),.row 1 true (aN y),.slot 2 (.pt 2 0),.row 2 true (aN aD.zero)]):=by kernel_rfl
theorem aUP (y s q c t g h : aM) : aY prog qN f111.ntmps cPd 40 (cB (cB (cB (cB (cB (cB (cB fS))))))) [.slot 8 (.pt 8 0),.row 8 true (aN h),.slot 7 (.pt 7 0),.row 7 true (aN g),.slot 6 (.pt 6 0),.row 6 true (aN t),.slot 5 (.pt 5 0),.row 5 true (aN c),.slot 4 (.pt 4 0),.row 4 true (aN q),.slot 3 (.pt 3 0),.row 3 true (aN s),.slot 1 (.pt 1 0),.row 1 true (aN y),.slot 2 (.pt 2 0),.row 2 true (aN aD.zero)] [.slot 2 (.pt 2 0),.row 2 true (aN (aD.mul (aD.mul (aD.mul (dV (bP 3).toNat y) (dV (bP 2).toNat (aD.mul y q))) (dV (bP 1).toNat (aD.mul y (bZ g)))) (bZ h)))] = some ([],.rt,[.slot 2 (.pt 2 0),.row 2 true (aN (aD.mul (aD.mul (aD.mul (dV (bP 3).toNat y) (dV (bP 2).toNat (aD.mul y q))) (dV (bP 1).toNat (aD.mul y (bZ g)))) (bZ h)))]):=by kernel_rfl
theorem aIc : fS = .seq (cA fS) (.seq (cA (cB fS)) (.seq (cA (cB (cB fS))) (.seq (cA (cB (cB (cB fS)))) (.seq (cA (cB (cB (cB (cB fS))))) (.seq (cA (cB (cB (cB (cB (cB fS)))))) (.seq (cA (cB (cB (cB (cB (cB (cB fS))))))) ((cB (cB (cB (cB (cB (cB (cB fS)))))))))))))):=by kernel_rfl
theorem Fz (y : aM) (hy : qH y) (args : List Value) (w : World) (ha : bR w [.v (.fl (aN y))] args) : Good prog 111 (.one (.fl (aN (hX y)))) args w:=by
 have h6 : qH (qJ y):=QS hy _;have h2 : qH (QX y):=QS h6 _;refine dS func111 (c:=fS) rfl ha (Nat.le_of_ble_eq_true (by kernel_rfl)) fun a w' hA => ?_
 rw [aIc];refine wp_seq (bC aG (fun _ _ => xG) aL (aUW y) trivial hA fun a w' hA => ?_);refine wp_seq (bC aG (fun _ _ => xG) aL (aUV y) ⟨hy,trivial⟩ hA fun a w' hA => ?_);rw [show o6 y = qJ y from aBq y] at hA;refine wp_seq (bC aG (fun _ _ => xG) aL (aUU y (qJ y)) ⟨h6,trivial⟩ hA fun a w' hA => ?_);rw [show ox (qJ y) = QX y from aJY _] at hA;refine wp_seq (bC aG (fun _ _ => xG) aL (aUT y (qJ y) (QX y)) ⟨h2,trivial⟩ hA fun a w' hA => ?_);rw [show o6 (QX y) = hCu y from aBq _] at hA;refine wp_seq (bC aG (fun _ _ => xG) aL (aUS y (qJ y) (QX y) (hCu y)) ⟨h2,trivial⟩ hA fun a w' hA => ?_);refine wp_seq (bC aG (fun _ _ => xG) aL (aUR y (qJ y) (QX y) (hCu y) (hT y)) ⟨h6,trivial⟩ hA fun a w' hA => ?_);refine wp_seq (bC aG (fun _ _ => xG) aL (aUQ y (qJ y) (QX y) (hCu y) (hT y) (hG y)) ⟨hy,trivial⟩ hA fun a w' hA => ?_);have h:=aUP y (qJ y) (QX y) (hCu y) (hT y) (hG y) (hR y);refine bC aG (fun _ _ => xG) aL h trivial hA fun a w' hA => ?_
 rw [← aPw];exact eJ (l:=[.fl (aN (hXr y))]) (by kernel_rfl) (by kernel_rfl) hA
def aSd : Tab:=aSc.add 111 (g1 pV fun y => ([qH y],.one (.fl (aN (hX y)))))
theorem aKw : TabOk prog aSd:=xG.ad func111 (bJ eD fun y hp args w ha => Fz y hp.1 args w ha)
def eZr (a : aM) : aM:=aD.mul (fW (kR (dV (bP 2).toNat (aD.mul (fW (kR (bZ a))) (fW (kR (jW a))))))) (fW (kR (aD.mul (fW (kR (bZ a))) (fW (kR (jW a))))))
theorem aDl (a : aM) : eZr a = eZ a:=by
 unfold eZr eZ;rw [fE,fE,fE,fE,aUO]
theorem Yp (x : sS) : bK prog aSd qN (fun _ => true) f53 60 [.v (.fl (tC x))] = some ([vF (fW x) ≠ F1.zero,qH (eZr (fW x))],.one (.fl (aN (hX (eZr (fW x)))))):=by kernel_rfl
def aWg : Tab:=aSd.add 53 (g1 Dt fun x => ([vF (fW x) ≠ F1.zero],.one (.fl (aN (kD (fW x))))))
theorem aUp : TabOk prog aWg:=aKw.ad func53 (bJ wQ fun x hp args w ha => by
 have h:=aH aG aKw aL func53 (Yp x) ⟨hp.1,by rw [aDl]; exact aLc hp.1,trivial⟩ (args:=args) (w:=w) ha;rw [aDl] at h;exact h)
def Lq : Nat:=29793968203157093288
def KN : List Int:=[0,0,0,1,0,1,0,-1,0,0,-1,0,0,0,1,0,0,-1,0,-1,0,0,0,1,0,-1,0,0,0,0,-1,0,0,1,0,-1,0,0,1,0,0,0,0,0,-1,0,0,-1,0,1,0,-1,0,0,0,-1,0,-1,0,0,0,1,0,-1,0,1]
theorem aFO : aX prog (qG prog) cSg f112 300 [.v (.fl (q1 Lq))] = some ([wv Lq + wv Lq < 115792089237316195423570985008687907853269984665640564039457584007913129639936,wv (wv Lq + wv Lq) + wv Lq < 115792089237316195423570985008687907853269984665640564039457584007913129639936],.one (.fl (dA KN))):=by kernel_rfl
theorem aMY : Vd Lq KN:=fun args w ha => aB aG (fun _ _ => Ke) (aK _) func112 aFO ⟨by decide +kernel,by decide +kernel,trivial⟩ ha
def aLH : Tab:=aSa.add 70 (g0 (.one (.fl [.f s6F])))
theorem aOH : TabOk prog aLH:=Ke.ad func70 (gP fun w => aH aG YF aL func70 Iz trivial (args:=[]) trivial)
theorem aNe : aX prog (qG prog) (fun _ => ⟨fun _ => aLH,fun _ => true,fun _ => none⟩) f113 60 [] = some ([wv s6F.1 + wv 2 < 115792089237316195423570985008687907853269984665640564039457584007913129639936],.one (.fl (q1 (wv s6F.1 + wv 2)))):=by kernel_rfl
theorem aUG : wv s6F.1 + wv 2 = Lq:=by decide +kernel
def aLz : Tab:=Va.add 113 (g0 (.one (.fl (q1 Lq))))
theorem aOz : TabOk prog aLz:=YA.ad func113 (gP fun w => by
 have h:=aB aG (fun _ _ => aOH) (aK _) func113 aNe ⟨by decide +kernel,trivial⟩ (args:=[]) (w:=w) trivial;rw [aUG] at h;exact h)
def yA : Tab:=aLz.add 112 (gSg Lq KN)
theorem aPG {N : Nat} {D : List Int} (h : Vd N D) : ∀ cs pre r,gSg N D cs = some (pre,r) → aZ pre → ∀ (args : List Value) (w : World),bR w cs args → Good prog 112 r args w:=by
 intro cs pre r hg hp args w ha;unfold gSg at hg;split at hg
 ·rename_i l;split at hg
  ·rename_i n hn;cases hg;obtain ⟨rfl,_⟩:=hp;refine h args w ?_
   match args,ha with
   | [v],ha =>
    refine ⟨?_,trivial⟩;show v = .agg (aA (q1 n)).toArray;rw [← fQ l n hn];exact ha.1
   | [],ha => exact ha.elim
   | _ :: _ :: _,ha => exact ha.2.elim
  ·cases hg
 ·cases hg
theorem oX : TabOk prog yA:=aOz.ad func112 (aPG aMY)
def oA : Code:=(f54.body).getD .skip
def tY : Nat:=f54.ntmps
def lp3 : Code:=cA (cB (cB (cB oA)))
def lp4 : Code:=cB (cB (cB (cB oA)))
def lpO : Code:=pO (pO (cB lp3))
def lpX : Code:=pO (cA (cB lpO))
def lpI : Code:=pO (pO (cB (cB lpX)))
def lpE : Code:=pO (pO (cB (cA lp4)))
theorem aHM : oA = .seq (cA oA) (.seq (cA (cB oA)) (.seq (cA (cB (cB oA))) (.seq (.seq (cA lp3) (.block 0 (.loop lpO))) (.seq (.seq (cA (cA lp4)) (.block 4 (.loop lpE))) (cB lp4))))):=by kernel_rfl
theorem YX : lpO = .seq (cA lpO) (.seq (.block 1 (.seq (cA lpX) (.seq (cA (cB lpX)) (.block 2 (.loop lpI))))) (cB (cB lpO))):=by kernel_rfl
def cL (l : List (Nat × Value)) : Nat → Cfg:=fun _ => ⟨fun _ => yA,fun _ => true,assoc l⟩
theorem nD (l : List (Nat × Value)) (base : Nat) (w0 : World) : ∀ n d,TabOkW prog ((cL l n).T d) base w0:=fun _ _ => oX.w _ _
def q0 : EqT:=Zq prog (BQ []) (BQ []) Oc
theorem gN (base : Nat) (w0 : World) : cN prog q0 base w0:=nX (eE _) _ _
def lA0 (b N n m : Nat) (l : List At) : List Fact:=[.slot 0 (.sl 0 0 n m),.row 0 true l,.at 0 b,.at tY N,.slot 2 (.pt 2 0),.row 2 true (aN aD.zero)]
def lA1 (b N n m : Nat) (l : List At) (f : aM) : List Fact:=[.slot 0 (.sl 0 0 n m),.row 0 true l,.at 0 b,.at tY N,.slot 2 (.pt 2 0),.row 2 true (aN aD.zero),.slot 3 (.pt 3 0),.row 3 true (aN f)]
def lA2 (b N n m : Nat) (l : List At) (f : aM) : List Fact:=[.slot 0 (.sl 0 0 n m),.row 0 true l,.at 0 b,.at tY N,.slot 2 (.pt 2 0),.row 2 true (aN aD.zero),.slot 3 (.pt 3 0),.row 3 true (aN f),.slot 4 (.pt 4 0),.row 4 true (dA KN)]
def lA (b N n m : Nat) (l : List At) (f : aM) (k : Int) : List Fact:=[.slot 0 (.sl 0 0 n m),.row 0 true l,.at 0 b,.at tY N,.slot 2 (.pt 2 0),.row 2 true (aN aD.zero),.slot 3 (.pt 3 0),.row 3 true (aN f),.slot 4 (.pt 4 0),.row 4 true (dA KN),.slot 5 (.im (.int .i64 k))]
def lB (b N n m : Nat) (l : List At) (f : aM) (k : Int) (j : Nat) : List Fact:=[.slot 0 (.sl 0 0 n m),.row 0 true l,.at 0 b,.at tY N,.slot 2 (.pt 2 0),.row 2 true (aN aD.zero),.slot 3 (.pt 3 0),.row 3 true (aN f),.slot 4 (.pt 4 0),.row 4 true (dA KN),.slot 5 (.im (.int .i64 k)),.slot 18 (.im (iI n)),.slot 19 (.im (iI j))]
theorem aYk (b N n m : Nat) (l : List At) : aY prog q0 tY (cL []) 40 (cA oA) (Uw tY b N (.sl 0 0 n m) l []) (lA0 b N n m l) = some ([],.nrm,lA0 b N n m l):=by kernel_rfl
theorem aYj (b N n m : Nat) (l : List At) : aY prog q0 tY (cL []) 40 (cA (cB oA)) (lA0 b N n m l) (lA1 b N n m l aD.one) = some ([],.nrm,lA1 b N n m l aD.one):=by kernel_rfl
theorem aYi (b N n m : Nat) (l : List At) (f : aM) : aY prog q0 tY (cL []) 40 (cA (cB (cB oA))) (lA1 b N n m l f) (lA2 b N n m l f) = some ([Lq = Lq],.nrm,lA2 b N n m l f):=by kernel_rfl
theorem aYh (b N n m : Nat) (l : List At) (f : aM) : aY prog q0 tY (cL []) 40 (cA lp3) (lA2 b N n m l f) (lA b N n m l f 64) = some ([],.nrm,lA b N n m l f 64):=by kernel_rfl
theorem l_c (b N n m : Nat) (l : List At) (f : aM) (k : Int) : aY prog q0 tY (cL [(12,.bool true)]) 40 (cA lpO) (lA b N n m l f k) (lA b N n m l f k) = some ([aI .geq .i64 k 0 = some (.bool true)],.nrm,lA b N n m l f k):=by kernel_rfl
theorem l_x (b N n m : Nat) (l : List At) (f : aM) (k : Int) : aY prog q0 tY (cL [(12,.bool false)]) 40 (cA lpO) (lA b N n m l f k) (lA2 b N n m l f) = some ([aI .geq .i64 k 0 = some (.bool false)],.ex 0,lA2 b N n m l f):=by kernel_rfl
theorem aYg (b N n m : Nat) (l : List At) (f : aM) (k : Int) : aY prog q0 tY (cL []) 40 (cA lpX) (lA b N n m l f k) (lA b N n m l (aD.mul f f) k) = some ([],.nrm,lA b N n m l (aD.mul f f) k):=by kernel_rfl
theorem aYl (b N n m : Nat) (l : List At) (f : aM) (k : Int) : aY prog q0 tY (cL []) 40 (cA (cB lpX)) (lA b N n m l f k) (lB b N n m l f k 0) = some ([],.nrm,lB b N n m l f k 0):=by kernel_rfl
theorem aYm (b N n m : Nat) (l : List At) (f : aM) (k k' : Int) : aY prog q0 tY (cL [(14,.int .i64 k')]) 40 (cB (cB lpO)) (lA b N n m l f k) (lA b N n m l f k') = some ([aI .sub .i64 k 1 = some (.int .i64 k')],.nrm,lA b N n m l f k'):=by kernel_rfl
theorem aYo (b N n m : Nat) (l : List At) (f : aM) (k : Int) (j : Nat) : aY prog q0 tY (cL [(20,.bool false)]) 40 lpI (lB b N n m l f k j) (lA b N n m l f k) = some ([aI .lss .i64 (Int.ofNat j) (Int.ofNat n) = some (.bool false)],.ex 2,lA b N n m l f k):=by kernel_rfl
def T5i (l l1 : List At) (j : Nat) (f g : aM) (d : Int) : Tab5:=Oc.add 115 (pe2 l (50 * j) (oG f) (.int .i64 d) (.one (.fl (oG g))) l1)
def qI (l l1 : List At) (j kk : Nat) (f g : aM) (d : Int) : EqT:=qPx prog (BQ []) (BQ []) (assoc [(24,j),(28,kk)]) (assoc [(29,.int .i64 d)]) (T5i l l1 j f g d)
section
variable {R A Q S : Type} (K : CR R) (lfG : A → Q → Int → S → R) (npG : Q → Int → S → S) (ewG : A → Q → S → R)
theorem GM (d : Int) : ∀ (a b : List (A × Q × S)) (f : R),jF K lfG d f (a ++ b) = jF K lfG d (jF K lfG d f a) b
 | [],b,f => rfl
 | W :: a,b,f => GM d a b _
theorem MV : ∀ (a b : List (A × Q × S)) (f : R),lO K ewG f (a ++ b) = lO K ewG (lO K ewG f a) b
 | [],b,f => rfl
 | W :: a,b,f => MV a b _
theorem WK : ∀ (a b : List Int) (s : R × List (A × Q × S)),lU K lfG npG (a ++ b) s = lU K lfG npG b (lU K lfG npG a s)
 | [],b,s => rfl
 | d :: a,b,s => WK a b _
theorem nE {α : Type} {l : List α} {j : Nat} {x : α} (h : l[j]? = some x) : ∃ a b,l = a ++ x :: b ∧ a.length = j ∧ l.take j = a ∧ l.drop j = x :: b ∧ l.take (j + 1) = a ++ [x] ∧ l.drop (j + 1) = b:=by
 obtain ⟨hlt,he⟩:=List.getElem?_eq_some_iff.1 h;refine ⟨l.take j,l.drop (j + 1),by rw [← he,List.getElem_cons_drop hlt,List.take_append_drop],by rw [List.length_take]; omega,rfl,by rw [← he,List.getElem_cons_drop hlt],by rw [List.take_add_one,h]; rfl,rfl⟩
theorem Fl {d : Int} {f : R} {Ws : List (A × Q × S)} {j : Nat} {W : A × Q × S} (h : Ws[j]? = some W) : jF K lfG d f (Ws.take (j + 1)) = K.mul (jF K lfG d f (Ws.take j)) (lfG W.1 W.2.1 d W.2.2):=by
 obtain ⟨a,b,_,_,h1,_,h2,_⟩:=nE h;rw [h1,h2,GM];rfl
theorem Uh {f : R} {Ws : List (A × Q × S)} {j : Nat} {W : A × Q × S} (h : Ws[j]? = some W) : lO K ewG f (Ws.take (j + 1)) = K.mul (lO K ewG f (Ws.take j)) (ewG W.1 W.2.1 W.2.2):=by
 obtain ⟨a,b,_,_,h1,_,h2,_⟩:=nE h;rw [h1,h2,MV];rfl
theorem Zb (p : Q → Prop) : ∀ (ds : List Int) (s : R × List (A × Q × S)),(∀ W ∈ s.2,p W.2.1) → ∀ W ∈ (lU K lfG npG ds s).2,p W.2.1
 | [],s,h => h
 | d :: ds,s,h => Zb p ds _ fun W hW => by
  obtain ⟨V,hV,rfl⟩:=List.mem_map.1 hW;exact h V hV
theorem EV : ∀ (ds : List Int) (s : R × List (A × Q × S)),(lU K lfG npG ds s).2.length = s.2.length
 | [],s => rfl
 | d :: ds,s => by
  show (lU K lfG npG ds _).2.length = _;rw [EV ds];exact List.length_map _
end
def GL {α : Type} (g : α → α) (l : List α) (j : Nat) : List α:=(l.take j).map g ++ l.drop j
theorem Lj {α : Type} (g : α → α) {l : List α} {j : Nat} {x : α} (h : l[j]? = some x) : (GL g l j)[j]? = some x:=by
 obtain ⟨a,b,_,h0,h1,h2,_⟩:=nE h;unfold GL;rw [h1,h2,List.getElem?_append_right (by rw [List.length_map,h0]; exact Nat.le_refl _),List.length_map,h0,Nat.sub_self];rfl
theorem Li {α : Type} (g : α → α) {l : List α} {j : Nat} {x : α} (h : l[j]? = some x) : (GL g l j).set j (g x) = GL g l (j + 1):=by
 obtain ⟨a,b,_,h0,h1,h2,h3,h4⟩:=nE h;unfold GL;rw [h1,h2,h3,h4,← h0];simp
theorem aKK {α : Type} (g : α → α) (l : List α) : GL g l 0 = l:=by simp [GL]
theorem Lk {α : Type} (g : α → α) (l : List α) : GL g l l.length = l.map g:=by simp [GL]
theorem aYn (b N n m j kk : Nat) (l l1 : List At) (f g : aM) (k d : Int) : aY prog (qI l l1 j kk f g d) tY (cL [(20,.bool true),(32,iI (j + 1))]) 40 lpI (lB b N n m l f k j) (lB b N n m l1 g k (j + 1)) =
  some ([aI .lss .i64 (Int.ofNat j) (Int.ofNat n) = some (.bool true),Int.ofNat j = Int.ofNat j,j < n,k = Int.ofNat kk,kk < 66,cellAt (dA KN) (0 + kk * 1) = some (.int .i64 d),l = l,0 + j * 50 = 50 * j,aA (oG f) = aA (oG f),Value.int .i64 d = .int .i64 d,aI .add .i64 (Int.ofNat j) 1 = some (iI (j + 1))],.nrm,lB b N n m l1 g k (j + 1)):=by kernel_rfl
def lE (b N n m : Nat) (l : List At) (f : aM) (j : Nat) : List Fact:=[.slot 0 (.sl 0 0 n m),.row 0 true l,.at 0 b,.at tY N,.slot 2 (.pt 2 0),.row 2 true (aN aD.zero),.slot 3 (.pt 3 0),.row 3 true (aN f),.slot 4 (.pt 4 0),.row 4 true (dA KN),.slot 34 (.im (iI n)),.slot 35 (.im (iI j))]
def lF (b N : Nat) (l : List At) (f : aM) : List Fact:=[.slot 2 (.pt 2 0),.row 2 true (aN f),.row 0 true l,.at 0 b,.at tY N]
theorem aUI (b N n m : Nat) (l : List At) (f : aM) : aY prog q0 tY (cL []) 40 (cA (cA lp4)) (lA2 b N n m l f) (lE b N n m l f 0) = some ([],.nrm,lE b N n m l f 0):=by kernel_rfl
theorem aYq (b N n m : Nat) (l : List At) (f : aM) (j : Nat) : aY prog q0 tY (cL [(36,.bool false)]) 40 lpE (lE b N n m l f j) (lA2 b N n m l f) = some ([aI .lss .i64 (Int.ofNat j) (Int.ofNat n) = some (.bool false)],.ex 4,lA2 b N n m l f):=by kernel_rfl
def T5f (l l1 : List At) (j : Nat) (f g : aM) : Tab5:=Oc.add 118 (pe1 l (50 * j) (oG f) (.one (.fl (oG g))) l1)
def qE (l l1 : List At) (j : Nat) (f g : aM) : EqT:=qPx prog (BQ []) (BQ []) (assoc [(40,j)]) (assoc []) (T5f l l1 j f g)
theorem aYp (b N n m j : Nat) (l l1 : List At) (f g : aM) : aY prog (qE l l1 j f g) tY (cL [(36,.bool true),(45,iI (j + 1))]) 40 lpE (lE b N n m l f j) (lE b N n m l1 g (j + 1)) =
  some ([aI .lss .i64 (Int.ofNat j) (Int.ofNat n) = some (.bool true),Int.ofNat j = Int.ofNat j,j < n,l = l,0 + j * 50 = 50 * j,aA (oG f) = aA (oG f),aI .add .i64 (Int.ofNat j) 1 = some (iI (j + 1))],.nrm,lE b N n m l1 g (j + 1)):=by kernel_rfl
theorem aUJ (b N n m : Nat) (l : List At) (f : aM) : aY prog q0 tY (cL []) 40 (cB lp4) (lA2 b N n m l f) (lF b N l f) = some ([],.rt,lF b N l f):=by kernel_rfl
theorem aSe {Ws : List Wk} {j : Nat} {W : Wk} (h : Ws[j]? = some W) (f : aM) (d : Int) (hd : d = 0 ∨ d = 1 ∨ d = -1) : PtOk prog (T5i (rows Ws) (rows (Ws.set j (Xh np d W))) j f (aD.mul f (lf W.1 W.2.1 d W.2.2)) d) :=
 (eE _).ad func115 (aNz (Bn h f d hd))
theorem aSf {Ws : List Wk} {j : Nat} {a : Fq × Fq} {q : Q2 × Q2} {p : J2} (h : Ws[j]? = some (a,q,p)) (f : aM) (hq : On F2 dG (some q)) : PtOk prog (T5f (rows Ws) (rows (Ws.set j (enW (a,q,p)))) j f (aD.mul f (ew a q p))) :=
 (eE _).ad func118 (Ek (Ui h f hq))
section
variable {N n m b : Nat} {w0 : World} {Q : Exit → Act → World → Prop}
theorem aCe {Ws : List Wk} (hn : Ws.length = n) (hlt : n < 4611686018427387904) {f : aM} {k d : Int} {kk : Nat} (hk : k = Int.ofNat kk) (hkk : kk < 66) (hc : cellAt (dA KN) (0 + kk * 1) = some (.int .i64 d)) (hd : d = 0 ∨ d = 1 ∨ d = -1) {a : Act} {w : World}
  (h : Holds tY b w0 (lB b N n m (rows Ws) f k 0) a w) (hQ : ∀ a w,Holds tY b w0 (lA b N n m (rows (Ws.map (Xh np d))) (jF aD lf d f Ws) k) a w → Q .normal a w) : (Code.block 2 (.loop lpI)).wp prog Q a w:=by
 refine wp_block ?_;refine pC (fun j a w => Holds tY b w0 (lB b N n m (rows (GL (Xh np d) Ws j)) (jF aD lf d f (Ws.take j)) k j) a w) n (fun j hj a w hA R hR => ?_) (fun a w hA R => ?_) (by rw [aKK,List.take_zero]; exact h)
 ·obtain ⟨W,hW⟩ : ∃ W,Ws[j]? = some W:=⟨_,List.getElem?_eq_getElem (by omega)⟩
  have ht:=aSe (Lj (Xh np d) hW) (jF aD lf d f (Ws.take j)) d hd;rw [Li (Xh np d) hW] at ht;rw [← Fl aD lf hW] at ht;refine aC aG (nD _ _ _) (jA ht _ _) (aYn b N n m j kk _ _ _ _ k d) ⟨bX hj,rfl,hj,hk,hkk,hc,rfl,by omega,rfl,rfl,kQ (k:=1) (by omega),trivial⟩ hA fun a w hA => hR a w hA
 ·refine aC aG (nD _ _ _) (gN _ _) (aYo b N n m _ _ k n) ⟨eI (Nat.le_refl _),trivial⟩ hA fun a w hA => ?_
  subst hn;rw [Lk,List.take_length] at hA;exact hQ a w hA
theorem aIG {Ws : List Wk} (hn : Ws.length = n) (hlt : n < 4611686018427387904) (hq : ∀ W ∈ Ws,On F2 dG (some W.2.1)) {f : aM} {a : Act} {w : World}
  (h : Holds tY b w0 (lE b N n m (rows Ws) f 0) a w) (hQ : ∀ a w,Holds tY b w0 (lA2 b N n m (rows (Ws.map enW)) (lO aD ew f Ws)) a w → Q .normal a w) : (Code.block 4 (.loop lpE)).wp prog Q a w:=by
 refine wp_block ?_;refine pC (fun j a w => Holds tY b w0 (lE b N n m (rows (GL enW Ws j)) (lO aD ew f (Ws.take j)) j) a w) n (fun j hj a w hA R hR => ?_) (fun a w hA R => ?_) (by rw [aKK,List.take_zero]; exact h)
 ·obtain ⟨W,hW⟩ : ∃ W,Ws[j]? = some W:=⟨_,List.getElem?_eq_getElem (by omega)⟩
  obtain ⟨pa,pq,pp⟩:=W;have ht:=aSf (Lj enW hW) (lO aD ew f (Ws.take j)) (hq _ (List.mem_of_getElem? hW));rw [Li enW hW] at ht;have e:=Uh aD ew (f:=f) hW;dsimp only at e;rw [← e] at ht;refine aC aG (nD _ _ _) (jA ht _ _) (aYp b N n m j _ _ _ _) ⟨bX hj,rfl,hj,rfl,by omega,rfl,kQ (k:=1) (by omega),trivial⟩ hA fun a w hA => hR a w hA
 ·refine aC aG (nD _ _ _) (gN _ _) (aYq b N n m _ _ n) ⟨eI (Nat.le_refl _),trivial⟩ hA fun a w hA => ?_
  subst hn;rw [Lk,List.take_length] at hA;exact hQ a w hA
theorem aVJ : (List.range 65).all (fun i => decide (tO.take (i + 1) = tO.take i ++ [dI KN (64 - i)]) && decide (dI KN (64 - i) = 0 ∨ dI KN (64 - i) = 1 ∨ dI KN (64 - i) = -1)) = true:=by kernel_rfl
theorem aQA {i : Nat} (h : i < 65) : tO.take (i + 1) = tO.take i ++ [dI KN (64 - i)] ∧ (dI KN (64 - i) = 0 ∨ dI KN (64 - i) = 1 ∨ dI KN (64 - i) = -1):=by
 have:=List.all_eq_true.1 aVJ i (List.mem_range.2 h);rw [Bool.and_eq_true,decide_eq_true_eq,decide_eq_true_eq] at this;exact this
theorem aQz : tO.take 65 = tO:=by kernel_rfl
theorem aKA (k : Int) : aI .geq .i64 k 0 = some (.bool (decide (k ≥ 0))):=rfl
theorem aAE {Ws : List Wk} (hn : Ws.length = n) (hlt : n < 4611686018427387904) {f : aM} {a : Act} {w : World}
  (h : Holds tY b w0 (lA b N n m (rows Ws) f 64) a w) (hQ : ∀ a w,Holds tY b w0 (lA2 b N n m (rows (lU aD lf np tO (f,Ws)).2) (lU aD lf np tO (f,Ws)).1) a w → Q .normal a w) : (Code.block 0 (.loop lpO)).wp prog Q a w:=by
 refine wp_block ?_;refine pC (fun i a w => Holds tY b w0 (lA b N n m (rows (lU aD lf np (tO.take i) (f,Ws)).2) (lU aD lf np (tO.take i) (f,Ws)).1 (64 - (i : Int))) a w) 65 (fun i hi a w hA R hR => ?_) (fun a w hA R => ?_) (by rw [List.take_zero,show (64 : Int) - ((0 : Nat) : Int) = 64 from rfl]; exact h)
 ·obtain ⟨h1,h2⟩:=aQA hi;have hl:=EV aD lf np (tO.take i) (f,Ws);rw [show lU aD lf np (tO.take (i + 1)) (f,Ws) = _ from (congrArg (fun x => lU aD lf np x (f,Ws)) h1).trans (WK aD lf np _ _ _)] at hR;generalize lU aD lf np (tO.take i) (f,Ws) = s at hA hR hl;have hR : ∀ a w,Holds tY b w0 (lA b N n m (rows (s.2.map (Xh np (dI KN (64 - i))))) (jF aD lf (dI KN (64 - i)) (aD.mul s.1 s.1) s.2) (64 - ((i + 1 : Nat) : Int))) a w → R a w:=hR
  rw [YX];refine wp_seq (aC aG (nD _ _ _) (gN _ _) (l_c b N n m _ _ _) ⟨by rw [aKA,decide_eq_true (by omega)],trivial⟩ hA fun a w hA => ?_);refine wp_seq (wp_block (wp_seq (aC aG (nD _ _ _) (gN _ _) (aYg b N n m _ _ _) trivial hA fun a w hA => ?_)));refine wp_seq (aC aG (nD _ _ _) (gN _ _) (aYl b N n m _ _ _) trivial hA fun a w hA => ?_);refine aCe (kk:=64 - i) (d:=dI KN (64 - i)) (hl.trans hn) hlt (by show (64 : Int) - (i : Int) = ((64 - i : Nat) : Int); omega) (by omega) (by rw [Nat.zero_add,Nat.mul_one]; exact RN KN _ (by show _ < 66; omega)) h2 hA fun a w hA => ?_
  refine aC aG (nD _ _ _) (gN _ _) (aYm b N n m _ _ _ (64 - ((i + 1 : Nat) : Int))) ⟨?_,trivial⟩ hA fun a w hA => hR a w hA
  show some (Value.int .i64 (IntKind.i64.wrap ((64 : Int) - (i : Int) - 1))) = _;rw [show (64 : Int) - (i : Int) - 1 = 64 - ((i + 1 : Nat) : Int) by omega,Tx _ (by omega) (by omega)]
 ·rw [YX];refine wp_seq (aC aG (nD _ _ _) (gN _ _) (l_x b N n m _ _ _) ⟨by rw [aKA,decide_eq_false (by omega)],trivial⟩ hA fun a w hA => ?_);rw [aQz] at hA;exact hQ a w hA
end
theorem Tr (l : List ((Fq × Fq) × (Q2 × Q2))) (hlt : l.length < 4611686018427387904) (hq : ∀ x ∈ l,On F2 dG (some x.2)) {b m : Nat} {w : World} (hO : Own w b (rows (l.map bW))) :
  ∃ L,Calls prog 54 #[jR b 0 l.length m] w (Wr b w (.one (.fl (aN (xL l)))) L):=by
 have hw : (l.map bW).length = l.length:=List.length_map _;have hqw : ∀ W ∈ l.map bW,On F2 dG (some W.2.1):=fun W hW => by
  obtain ⟨x,hx,rfl⟩:=List.mem_map.1 hW;exact hq x hx
 have hL : xL l = lO aD ew (lU aD lf np tO (aD.one,l.map bW)).1 (lU aD lf np tO (aD.one,l.map bW)).2:=by with_unfolding_all rfl
 have hqr:=Zb aD lf np (fun q => On F2 dG (some q)) tO (aD.one,l.map bW) hqw;have hlr:=(EV aD lf np tO (aD.one,l.map bW)).trans hw;rw [hL];clear hL;refine ⟨rows ((lU aD lf np tO (aD.one,l.map bW)).2.map enW),?_⟩;refine MJ (x:=.sl 0 0 l.length m) (v:=jR b 0 l.length m) (ts:=[]) func54 (c:=oA) rfl (fun β h => by simp [AV.den,jR,h]) hO (Nat.le_of_ble_eq_true (by kernel_rfl)) fun a w1 hA => ?_
 rw [aHM];refine wp_seq (aC aG (nD _ _ _) (gN _ _) (aYk b w.heap.size l.length m _) trivial hA fun a w2 hA => ?_);refine wp_seq (aC aG (nD _ _ _) (gN _ _) (aYj b w.heap.size l.length m _) trivial hA fun a w3 hA => ?_);refine wp_seq (aC aG (nD _ _ _) (gN _ _) (aYi b w.heap.size l.length m _ _) ⟨rfl,trivial⟩ hA fun a w4 hA => ?_);refine wp_seq (wp_seq (aC aG (nD _ _ _) (gN _ _) (aYh b w.heap.size l.length m _ _) trivial hA fun a w5 hA => ?_));refine aAE hw hlt hA fun a w6 hA => ?_
 generalize lU aD lf np tO (aD.one,l.map bW) = s at hA hqr hlr ⊢;refine wp_seq (wp_seq (aC aG (nD _ _ _) (gN _ _) (aUI b w.heap.size l.length m _ _) trivial hA fun a w7 hA => ?_));refine aIG hlr hlt hqr hA fun a w8 hA => ?_
 refine aC aG (nD _ _ _) (gN _ _) (aUJ b w.heap.size l.length m _ _) trivial hA fun a w9 hA => ?_
 exact pE (l:=[.fl (aN (lO aD ew s.1 s.2))]) (r:=.one (.fl (aN (lO aD ew s.1 s.2)))) (by kernel_rfl) (by kernel_rfl) hA ⟨rfl,hA.wrc (by simp [lF]) (by simp [lF]) (by simp [lF])⟩
def gE1 (m : List At) (r : RV) : kZ
 | [.v (.fl l)] => some ([aA l = aA m],r)
 | _ => none
def gE2 (m m' : List At) (r : RV) : kZ
 | [.v (.fl l),.v (.fl l')] => some ([aA l = aA m,aA l' = aA m'],r)
 | _ => none
theorem RC {f : FuncId} {m : List At} {r0 : RV} (h : ∀ w,Good prog f r0 [.agg (aA m).toArray] w) : ∀ cs pre r,gE1 m r0 cs = some (pre,r) → aZ pre → ∀ (args : List Value) (w : World),bR w cs args → Good prog f r args w:=by
 intro cs pre r hg hp args w ha;unfold gE1 at hg;split at hg
 ·cases hg;rw [BR ha,hp.1];exact h w
 ·cases hg
theorem Gc {f : FuncId} {m m' : List At} {r0 : RV} (h : ∀ w,Good prog f r0 [.agg (aA m).toArray,.agg (aA m').toArray] w) : ∀ cs pre r,gE2 m m' r0 cs = some (pre,r) → aZ pre → ∀ (args : List Value) (w : World),bR w cs args → Good prog f r args w:=by
 intro cs pre r hg hp args w ha;unfold gE2 at hg;split at hg
 ·cases hg;rw [NI ha,hp.1,hp.2.1];exact h w
 ·cases hg
theorem aHZ {Q : C2} (h : lI Q) : Tu (yI Q.1) = true:=by
 unfold Tu;rw [aTe,tM2,aET,(Fu Q).2 h];exact decide_eq_true ⟨rfl,rfl⟩
def k0 : RV:=.one (.im (.int .i64 0))
theorem Xs (p : mI) : aX prog (qG prog) (wq BU) f107 60 [.v (.fl (qZ p))] = some ([],.one (.im (.int .i64 (RX p.1 p.2.1 p.2.2).1))):=by kernel_rfl
theorem aWL (P : C1) (w : World) : Good prog 107 k0 [.agg (aA (fB P.1)).toArray] w:=by
 have h:=aB aG (fun _ _ => vC) (aK _) func107 (Xs (Au P.1)) trivial (args:=[.agg (aA (fB P.1)).toArray]) (w:=w) ⟨rfl,trivial⟩;rw [show (RX (Au P.1).1 (Au P.1).2.1 (Au P.1).2.2).1 = 0 from tC1 P] at h;exact h
theorem aXU (p : iX) : BU 161 [.v (.fl (jN p))] = some ([],.one (.im (.int .i64 (rL p.1 p.2.1 p.2.2).1))):=by kernel_rfl
theorem aYu (p : iX) : BU 162 [.v (.fl (jN p))] = some ([],.one (.im (.bool (Tu p)))):=by kernel_rfl
def aWi (m : List At) : Tab:=(BU.add 161 (gE1 m k0)).add 162 (gE1 m (.one (.im (.bool true))))
theorem aUr {Q : C2} (h : lI Q) : TabOk prog (aWi (dF Q.1)):=(vC.ad func161 (RC fun w => by
  have h:=(vC _ _ _ _ (aXU (yI Q.1)) trivial).2 [.agg (aA (dF Q.1)).toArray] w ⟨rfl,trivial⟩;rw [show (rL (yI Q.1).1 (yI Q.1).2.1 (yI Q.1).2.2).1 = 0 from tC2 Q] at h;exact h)).ad func162 (RC fun w => by
  have h:=(vC _ _ _ _ (aYu (yI Q.1)) trivial).2 [.agg (aA (dF Q.1)).toArray] w ⟨rfl,trivial⟩;rw [aHZ ‹lI Q›] at h;exact h)
theorem Xr (q : Pt Q2) : aX prog (qG prog) (wq (aWi (dF q))) f108 60 [.v (.fl (dF q))] = some ([aA (dF q) = aA (dF q),aA (dF q) = aA (dF q)],k0):=by kernel_rfl
theorem aWK {Q : C2} (h : lI Q) (w : World) : Good prog 108 k0 [.agg (aA (dF Q.1)).toArray] w :=
 aB aG (fun _ _ => aUr h) (aK _) func108 (Xr Q.1) ⟨rfl,rfl,trivial⟩ ⟨rfl,trivial⟩
def aWh (p : Pt Fq) (q : Pt Q2) : Tab:=(yA.add 107 (gE1 (fB p) k0)).add 108 (gE1 (dF q) k0)
theorem aUq (P : C1) {Q : C2} (h : lI Q) : TabOk prog (aWh P.1 Q.1):=(oX.ad func107 (RC (aWL P))).ad func108 (RC (aWK h))
theorem OM (p : Pt Fq) (q : Pt Q2) : aX prog (qG prog) (wq (aWh p q)) f51 60 [.v (.fl (fB p)),.v (.fl (dF q))] = some ([aA (fB p) = aA (fB p),aA (dF q) = aA (dF q)],k0):=by kernel_rfl
theorem Bt (a : Fq × Fq) (q : Q2 × Q2) : aX prog (qG prog) (wq yA) f52 60 [.v (.fl (JN a)),.v (.fl (jM q))] = some ([],.one (.fl (wA (bW (a,q))))):=by kernel_rfl
def CL (p : Pt Fq) (q : Pt Q2) (a : Fq × Fq) (q' : Q2 × Q2) : Tab:=(yA.add 51 (gE2 (fB p) (dF q) k0)).add 52 (gE2 (JN a) (jM q') (.one (.fl (wA (bW (a,q'))))))
theorem aUn (P : C1) {Q : C2} (h : lI Q) (a : Fq × Fq) (q' : Q2 × Q2) : TabOk prog (CL P.1 Q.1 a q'):=(oX.ad func51 (Gc fun w => aB aG (fun _ _ => aUq P h) (aK _) func51 (OM P.1 Q.1) ⟨rfl,rfl,trivial⟩ ⟨rfl,rfl,trivial⟩)).add
 func52 (by kernel_rfl) (by kernel_rfl) (Gc fun w => aB aG (fun _ _ => oX) (aK _) func52 (Bt a q') trivial ⟨rfl,rfl,trivial⟩)
def oLa (z : aM) : List Prop × RV:=([z ≠ aD.zero],.one (.fl (aN (kD z))))
theorem aSL (z : aM) : aWg 53 [.v (.fl (aN z))] = some ([vF (fW (kR z)) ≠ F1.zero],.one (.fl (aN (kD (fW (kR z)))))):=by kernel_rfl
theorem wla (z : aM) (hz : z ≠ aD.zero) (args : List Value) (w : World) (ha : bR w [.v (.fl (aN z))] args) : Good prog 53 (.one (.fl (aN (kD z)))) args w:=by
 have h:=(aUp _ _ _ _ (aSL z) ⟨by rw [fE]; exact fun e => hz (zG e),trivial⟩).2 args w ha;rw [fE] at h;exact h
def Lw (l : List At) : Bool:=match l with
 | [.f a,.f b,.f c,.f d,.f e,.f f,.f g,.f h,.f i,.f j,.f k,.f l] => Nat.beq a.1 1 && (Nat.beq b.1 0 && (Nat.beq c.1 0 && (Nat.beq d.1 0 && (Nat.beq e.1 0 && (Nat.beq f.1 0 && (Nat.beq g.1 0 && (Nat.beq h.1 0 && (Nat.beq i.1 0 && (Nat.beq j.1 0 && (Nat.beq k.1 0 && Nat.beq l.1 0))))))))))
 | _ => false
theorem Fs {l : List At} (h : Lw l = true) : aA l = aA (aN aD.one):=by
 unfold Lw at h;split at h
 ·simp only [Bool.and_eq_true] at h;obtain ⟨h1,h2,h3,h4,h5,h6,h7,h8,h9,h10,h11,h12⟩:=h;show w4 _ ++ (w4 _ ++ (w4 _ ++ (w4 _ ++ (w4 _ ++ (w4 _ ++ (w4 _ ++ (w4 _ ++ (w4 _ ++ (w4 _ ++ (w4 _ ++ (w4 _ ++ []))))))))))) = w4 1 ++ (w4 0 ++ (w4 0 ++ (w4 0 ++ (w4 0 ++ (w4 0 ++ (w4 0 ++ (w4 0 ++ (w4 0 ++ (w4 0 ++ (w4 0 ++ (w4 0 ++ [])))))))))));rw [Nat.eq_of_beq_eq_true h1,Nat.eq_of_beq_eq_true h2,Nat.eq_of_beq_eq_true h3,Nat.eq_of_beq_eq_true h4,Nat.eq_of_beq_eq_true h5,Nat.eq_of_beq_eq_true h6,Nat.eq_of_beq_eq_true h7,Nat.eq_of_beq_eq_true h8,Nat.eq_of_beq_eq_true h9,Nat.eq_of_beq_eq_true h10,Nat.eq_of_beq_eq_true h11,Nat.eq_of_beq_eq_true h12]
 ·cases h
def aPJ : kZ
 | [.v (.fl l)] => bif Lw l then some ([],.one (.fl (aN aD.one))) else none
 | _ => none
theorem aTj (z : aM) : yA 114 [.v (.fl (aN z))] = some ([],.one (.fl (aN (aD.mul z z)))):=by kernel_rfl
theorem aIj : ∀ cs pre r,aPJ cs = some (pre,r) → aZ pre → ∀ (args : List Value) (w : World),bR w cs args → Good prog 114 r args w:=by
 intro cs pre r hg hp args w ha;unfold aPJ at hg;split at hg
 ·rename_i l;cases hb : Lw l <;> rw [hb] at hg
  ·cases hg
  ·cases hg;rw [BR ha,Fs hb];have h:=(oX _ _ _ _ (aTj aD.one) trivial).2 [.agg (aA (aN aD.one)).toArray] w ⟨rfl,trivial⟩;rw [aD.one_mul] at h;exact h
 ·cases hg
def aWf : Tab:=yA.add 114 aPJ
theorem aUo : TabOk prog aWf:=oX.ad func114 aIj
theorem aFU : aX prog (qG prog) (wq aWf) f54 300 [.v (.im (.slice none 0 0))] = some ([Lq = Lq],.one (.fl (aN aD.one))):=by kernel_rfl
def nZ : Code:=(f20.body).getD .skip
def AS : Nat:=f20.ntmps
def pr3 : Code:=cA (cB (cB (cB nZ)))
def pr4 : Code:=cB (cB (cB (cB nZ)))
def Av : Code:=pO (pO (cB pr3))
theorem aGQ : nZ = .seq (cA nZ) (.seq (cA (cB nZ)) (.seq (cA (cB (cB nZ))) (.seq (.seq (cA pr3) (.block 0 (.loop Av))) pr4))):=by kernel_rfl
def wF : List Wk → List Fact
 | [] => [.slot 6 (.im (.slice none 0 0))]
 | W :: r => [.slot 6 (.so 63 (r.length + 1)),.row 63 true (rows (W :: r)),.app 63 109 50 (r.length + 1)]
def pA0 (n m m' : Nat) (lp lq : List At) : List Fact:=[.slot 0 (.sl 0 0 n m),.row 0 false lp,.slot 1 (.sl 1 0 n m'),.row 1 false lq,.slot 4 (.pt 4 0),.row 4 true (aN aD.zero)]
def pA1 (n m m' : Nat) (lp lq : List At) (Ws : List Wk) : List Fact:=[.slot 0 (.sl 0 0 n m),.row 0 false lp,.slot 1 (.sl 1 0 n m'),.row 1 false lq,.slot 4 (.pt 4 0),.row 4 true (aN aD.zero)] ++ wF Ws
def oV (n m m' : Nat) (lp lq : List At) (i : Nat) (Ws : List Wk) : List Fact:=[.slot 0 (.sl 0 0 n m),.row 0 false lp,.slot 1 (.sl 1 0 n m'),.row 1 false lq,.slot 4 (.pt 4 0),.row 4 true (aN aD.zero),.slot 21 (.im (iI n)),.slot 22 (.im (iI i))] ++ wF Ws
def pA3 (Ws : List Wk) : List Fact:=[.slot 4 (.pt 4 0),.row 4 true (aN aD.zero)] ++ wF Ws
def cP (T : Tab) (l : List (Nat × Value)) : Nat → Cfg:=fun _ => ⟨fun _ => T,fun _ => true,assoc l⟩
theorem aXz (n m m' : Nat) (lp lq : List At) : aY prog q0 AS (cP yA []) 40 (cA nZ) (kV 0 [.s lp n m,.s lq n m']) (pA0 n m m' lp lq) = some ([],.nrm,pA0 n m m' lp lq):=by kernel_rfl
theorem aXy (n m m' : Nat) (lp lq : List At) : aY prog q0 AS (cP yA [(13,.bool false),(17,.bool false)]) 40 (cA (cB nZ)) (pA0 n m m' lp lq) (pA0 n m m' lp lq) = some ([aI .neq .i64 (Int.ofNat n) (Int.ofNat n) = some (.bool false),aI .gtr .i64 (Int.ofNat n) 256 = some (.bool false)],.nrm,pA0 n m m' lp lq):=by kernel_rfl
theorem aXx (n m m' : Nat) (lp lq : List At) : aY prog q0 AS (cP yA []) 40 (cA (cB (cB nZ))) (pA0 n m m' lp lq) (pA1 n m m' lp lq []) = some ([],.nrm,pA1 n m m' lp lq []):=by kernel_rfl
theorem aXw (n m m' : Nat) (lp lq : List At) : aY prog q0 AS (cP yA []) 40 (cA pr3) (pA1 n m m' lp lq []) (oV n m m' lp lq 0 []) = some ([],.nrm,oV n m m' lp lq 0 []):=by kernel_rfl
def qR (i : Nat) (p : Pt Fq) (q : Pt Q2) (a : Fq × Fq) (q' : Q2 × Q2) : EqT:=qPx prog (BQ [(28,fB p),(32,dF q),(56,JN a),(60,jM q')]) (BQ []) (assoc [(27,i),(31,i),(40,i),(47,i),(55,i),(59,i)]) (assoc [(42,.bool (uG p)),(49,.bool (uG q))]) Oc
def pI {α : Type} (g : α → List At) : List α → List At
 | [] => []
 | x :: r => g x ++ pI g r
theorem IP {α : Type} (g : α → List At) : ∀ a b : List α,pI g (a ++ b) = pI g a ++ pI g b
 | [],b => rfl
 | x :: a,b => by show g x ++ pI g (a ++ b) = (g x ++ pI g a) ++ pI g b; rw [IP g a b,List.append_assoc]
theorem SC {α : Type} {g : α → List At} {c : Nat} (h : ∀ x,cS (g x) = c) : ∀ l : List α,cS (pI g l) = l.length * c
 | [] => by rw [List.length_nil,Nat.zero_mul]; rfl
 | x :: r => by
  show cS (g x ++ pI g r) = _;rw [vL,h,SC h r,List.length_cons,Nat.succ_mul,Nat.add_comm]
theorem UT {α : Type} {g : α → List At} {c : Nat} (h : ∀ x,cS (g x) = c) {l : List α} {j : Nat} {x : α} (hj : l[j]? = some x) : fN (pI g l) (0 + j * c) c = some (g x):=by
 obtain ⟨a,b,rfl,rfl,_⟩:=nE hj;rw [IP,Nat.zero_add,← SC h];show fN (pI g a ++ (g x ++ pI g b)) _ c = _;unfold fN;rw [show cS (pI g a) = cS (pI g a) + 0 from rfl,DH,Na];show tk (g x ++ pI g b) c = _;have:=OD (g x) (pI g b)
 rwa [h] at this
theorem Af : ∀ (x y : List At) (m : Nat),cellAt (x ++ y) (cS x + m) = cellAt y m
 | [],y,m => by show cellAt y (0 + m) = _; rw [Nat.zero_add]
 | a :: x,y,m => by
  show (bif Nat.blt (a.sz + cS x + m) a.sz then a.cells[a.sz + cS x + m]? else cellAt (x ++ y) (a.sz + cS x + m - a.sz)) = _;have e : Nat.blt (a.sz + cS x + m) a.sz = false:=by
   cases hb : Nat.blt (a.sz + cS x + m) a.sz
   ·rfl
   ·have : a.sz + cS x + m < a.sz:=by simpa using hb
    omega
  rw [e,show a.sz + cS x + m - a.sz = cS x + m by omega];exact Af x y m
theorem NF {α : Type} {g : α → List At} {c o : Nat} {v : Value} (h : ∀ x,cS (g x) = c) {l : List α} {j : Nat} {x : α} (hj : l[j]? = some x) (hv : ∀ y,cellAt (g x ++ y) o = some v) : cellAt (pI g l) (0 + j * c + o) = some v:=by
 obtain ⟨a,b,rfl,rfl,_⟩:=nE hj;rw [IP,Nat.zero_add,← SC h,Af];exact hv (pI g b)
def Dz (l : List C1) : List At:=pI (fun P => fB P.1) l
def Dy (l : List C2) : List At:=pI (fun P => dF P.1) l
def rdA (n i : Nat) (lp lq : List At) (p : Pt Fq) (q : Pt Q2) : Prop:=i < n ∧ fN lp (0 + i * 9) 9 = some (fB p) ∧ fN lq (0 + i * 17) 17 = some (dF q) ∧ cellAt lp (0 + i * 9 + 8) = some (.bool (uG p)) ∧ cellAt lq (0 + i * 17 + 16) = some (.bool (uG q))
theorem aNh {Ps : List C1} {Qs : List C2} {i n : Nat} (hi : i < n) {P : C1} {Q : C2} (hP : Ps[i]? = some P) (hQ : Qs[i]? = some Q) : rdA n i (Dz Ps) (Dy Qs) P.1 Q.1 :=
 ⟨hi,UT (g:=fun P : C1 => fB P.1) (c:=9) (fun _ => rfl) hP,UT (g:=fun P : C2 => dF P.1) (c:=17) (fun _ => rfl) hQ,NF (g:=fun P : C1 => fB P.1) (c:=9) (o:=8) (v:=.bool (uG P.1)) (fun _ => rfl) hP fun y => rfl,NF (g:=fun P : C2 => dF P.1) (c:=17) (o:=16) (v:=.bool (uG Q.1)) (fun _ => rfl) hQ fun y => rfl⟩
def zq : Fq × Fq:=(F1.zero,F1.zero)
def TK : Q2 × Q2:=(F2.zero,F2.zero)
def lR (i : Nat) : List (Nat × Value):=[(23,.bool true),(64,iI (i + 1))]
theorem aUg (n m m' i : Nat) (lp lq : List At) : aY prog (qR i none none zq TK) AS (cP (CL none none zq TK) (lR i)) 40 Av (oV n m m' lp lq i []) (oV n m m' lp lq (i + 1) []) = some ([aI .lss .i64 (Int.ofNat i) (Int.ofNat n) = some (.bool true),Int.ofNat i = Int.ofNat i,i < n,fN lp (0 + i * 9) 9 = some (fB none),Int.ofNat i = Int.ofNat i,i < n,fN lq (0 + i * 17) 17 = some (dF none),aA (fB none) = aA (fB none),aA (dF none) = aA (dF none),Int.ofNat i = Int.ofNat i,i < n,cellAt lp (0 + i * 9 + 8) = some (.bool (uG (none : Pt Fq))),aI .add .i64 (Int.ofNat i) 1 = some (iI (i + 1))],.nrm,oV n m m' lp lq (i + 1) []):=by kernel_rfl
theorem aUe (n m m' i : Nat) (lp lq : List At) (q : Q2 × Q2) : aY prog (qR i none (some q) zq TK) AS (cP (CL none (some q) zq TK) (lR i)) 40 Av (oV n m m' lp lq i []) (oV n m m' lp lq (i + 1) []) = some ([aI .lss .i64 (Int.ofNat i) (Int.ofNat n) = some (.bool true),Int.ofNat i = Int.ofNat i,i < n,fN lp (0 + i * 9) 9 = some (fB none),Int.ofNat i = Int.ofNat i,i < n,fN lq (0 + i * 17) 17 = some (dF (some q)),aA (fB none) = aA (fB none),aA (dF (some q)) = aA (dF (some q)),Int.ofNat i = Int.ofNat i,i < n,cellAt lp (0 + i * 9 + 8) = some (.bool (uG (none : Pt Fq))),aI .add .i64 (Int.ofNat i) 1 = some (iI (i + 1))],.nrm,oV n m m' lp lq (i + 1) []):=by kernel_rfl
theorem aXJ (n m m' i : Nat) (lp lq : List At) (a : Fq × Fq) : aY prog (qR i (some a) none zq TK) AS (cP (CL (some a) none zq TK) (lR i)) 40 Av (oV n m m' lp lq i []) (oV n m m' lp lq (i + 1) []) = some ([aI .lss .i64 (Int.ofNat i) (Int.ofNat n) = some (.bool true),Int.ofNat i = Int.ofNat i,i < n,fN lp (0 + i * 9) 9 = some (fB (some a)),Int.ofNat i = Int.ofNat i,i < n,fN lq (0 + i * 17) 17 = some (dF none),aA (fB (some a)) = aA (fB (some a)),aA (dF none) = aA (dF none),Int.ofNat i = Int.ofNat i,i < n,cellAt lp (0 + i * 9 + 8) = some (.bool (uG (some a))),Int.ofNat i = Int.ofNat i,i < n,cellAt lq (0 + i * 17 + 16) = some (.bool (uG (none : Pt Q2))),aI .add .i64 (Int.ofNat i) 1 = some (iI (i + 1))],.nrm,oV n m m' lp lq (i + 1) []):=by kernel_rfl
theorem aUf (n m m' i : Nat) (lp lq : List At) (W : Wk) (r : List Wk) : aY prog (qR i none none zq TK) AS (cP (CL none none zq TK) (lR i)) 40 Av (oV n m m' lp lq i (W :: r)) (oV n m m' lp lq (i + 1) (W :: r)) = some ([aI .lss .i64 (Int.ofNat i) (Int.ofNat n) = some (.bool true),Int.ofNat i = Int.ofNat i,i < n,fN lp (0 + i * 9) 9 = some (fB none),Int.ofNat i = Int.ofNat i,i < n,fN lq (0 + i * 17) 17 = some (dF none),aA (fB none) = aA (fB none),aA (dF none) = aA (dF none),Int.ofNat i = Int.ofNat i,i < n,cellAt lp (0 + i * 9 + 8) = some (.bool (uG (none : Pt Fq))),aI .add .i64 (Int.ofNat i) 1 = some (iI (i + 1))],.nrm,oV n m m' lp lq (i + 1) (W :: r)):=by kernel_rfl
theorem aUd (n m m' i : Nat) (lp lq : List At) (q : Q2 × Q2) (W : Wk) (r : List Wk) : aY prog (qR i none (some q) zq TK) AS (cP (CL none (some q) zq TK) (lR i)) 40 Av (oV n m m' lp lq i (W :: r)) (oV n m m' lp lq (i + 1) (W :: r)) = some ([aI .lss .i64 (Int.ofNat i) (Int.ofNat n) = some (.bool true),Int.ofNat i = Int.ofNat i,i < n,fN lp (0 + i * 9) 9 = some (fB none),Int.ofNat i = Int.ofNat i,i < n,fN lq (0 + i * 17) 17 = some (dF (some q)),aA (fB none) = aA (fB none),aA (dF (some q)) = aA (dF (some q)),Int.ofNat i = Int.ofNat i,i < n,cellAt lp (0 + i * 9 + 8) = some (.bool (uG (none : Pt Fq))),aI .add .i64 (Int.ofNat i) 1 = some (iI (i + 1))],.nrm,oV n m m' lp lq (i + 1) (W :: r)):=by kernel_rfl
theorem aXI (n m m' i : Nat) (lp lq : List At) (a : Fq × Fq) (W : Wk) (r : List Wk) : aY prog (qR i (some a) none zq TK) AS (cP (CL (some a) none zq TK) (lR i)) 40 Av (oV n m m' lp lq i (W :: r)) (oV n m m' lp lq (i + 1) (W :: r)) = some ([aI .lss .i64 (Int.ofNat i) (Int.ofNat n) = some (.bool true),Int.ofNat i = Int.ofNat i,i < n,fN lp (0 + i * 9) 9 = some (fB (some a)),Int.ofNat i = Int.ofNat i,i < n,fN lq (0 + i * 17) 17 = some (dF none),aA (fB (some a)) = aA (fB (some a)),aA (dF none) = aA (dF none),Int.ofNat i = Int.ofNat i,i < n,cellAt lp (0 + i * 9 + 8) = some (.bool (uG (some a))),Int.ofNat i = Int.ofNat i,i < n,cellAt lq (0 + i * 17 + 16) = some (.bool (uG (none : Pt Q2))),aI .add .i64 (Int.ofNat i) 1 = some (iI (i + 1))],.nrm,oV n m m' lp lq (i + 1) (W :: r)):=by kernel_rfl
theorem aXH (n m m' i : Nat) (lp lq : List At) (a : Fq × Fq) (q : Q2 × Q2) : aY prog (qR i (some a) (some q) a q) AS (cP (CL (some a) (some q) a q) (lR i)) 40 Av (oV n m m' lp lq i []) (oV n m m' lp lq (i + 1) [bW (a,q)]) = some ([aI .lss .i64 (Int.ofNat i) (Int.ofNat n) = some (.bool true),Int.ofNat i = Int.ofNat i,i < n,fN lp (0 + i * 9) 9 = some (fB (some a)),Int.ofNat i = Int.ofNat i,i < n,fN lq (0 + i * 17) 17 = some (dF (some q)),aA (fB (some a)) = aA (fB (some a)),aA (dF (some q)) = aA (dF (some q)),Int.ofNat i = Int.ofNat i,i < n,cellAt lp (0 + i * 9 + 8) = some (.bool (uG (some a))),Int.ofNat i = Int.ofNat i,i < n,cellAt lq (0 + i * 17 + 16) = some (.bool (uG (some q))),Int.ofNat i = Int.ofNat i,i < n,fN lp (0 + i * 9) 9 = some (JN a),Int.ofNat i = Int.ofNat i,i < n,fN lq (0 + i * 17) 17 = some (jM q),aA (JN a) = aA (JN a),aA (jM q) = aA (jM q),aI .add .i64 (Int.ofNat i) 1 = some (iI (i + 1))],.nrm,oV n m m' lp lq (i + 1) [bW (a,q)]):=by kernel_rfl
theorem aXG (n m m' i : Nat) (lp lq : List At) (a : Fq × Fq) (q : Q2 × Q2) (W0 : Wk) : aY prog (qR i (some a) (some q) a q) AS (cP (CL (some a) (some q) a q) (lR i)) 40 Av (oV n m m' lp lq i [W0]) (oV n m m' lp lq (i + 1) [W0,bW (a,q)]) = some ([aI .lss .i64 (Int.ofNat i) (Int.ofNat n) = some (.bool true),Int.ofNat i = Int.ofNat i,i < n,fN lp (0 + i * 9) 9 = some (fB (some a)),Int.ofNat i = Int.ofNat i,i < n,fN lq (0 + i * 17) 17 = some (dF (some q)),aA (fB (some a)) = aA (fB (some a)),aA (dF (some q)) = aA (dF (some q)),Int.ofNat i = Int.ofNat i,i < n,cellAt lp (0 + i * 9 + 8) = some (.bool (uG (some a))),Int.ofNat i = Int.ofNat i,i < n,cellAt lq (0 + i * 17 + 16) = some (.bool (uG (some q))),Int.ofNat i = Int.ofNat i,i < n,fN lp (0 + i * 9) 9 = some (JN a),Int.ofNat i = Int.ofNat i,i < n,fN lq (0 + i * 17) 17 = some (jM q),aA (JN a) = aA (JN a),aA (jM q) = aA (jM q),aI .add .i64 (Int.ofNat i) 1 = some (iI (i + 1))],.nrm,oV n m m' lp lq (i + 1) [W0,bW (a,q)]):=by kernel_rfl
theorem aXF (n m m' i : Nat) (lp lq : List At) (a : Fq × Fq) (q : Q2 × Q2) (W0 W1 : Wk) : aY prog (qR i (some a) (some q) a q) AS (cP (CL (some a) (some q) a q) (lR i)) 40 Av (oV n m m' lp lq i [W0,W1]) (oV n m m' lp lq (i + 1) [W0,W1,bW (a,q)]) = some ([aI .lss .i64 (Int.ofNat i) (Int.ofNat n) = some (.bool true),Int.ofNat i = Int.ofNat i,i < n,fN lp (0 + i * 9) 9 = some (fB (some a)),Int.ofNat i = Int.ofNat i,i < n,fN lq (0 + i * 17) 17 = some (dF (some q)),aA (fB (some a)) = aA (fB (some a)),aA (dF (some q)) = aA (dF (some q)),Int.ofNat i = Int.ofNat i,i < n,cellAt lp (0 + i * 9 + 8) = some (.bool (uG (some a))),Int.ofNat i = Int.ofNat i,i < n,cellAt lq (0 + i * 17 + 16) = some (.bool (uG (some q))),Int.ofNat i = Int.ofNat i,i < n,fN lp (0 + i * 9) 9 = some (JN a),Int.ofNat i = Int.ofNat i,i < n,fN lq (0 + i * 17) 17 = some (jM q),aA (JN a) = aA (JN a),aA (jM q) = aA (jM q),aI .add .i64 (Int.ofNat i) 1 = some (iI (i + 1))],.nrm,oV n m m' lp lq (i + 1) [W0,W1,bW (a,q)]):=by kernel_rfl
theorem aXE (n m m' i : Nat) (lp lq : List At) (a : Fq × Fq) (q : Q2 × Q2) (W0 W1 W2 : Wk) : aY prog (qR i (some a) (some q) a q) AS (cP (CL (some a) (some q) a q) (lR i)) 40 Av (oV n m m' lp lq i [W0,W1,W2]) (oV n m m' lp lq (i + 1) [W0,W1,W2,bW (a,q)]) = some ([aI .lss .i64 (Int.ofNat i) (Int.ofNat n) = some (.bool true),Int.ofNat i = Int.ofNat i,i < n,fN lp (0 + i * 9) 9 = some (fB (some a)),Int.ofNat i = Int.ofNat i,i < n,fN lq (0 + i * 17) 17 = some (dF (some q)),aA (fB (some a)) = aA (fB (some a)),aA (dF (some q)) = aA (dF (some q)),Int.ofNat i = Int.ofNat i,i < n,cellAt lp (0 + i * 9 + 8) = some (.bool (uG (some a))),Int.ofNat i = Int.ofNat i,i < n,cellAt lq (0 + i * 17 + 16) = some (.bool (uG (some q))),Int.ofNat i = Int.ofNat i,i < n,fN lp (0 + i * 9) 9 = some (JN a),Int.ofNat i = Int.ofNat i,i < n,fN lq (0 + i * 17) 17 = some (jM q),aA (JN a) = aA (JN a),aA (jM q) = aA (jM q),aI .add .i64 (Int.ofNat i) 1 = some (iI (i + 1))],.nrm,oV n m m' lp lq (i + 1) [W0,W1,W2,bW (a,q)]):=by kernel_rfl
theorem aXD (n m m' i : Nat) (lp lq : List At) (a : Fq × Fq) (q : Q2 × Q2) (W0 W1 W2 W3 : Wk) : aY prog (qR i (some a) (some q) a q) AS (cP (CL (some a) (some q) a q) (lR i)) 40 Av (oV n m m' lp lq i [W0,W1,W2,W3]) (oV n m m' lp lq (i + 1) [W0,W1,W2,W3,bW (a,q)]) = some ([aI .lss .i64 (Int.ofNat i) (Int.ofNat n) = some (.bool true),Int.ofNat i = Int.ofNat i,i < n,fN lp (0 + i * 9) 9 = some (fB (some a)),Int.ofNat i = Int.ofNat i,i < n,fN lq (0 + i * 17) 17 = some (dF (some q)),aA (fB (some a)) = aA (fB (some a)),aA (dF (some q)) = aA (dF (some q)),Int.ofNat i = Int.ofNat i,i < n,cellAt lp (0 + i * 9 + 8) = some (.bool (uG (some a))),Int.ofNat i = Int.ofNat i,i < n,cellAt lq (0 + i * 17 + 16) = some (.bool (uG (some q))),Int.ofNat i = Int.ofNat i,i < n,fN lp (0 + i * 9) 9 = some (JN a),Int.ofNat i = Int.ofNat i,i < n,fN lq (0 + i * 17) 17 = some (jM q),aA (JN a) = aA (JN a),aA (jM q) = aA (jM q),aI .add .i64 (Int.ofNat i) 1 = some (iI (i + 1))],.nrm,oV n m m' lp lq (i + 1) [W0,W1,W2,W3,bW (a,q)]):=by kernel_rfl
theorem p_x (n m m' i : Nat) (lp lq : List At) : aY prog q0 AS (cP yA [(23,.bool false)]) 40 Av (oV n m m' lp lq i []) (pA3 []) = some ([aI .lss .i64 (Int.ofNat i) (Int.ofNat n) = some (.bool false)],.ex 0,pA3 []):=by kernel_rfl
theorem p_y (n m m' i : Nat) (lp lq : List At) (W : Wk) (r : List Wk) : aY prog q0 AS (cP yA [(23,.bool false)]) 40 Av (oV n m m' lp lq i (W :: r)) (pA3 (W :: r)) = some ([aI .lss .i64 (Int.ofNat i) (Int.ofNat n) = some (.bool false)],.ex 0,pA3 (W :: r)):=by kernel_rfl
abbrev Pq:=(Fq × Fq) × (Q2 × Q2)
def CI : Pt Fq → Pt Q2 → List Pq
 | some a,some q => [(a,q)]
 | _,_ => []
def iW : List (C1 × C2) → List Pq
 | [] => []
 | x :: r => CI x.1.1 x.2.1 ++ iW r
theorem ZN : ∀ a b : List (C1 × C2),iW (a ++ b) = iW a ++ iW b
 | [],b => rfl
 | x :: a,b => by show CI _ _ ++ iW (a ++ b) = (CI _ _ ++ iW a) ++ iW b; rw [ZN a b,List.append_assoc]
theorem HZ : ∀ l : List (C1 × C2),(iW l).length ≤ l.length
 | [] => Nat.le_refl _
 | x :: r => by
  show (CI x.1.1 x.2.1 ++ iW r).length ≤ r.length + 1;rw [List.length_append];have h:=HZ r;have h2 : (CI x.1.1 x.2.1).length ≤ 1:=by unfold CI; split <;> simp
  omega
theorem Ub {L : List (C1 × C2)} {i : Nat} {x : C1 × C2} (h : L[i]? = some x) : iW (L.take (i + 1)) = iW (L.take i) ++ CI x.1.1 x.2.1:=by
 obtain ⟨a,b,_,_,h1,_,h2,_⟩:=nE h;rw [h1,h2,ZN];show iW a ++ (CI x.1.1 x.2.1 ++ []) = _;rw [List.append_nil]
theorem Mn : ∀ (l : List (C1 × C2)),∀ x ∈ iW l,On F2 dG (some x.2)
 | [],x,h => by cases h
 | y :: r,x,h => by
  rcases List.mem_append.1 h with h | h
  ·obtain ⟨⟨p,hp⟩,⟨q,hq⟩⟩:=y;cases p with
   | none => cases h
   | some a =>
    cases q with
    | none => cases h
    | some q => cases List.mem_singleton.1 h; exact hq
  ·exact Mn r x h
section
variable {n m m' i base : Nat} {lp lq : List At} {w0 w : World} {a : Act} {Q0 : Exit → Act → World → Prop}
theorem jQ {T : Tab} (h : TabOk prog T) (l : List (Nat × Value)) : ∀ n d,TabOkW prog ((cP T l n).T d) base w0:=fun _ _ => h.w _ _
theorem Ze (x : C1 × C2) (hG : lI x.2) (hr : rdA n i lp lq x.1.1 x.2.1) (hn : n ≤ 5) {l : List Pq} (hl : l.length ≤ i) (h : Holds AS base w0 (oV n m m' lp lq i (l.map bW)) a w)
  {R : Act → World → Prop} (hR : ∀ a w,Holds AS base w0 (oV n m m' lp lq (i + 1) ((l ++ CI x.1.1 x.2.1).map bW)) a w → R a w) : Av.wp prog (Exit.then R Q0) a w:=by
 obtain ⟨hi,s1,s2,c1,c2⟩:=hr;obtain ⟨⟨p,hp⟩,⟨q,hq⟩⟩:=x;have hk:=fun y z => aUn ⟨p,hp⟩ (Q:=⟨q,hq⟩) hG y z
 have ha : aI .add .i64 (Int.ofNat i) 1 = some (iI (i + 1)):=kQ (k:=1) (by omega);dsimp only at s1 s2 c1 c2 hk hR;cases p with
 | none =>
  have e : l ++ CI none q = l:=List.append_nil l;rw [e] at hR;cases q with
  | none =>
   cases hW : l.map bW with
   | nil => rw [hW] at h hR; exact aC aG (jQ (hk zq TK) _) (jA (eE _) _ _) (aUg n m m' i lp lq) ⟨bX hi,rfl,hi,s1,rfl,hi,s2,rfl,rfl,rfl,hi,c1,ha,trivial⟩ h fun a w hA => hR a w hA
   | cons W r => rw [hW] at h hR; exact aC aG (jQ (hk zq TK) _) (jA (eE _) _ _) (aUf n m m' i lp lq W r) ⟨bX hi,rfl,hi,s1,rfl,hi,s2,rfl,rfl,rfl,hi,c1,ha,trivial⟩ h fun a w hA => hR a w hA
  | some q =>
   cases hW : l.map bW with
   | nil => rw [hW] at h hR; exact aC aG (jQ (hk zq TK) _) (jA (eE _) _ _) (aUe n m m' i lp lq q) ⟨bX hi,rfl,hi,s1,rfl,hi,s2,rfl,rfl,rfl,hi,c1,ha,trivial⟩ h fun a w hA => hR a w hA
   | cons W r => rw [hW] at h hR; exact aC aG (jQ (hk zq TK) _) (jA (eE _) _ _) (aUd n m m' i lp lq q W r) ⟨bX hi,rfl,hi,s1,rfl,hi,s2,rfl,rfl,rfl,hi,c1,ha,trivial⟩ h fun a w hA => hR a w hA
 | some pa =>
  cases q with
  | none =>
   have e : l ++ CI (some pa) none = l:=List.append_nil l;rw [e] at hR;cases hW : l.map bW with
   | nil => rw [hW] at h hR; exact aC aG (jQ (hk zq TK) _) (jA (eE _) _ _) (aXJ n m m' i lp lq pa) ⟨bX hi,rfl,hi,s1,rfl,hi,s2,rfl,rfl,rfl,hi,c1,rfl,hi,c2,ha,trivial⟩ h fun a w hA => hR a w hA
   | cons W r => rw [hW] at h hR; exact aC aG (jQ (hk zq TK) _) (jA (eE _) _ _) (aXI n m m' i lp lq pa W r) ⟨bX hi,rfl,hi,s1,rfl,hi,s2,rfl,rfl,rfl,hi,c1,rfl,hi,c2,ha,trivial⟩ h fun a w hA => hR a w hA
  | some qq =>
   have e : (l ++ CI (some pa) (some qq)).map bW = l.map bW ++ [bW (pa,qq)]:=List.map_append;rw [e] at hR;have hlW : (l.map bW).length ≤ 4:=by rw [List.length_map]; omega
   match hW : l.map bW,hlW with
   | [],_ => rw [hW] at h hR; exact aC aG (jQ (hk pa qq) _) (jA (eE _) _ _) (aXH n m m' i lp lq pa qq) ⟨bX hi,rfl,hi,s1,rfl,hi,s2,rfl,rfl,rfl,hi,c1,rfl,hi,c2,rfl,hi,s1,rfl,hi,s2,rfl,rfl,ha,trivial⟩ h fun a w hA => hR a w hA
   | [W0],_ => rw [hW] at h hR; exact aC aG (jQ (hk pa qq) _) (jA (eE _) _ _) (aXG n m m' i lp lq pa qq W0) ⟨bX hi,rfl,hi,s1,rfl,hi,s2,rfl,rfl,rfl,hi,c1,rfl,hi,c2,rfl,hi,s1,rfl,hi,s2,rfl,rfl,ha,trivial⟩ h fun a w hA => hR a w hA
   | [W0,W1],_ => rw [hW] at h hR; exact aC aG (jQ (hk pa qq) _) (jA (eE _) _ _) (aXF n m m' i lp lq pa qq W0 W1) ⟨bX hi,rfl,hi,s1,rfl,hi,s2,rfl,rfl,rfl,hi,c1,rfl,hi,c2,rfl,hi,s1,rfl,hi,s2,rfl,rfl,ha,trivial⟩ h fun a w hA => hR a w hA
   | [W0,W1,W2],_ => rw [hW] at h hR; exact aC aG (jQ (hk pa qq) _) (jA (eE _) _ _) (aXE n m m' i lp lq pa qq W0 W1 W2) ⟨bX hi,rfl,hi,s1,rfl,hi,s2,rfl,rfl,rfl,hi,c1,rfl,hi,c2,rfl,hi,s1,rfl,hi,s2,rfl,rfl,ha,trivial⟩ h fun a w hA => hR a w hA
   | [W0,W1,W2,W3],_ => rw [hW] at h hR; exact aC aG (jQ (hk pa qq) _) (jA (eE _) _ _) (aXD n m m' i lp lq pa qq W0 W1 W2 W3) ⟨bX hi,rfl,hi,s1,rfl,hi,s2,rfl,rfl,rfl,hi,c1,rfl,hi,c2,rfl,hi,s1,rfl,hi,s2,rfl,rfl,ha,trivial⟩ h fun a w hA => hR a w hA
   | _ :: _ :: _ :: _ :: _ :: _,h5 => exact absurd h5 (by simp)
theorem Sj {L : List (C1 × C2)} (hn : L.length = n) (h5 : n ≤ 5) (hG : ∀ x ∈ L,lI x.2) (hlp : lp = Dz (L.map Prod.fst)) (hlq : lq = Dy (L.map Prod.snd)) (h : Holds AS base w0 (oV n m m' lp lq 0 []) a w)
  (hQ : ∀ a w,Holds AS base w0 (pA3 ((iW L).map bW)) a w → Q0 .normal a w) : (Code.block 0 (.loop Av)).wp prog Q0 a w:=by
 refine wp_block ?_;refine pC (fun i a w => Holds AS base w0 (oV n m m' lp lq i ((iW (L.take i)).map bW)) a w) n (fun i hi a w hA R hR => ?_) (fun a w hA R => ?_) (by rw [List.take_zero]; exact h)
 ·obtain ⟨x,hx⟩ : ∃ x,L[i]? = some x:=⟨_,List.getElem?_eq_getElem (by omega)⟩
  have hlen : (iW (L.take i)).length ≤ i:=Nat.le_trans (HZ _) (by rw [List.length_take]; omega);refine Ze x (hG x (List.mem_of_getElem? hx)) ?_ h5 hlen hA fun a w hA => ?_
  ·rw [hlp,hlq];exact aNh hi (by rw [List.getElem?_map,hx]; rfl) (by rw [List.getElem?_map,hx]; rfl)
  ·rw [← Ub hx] at hA;exact hR a w hA
 ·have e : L.take n = L:=by rw [← hn,List.take_length]
  rw [e] at hA;cases hW : (iW L).map bW with
  | nil =>
   rw [hW] at hA hQ;exact aC aG (jQ oX _) (gN _ _) (p_x n m m' n lp lq) ⟨eI (Nat.le_refl _),trivial⟩ hA fun a w hA => hQ a w hA
  | cons W r =>
   rw [hW] at hA hQ;exact aC aG (jQ oX _) (gN _ _) (p_y n m m' n lp lq W r) ⟨eI (Nat.le_refl _),trivial⟩ hA fun a w hA => hQ a w hA
end
def aPK : kZ
 | [.v (.im v)] => some ([v = .slice none 0 0],.one (.fl (aN aD.one)))
 | _ => none
theorem aIk : ∀ cs pre r,aPK cs = some (pre,r) → aZ pre → ∀ (args : List Value) (w : World),bR w cs args → Good prog 54 r args w:=by
 intro cs pre r hg hp args w ha;unfold aPK at hg;split at hg
 ·cases hg;obtain ⟨rfl,_⟩:=hp;exact aB aG (fun _ _ => aUo) (aK _) func54 aFU ⟨rfl,trivial⟩ ha
 ·cases hg
def Vc : Tab:=(yA.add 54 aPK).add 53 (g1 pV oLa)
theorem aAT : TabOk prog Vc:=(oX.ad func54 aIk).ad func53 (bJ (op:=oLa) eD fun z hp args w ha => wla z hp.1 args w ha)
def pZ (z : aM) : List Fact:=[.slot 4 (.pt 4 0),.row 4 true (aN (kD z)),.slot 5 (.im (.int .i64 0))]
theorem aXC : aY prog q0 AS (cP Vc []) 40 pr4 (pA3 []) (pZ aD.one) = some ([Value.slice none 0 0 = .slice none 0 0,aD.one ≠ aD.zero],.rt,pZ aD.one):=by kernel_rfl
def pB1 (W : Wk) (r : List Wk) : List Fact:=[.slot 4 (.pt 4 0),.row 4 true (aN aD.zero),.slot 65 (.so 63 (r.length + 1)),.row 63 true (rows (W :: r))]
def pB2 (z : aM) : List Fact:=[.slot 4 (.pt 4 0),.row 4 true (aN aD.zero),.slot 66 (.fl (aN z))]
theorem aXB (W : Wk) (r : List Wk) : rI prog q0 AS (cP Vc [] 0) ((cK (cA pr4)).extract 0 1) (pA3 (W :: r)) (pB1 W r) = some ([],pB1 W r):=by kernel_rfl
theorem aXA (z : aM) : rI prog q0 AS (cP Vc [] 0) ((cK (cA pr4)).extract 2 5) (pB2 z) (pZ z) = some ([z ≠ aD.zero],pZ z):=by kernel_rfl
theorem aAi : pr4 = .seq (cA pr4) .ret:=by kernel_rfl
theorem aAj {base : Nat} {β : Nat → Bk} {a : Act} {w w' : World} {d k b : Nat} {M : List Fact} {l0 l' : List At} (v : TV) (h : d < a.tmps.size) (hkd : k ≠ d) (hrow : Fact.row k true l0 ∈ M) (hat : Fact.at k b ∈ M) (hM : ∀ φ ∈ M,φ.ok base β a w)
  (hwr : WrC w w' b) (hrg : w'.rangeAt b 0 (aA l')) : PostB base β β a w (some d) M [.slot d v.av,.row k true l'] (some k) (a.put (some d) v.den) w':=by
 obtain ⟨r1,r2,r3,r4⟩:=hM _ hrow;obtain ⟨r5,r6,r7⟩:=r3 rfl;obtain ⟨e1,e2⟩:=hM _ hat;refine ⟨mU _ _ _,fL _ _ _,fun s hs => mT _ _ _ _ hs,fun _ _ => rfl,hwr.below.size,fun p hp hne => hwr.mem p hp (by rw [← e1]; exact hne k rfl),hwr.shape,fun w0 h0 => h0.trans (hwr.below.mono (by omega)),fun φ hφ => ?_,fun k' l1 hk => ?_,fun k1 k2 l1 l2 hk hk' => ?_,fun k' hk => ?_⟩
 ·simp only [List.mem_cons,List.not_mem_nil,or_false] at hφ
  rcases hφ with rfl | rfl
  ·show (a.put (some d) _).tmps[d]? = _;rw [jB _ _ _ h,TV.av_den]
  ·exact ⟨Nat.lt_of_lt_of_le r1 hwr.below.size,by rw [e1,e2]; exact hrg,fun _ => ⟨r5,r6,fun q => by rw [e1]; exact hwr.free q⟩,fun h => by cases h⟩
 ·simp only [List.mem_cons,List.not_mem_nil,or_false] at hk
  rcases hk with hk | hk
  ·cases v <;> cases hk
  ·cases hk;exact Or.inr (Or.inl ⟨fun e => hkd (by injection e with e; exact e.symm),l0,hrow⟩)
 ·simp only [List.mem_cons,List.not_mem_nil,or_false] at hk hk'
  rcases hk with hk | hk
  ·cases v <;> cases hk
  ·rcases hk' with hk' | hk'
   ·cases v <;> cases hk'
   ·cases hk; cases hk'; rfl
 ·cases hk;exact ⟨l0,hrow⟩
theorem Holds.soAt {nt base : Nat} {w0 : World} {A : List Fact} {a : Act} {w : World} (h : Holds nt base w0 A a w) {s k n b : Nat} {l : List At} (h1 : Fact.slot s (.so k n) ∈ A) (h2 : Fact.at k b ∈ A) (h3 : Fact.row k true l ∈ A) : ∃ cap,a.tmps[s]? = some (jR b 0 n cap) ∧ Own w b l:=by
 obtain ⟨β,g1,_⟩:=h.facts;have e1:=g1 _ h1;have e2:=g1 _ h2;obtain ⟨e3,e4,e5,_⟩:=g1 _ h3;obtain ⟨_,_,e6⟩:=e5 rfl;simp only [Fact.ok] at e1 e2;refine ⟨(β k).2.2,by rw [e1]; simp [AV.den,e2,jR],by rw [← e2.1]; exact e3,?_,fun j => by rw [← e2.1]; exact e6 j⟩;rw [e2.1,e2.2] at e4;exact e4
theorem Eb {R : Type} (K : CR R) (x : R) (l : List R) : dP K (x :: l) = K.mul x (dP K l):=rfl
theorem Sx (M : Pq → aM) (x : Pq) (l : List Pq) : dP aD ((x :: l).map M) = aD.mul (M x) (dP aD (l.map M)):=by rw [List.map_cons,Eb]
theorem aEi (M : Pq → aM) (hM : ∀ (a : Fq × Fq) (q : Q2 × Q2) (hp : On F1 (fm 3) (some a)) (hq : On F2 dG (some q)),lI ⟨some q,hq⟩ → M (a,q) ≠ aD.zero ∧ lv (M (a,q)) = DP ⟨some a,hp⟩ ⟨some q,hq⟩) :
  ∀ L : List (C1 × C2),(∀ x ∈ L,lI x.2) → dP aD ((iW L).map M) ≠ aD.zero ∧ lv (dP aD ((iW L).map M)) = L.foldr (fun x s => vg.add (DP x.1 x.2) s) vg.zero
 | [],_ => ⟨jO.1,zN ⟨jO.1,DB⟩⟩
 | x :: r,hG => by
  obtain ⟨h1,h2⟩:=aEi M hM r fun y hy => hG y (List.mem_cons_of_mem _ hy)
  have hx:=hG x List.mem_cons_self;obtain ⟨⟨p,hp⟩,⟨q,hq⟩⟩:=x;rw [List.foldr_cons,← h2];cases p with
  | none =>
   have e : DP ⟨none,hp⟩ ⟨q,hq⟩ = vg.zero:=aRB hx;have ef : iW ((⟨none,hp⟩,⟨q,hq⟩) :: r) = iW r:=by cases q <;> rfl
   rw [ef];dsimp only;rw [e,vg.zadd];exact ⟨h1,rfl⟩
  | some a =>
   cases q with
   | none =>
    have e : DP ⟨some a,hp⟩ ⟨none,hq⟩ = vg.zero:=aRA _;have ef : iW ((⟨some a,hp⟩,⟨none,hq⟩) :: r) = iW r:=rfl;rw [ef];dsimp only;rw [e,vg.zadd];exact ⟨h1,rfl⟩
   | some q =>
    obtain ⟨m1,m2⟩:=hM a q hp hq hx;have ef : iW ((⟨some a,hp⟩,⟨some q,hq⟩) :: r) = (a,q) :: iW r:=rfl;rw [ef,Sx];dsimp only;rw [← m2,QD m1 h1];exact ⟨nI m1 h1,rfl⟩
theorem aHK (L : List (C1 × C2)) (hG : ∀ x ∈ L,lI x.2) : dP aD ((iW L).map fun x => mil x.1 x.2) ≠ aD.zero ∧ lv (dP aD ((iW L).map fun x => mil x.1 x.2)) = L.foldr (fun x s => vg.add (DP x.1 x.2) s) vg.zero :=
 aEi (fun x => mil x.1 x.2) (fun a q hp hq h => Ll (P:=⟨some a,hp⟩) (a:=a) rfl (Q:=⟨some q,hq⟩) (q:=q) rfl h) L hG
def pL (L : List (C1 × C2)) : Vq:=L.foldr (fun x s => vg.add (DP x.1 x.2) s) vg.zero
theorem aBG (L : List (C1 × C2)) (hG : ∀ x ∈ L,lI x.2) : xL (iW L) ≠ aD.zero ∧ kD (xL (iW L)) = (pL L).1:=by
 obtain ⟨h1,h2⟩:=aHK L hG;rw [YY];refine ⟨h1,?_⟩;rw [← cT h1,h2];rfl
theorem XH {w w' : World} {a : Act} {z : aM} (hA : Holds AS w.heap.size w (pZ z) a w') : bodyPost prog f20 (fun e w' => e = .returned (RV.many [.fl (aN (kD z)),.im (.int .i64 0)]).den ∧ Below w.heap.size w w') .ret a w' :=
 eJ (l:=[.fl (aN (kD z)),.im (.int .i64 0)]) (by kernel_rfl) (by kernel_rfl) hA
theorem Uc (l : List Pq) (h : l = []) : xL l = aD.one:=by
 rw [h,YY];rfl
theorem nY (L : List (C1 × C2)) (h5 : L.length ≤ 5) (hG : ∀ x ∈ L,lI x.2) {m m' : Nat} {args : List Value} {w : World} (ha : bR w [.s (Dz (L.map Prod.fst)) L.length m,.s (Dy (L.map Prod.snd)) L.length m'] args) :
  Good prog 20 (.many [.fl (aN (pL L).1),.im (.int .i64 0)]) args w:=by
 obtain ⟨hz,hv⟩:=aBG L hG;rw [← hv];refine dS func20 (c:=nZ) rfl ha (Nat.le_of_ble_eq_true (by kernel_rfl)) fun a w1 hA => ?_
 rw [aGQ];refine wp_seq (aC aG (jQ oX _) (gN _ _) (aXz L.length m m' _ _) trivial hA fun a w2 hA => ?_);refine wp_seq (aC aG (jQ oX _) (gN _ _) (aXy L.length m m' _ _) ⟨by rw [aBc,decide_eq_false (fun h => h rfl)],by rw [show (256 : Int) = Int.ofNat 256 from rfl,BB,decide_eq_false (by omega)],trivial⟩ hA fun a w3 hA => ?_);refine wp_seq (aC aG (jQ oX _) (gN _ _) (aXx L.length m m' _ _) trivial hA fun a w4 hA => ?_);refine wp_seq (wp_seq (aC aG (jQ oX _) (gN _ _) (aXw L.length m m' _ _) trivial hA fun a w5 hA => ?_));refine Sj rfl h5 hG rfl rfl hA fun a w6 hA => ?_
 clear hv;cases hf : iW L with
 | nil =>
  rw [hf] at hA hz;rw [Uc [] rfl] at hz ⊢;exact aC aG (jQ aAT _) (gN _ _) aXC ⟨rfl,hz,trivial⟩ hA fun a w7 hA => XH hA
 | cons x r =>
  have hon : ∀ y ∈ (x :: r : List Pq),On F2 dG (some y.2):=fun y hy => Mn L y (by rw [hf]; exact hy)
  have hlen : (x :: r : List Pq).length < 4611686018427387904:=by
   have:=HZ L;rw [hf] at this;omega
  rw [hf] at hA hz;show pr4.wp _ _ _ _;rw [aAi];refine wp_seq (sT (l:=List.range' 0 ((cK (cA pr4)).extract 0 1).size ++ (1 :: (List.range' 2 ((cK (cA pr4)).extract 2 5).size ++ []))) (by kernel_rfl) ?_);refine cF (c:=cP Vc [] 0) (fun d => aAT.w _ _) (gN _ _) (aXB (bW x) (r.map bW)) trivial (by kernel_rfl) hA fun a w7 hA => ?_
  obtain ⟨b,hA⟩:=hA.at (k:=63) (l:=rows (bW x :: r.map bW)) (by simp [pB1]);obtain ⟨cap,h65,hO⟩:=hA.soAt (s:=65) (k:=63) (n:=(r.map bW).length + 1) (b:=b) (l:=rows (bW x :: r.map bW)) (by simp [pB1]) (by simp) (by simp [pB1]);rw [List.length_map] at h65;obtain ⟨L',hc⟩:=Tr (x :: r) hlen hon (b:=b) (m:=cap) (w:=w7) hO;obtain ⟨o,ho,hoo,hod,hog⟩ : ∃ o,(cK (cA pr4))[1]? = some o ∧ (∃ ts,o.op = .call ⟨.value (.func 54),#[.tmp 65],ts⟩) ∧ o.dst = some 66 ∧ o.guard = none:=⟨_,rfl,⟨_,rfl⟩,rfl,rfl⟩
  obtain ⟨ts,hoo⟩:=hoo;refine mA ho hog (DX hoo (vs:=[jR b 0 (x :: r).length cap]) (by simp [Act.eval,h65]) (gF func54 (by kernel_rfl) (by kernel_rfl) · _) hc fun e w8 hR => ?_);obtain ⟨rfl,h1,h2⟩:=hR;refine ⟨_,rfl,?_⟩;rw [hod];have hA:=hA.post (dst:=some 66) (kill:=some 63) fun β hβ => ⟨_,aAj (l0:=rows (bW x :: r.map bW)) (b:=b) (.fl (aN (xL (x :: r)))) (by rw [hA.size]; exact Nat.le_of_ble_eq_true (by kernel_rfl)) (by decide) (by simp [pB1]) (by simp) hβ h1 h2⟩
  have hA:=hA.sub (A':=pB2 (xL (x :: r))) fun φ hφ => by
   simp only [pB2,List.mem_cons,List.not_mem_nil,or_false] at hφ
   rcases hφ with rfl | rfl | rfl
   ·exact List.mem_append_right _ (List.mem_filter.2 ⟨by simp [pB1],rfl⟩)
   ·exact List.mem_append_right _ (List.mem_filter.2 ⟨by simp [pB1],rfl⟩)
   ·exact List.mem_append_left _ List.mem_cons_self
  exact cF (c:=cP Vc [] 0) (fun d => aAT.w _ _) (gN _ _) (aXA (xL (x :: r))) ⟨hz,trivial⟩ (by kernel_rfl) hA fun a w9 hA => wp_ret (XH hA)
end Go.Proofs.YtglgakbkdjhojaaGreat.Ex
