/- Pp14 -/
import Derived.ProofKit
import Derived.LaidMore
import Derived.OpenShut
import Derived.Stop.Joined
import Derived.Carry
import Derived.RowKit
import Derived.ChangeSame
import Derived.JoinedOf
import Derived.JoinedAt
import Derived.Laws.IdiomArrays
import Derived.Deep.Strs
import Derived.Test.YtglgakbkdjhojaaGreatPp13
import Derived.Test.YtglgakbkdjhojaaGreatRows
import Derived.Test.YtglgakbkdjhojaaGreatPp05
import Derived.Test.YtglgakbkdjhojaaGreatPp03
import Derived.Test.YtglgakbkdjhojaaGreatProg
set_option maxRecDepth 100000
set_option linter.unusedVariables false
set_option linter.unusedSimpArgs false
noncomputable section
namespace Go.Proofs.YtglgakbkdjhojaaGreat.Ex
open Go.Proofs.Tryz
open Go.RowKit
abbrev Pq:=(Fq × Fq) × (Q2 × Q2)
def CF : Pt Fq → Pt Q2 → List Pq
 | some a,some q => [(a,q)]
 | _,_ => []
def iV : List (C1 × C2) → List Pq
 | [] => []
 | x :: r => CF x.1.1 x.2.1 ++ iV r
theorem ZG : ∀ a b : List (C1 × C2),iV (a ++ b) = iV a ++ iV b
 | [],b => rfl
 | x :: a,b => by show CF _ _ ++ iV (a ++ b) = (CF _ _ ++ iV a) ++ iV b; rw [ZG a b,List.append_assoc]
theorem GV : ∀ l : List (C1 × C2),(iV l).length ≤ l.length
 | [] => Nat.le_refl _
 | x :: r => by
  show (CF x.1.1 x.2.1 ++ iV r).length ≤ r.length + 1;rw [List.length_append];have h:=GV r;have h2 : (CF x.1.1 x.2.1).length ≤ 1:=by unfold CF; split <;> simp
  omega
theorem Tm {L : List (C1 × C2)} {i : Nat} {x : C1 × C2} (h : L[i]? = some x) : iV (L.take (i + 1)) = iV (L.take i) ++ CF x.1.1 x.2.1:=by
 obtain ⟨a,b,_,_,h1,_,h2,_⟩:=nJ h;rw [h1,h2,ZG];show iV a ++ (CF x.1.1 x.2.1 ++ []) = _;rw [List.append_nil]
theorem Md : ∀ (l : List (C1 × C2)),∀ x ∈ iV l,On F2 dF (some x.2)
 | [],x,h => by cases h
 | y :: r,x,h => by
  rcases List.mem_append.1 h with h | h
  ·obtain ⟨⟨p,hp⟩,⟨q,hq⟩⟩:=y;cases p with
   | none => cases h
   | some a =>
    cases q with
    | none => cases h
    | some q => cases List.mem_singleton.1 h; exact hq
  ·exact Md r x h
section
variable {n m m' i base : Nat} {lp lq : List At} {w0 w : World} {a : Act} {Q0 : Exit → Act → World → Prop}
theorem jV {T : Tab} (h : TabOk prog T) (l : List (Nat × Value)) : ∀ n d,TabOkW prog ((cP T l n).T d) base w0:=fun _ _ => h.w _ _
theorem Ys (x : C1 × C2) (hG : oJ x.2) (hr : rdA n i lp lq x.1.1 x.2.1) (hn : n ≤ 5) {l : List Pq} (hl : l.length ≤ i) (h : Holds AO base w0 (pB n m m' lp lq i (l.map bW)) a w)
  {R : Act → World → Prop} (hR : ∀ a w,Holds AO base w0 (pB n m m' lp lq (i + 1) ((l ++ CF x.1.1 x.2.1).map bW)) a w → R a w) : Am.wp prog (Exit.then R Q0) a w:=by
 obtain ⟨hi,s1,s2,c1,c2⟩:=hr;obtain ⟨⟨p,hp⟩,⟨q,hq⟩⟩:=x;have hk:=fun y z => aTt ⟨p,hp⟩ (Q:=⟨q,hq⟩) hG y z
 have ha : aI .add .i64 (Int.ofNat i) 1 = some (iI (i + 1)):=kS (k:=1) (by omega);dsimp only at s1 s2 c1 c2 hk hR;cases p with
 | none =>
  have e : l ++ CF none q = l:=List.append_nil l;rw [e] at hR;cases q with
  | none =>
   cases hW : l.map bW with
   | nil => rw [hW] at h hR; exact aC aG (jV (hk zq SV) _) (jB (eE _) _ _) (aTn n m m' i lp lq) ⟨bX hi,rfl,hi,s1,rfl,hi,s2,rfl,rfl,rfl,hi,c1,ha,trivial⟩ h fun a w hA => hR a w hA
   | cons W r => rw [hW] at h hR; exact aC aG (jV (hk zq SV) _) (jB (eE _) _ _) (aTm n m m' i lp lq W r) ⟨bX hi,rfl,hi,s1,rfl,hi,s2,rfl,rfl,rfl,hi,c1,ha,trivial⟩ h fun a w hA => hR a w hA
  | some q =>
   cases hW : l.map bW with
   | nil => rw [hW] at h hR; exact aC aG (jV (hk zq SV) _) (jB (eE _) _ _) (aTl n m m' i lp lq q) ⟨bX hi,rfl,hi,s1,rfl,hi,s2,rfl,rfl,rfl,hi,c1,ha,trivial⟩ h fun a w hA => hR a w hA
   | cons W r => rw [hW] at h hR; exact aC aG (jV (hk zq SV) _) (jB (eE _) _ _) (aTk n m m' i lp lq q W r) ⟨bX hi,rfl,hi,s1,rfl,hi,s2,rfl,rfl,rfl,hi,c1,ha,trivial⟩ h fun a w hA => hR a w hA
 | some pa =>
  cases q with
  | none =>
   have e : l ++ CF (some pa) none = l:=List.append_nil l;rw [e] at hR;cases hW : l.map bW with
   | nil => rw [hW] at h hR; exact aC aG (jV (hk zq SV) _) (jB (eE _) _ _) (aXb n m m' i lp lq pa) ⟨bX hi,rfl,hi,s1,rfl,hi,s2,rfl,rfl,rfl,hi,c1,rfl,hi,c2,ha,trivial⟩ h fun a w hA => hR a w hA
   | cons W r => rw [hW] at h hR; exact aC aG (jV (hk zq SV) _) (jB (eE _) _ _) (aXa n m m' i lp lq pa W r) ⟨bX hi,rfl,hi,s1,rfl,hi,s2,rfl,rfl,rfl,hi,c1,rfl,hi,c2,ha,trivial⟩ h fun a w hA => hR a w hA
  | some qq =>
   have e : (l ++ CF (some pa) (some qq)).map bW = l.map bW ++ [bW (pa,qq)]:=List.map_append;rw [e] at hR;have hlW : (l.map bW).length ≤ 4:=by rw [List.length_map]; omega
   match hW : l.map bW,hlW with
   | [],_ => rw [hW] at h hR; exact aC aG (jV (hk pa qq) _) (jB (eE _) _ _) (aWZ n m m' i lp lq pa qq) ⟨bX hi,rfl,hi,s1,rfl,hi,s2,rfl,rfl,rfl,hi,c1,rfl,hi,c2,rfl,hi,s1,rfl,hi,s2,rfl,rfl,ha,trivial⟩ h fun a w hA => hR a w hA
   | [W0],_ => rw [hW] at h hR; exact aC aG (jV (hk pa qq) _) (jB (eE _) _ _) (aWY n m m' i lp lq pa qq W0) ⟨bX hi,rfl,hi,s1,rfl,hi,s2,rfl,rfl,rfl,hi,c1,rfl,hi,c2,rfl,hi,s1,rfl,hi,s2,rfl,rfl,ha,trivial⟩ h fun a w hA => hR a w hA
   | [W0,W1],_ => rw [hW] at h hR; exact aC aG (jV (hk pa qq) _) (jB (eE _) _ _) (aWX n m m' i lp lq pa qq W0 W1) ⟨bX hi,rfl,hi,s1,rfl,hi,s2,rfl,rfl,rfl,hi,c1,rfl,hi,c2,rfl,hi,s1,rfl,hi,s2,rfl,rfl,ha,trivial⟩ h fun a w hA => hR a w hA
   | [W0,W1,W2],_ => rw [hW] at h hR; exact aC aG (jV (hk pa qq) _) (jB (eE _) _ _) (aWW n m m' i lp lq pa qq W0 W1 W2) ⟨bX hi,rfl,hi,s1,rfl,hi,s2,rfl,rfl,rfl,hi,c1,rfl,hi,c2,rfl,hi,s1,rfl,hi,s2,rfl,rfl,ha,trivial⟩ h fun a w hA => hR a w hA
   | [W0,W1,W2,W3],_ => rw [hW] at h hR; exact aC aG (jV (hk pa qq) _) (jB (eE _) _ _) (aWV n m m' i lp lq pa qq W0 W1 W2 W3) ⟨bX hi,rfl,hi,s1,rfl,hi,s2,rfl,rfl,rfl,hi,c1,rfl,hi,c2,rfl,hi,s1,rfl,hi,s2,rfl,rfl,ha,trivial⟩ h fun a w hA => hR a w hA
   | _ :: _ :: _ :: _ :: _ :: _,h5 => exact absurd h5 (by simp)
theorem Ry {L : List (C1 × C2)} (hn : L.length = n) (h5 : n ≤ 5) (hG : ∀ x ∈ L,oJ x.2) (hlp : lp = Zk (L.map Prod.fst)) (hlq : lq = Zj (L.map Prod.snd)) (h : Holds AO base w0 (pB n m m' lp lq 0 []) a w)
  (hQ : ∀ a w,Holds AO base w0 (pA3 ((iV L).map bW)) a w → Q0 .normal a w) : (Code.block 0 (.loop Am)).wp prog Q0 a w:=by
 refine wp_block ?_;refine pI (fun i a w => Holds AO base w0 (pB n m m' lp lq i ((iV (L.take i)).map bW)) a w) n (fun i hi a w hA R hR => ?_) (fun a w hA R => ?_) (by rw [List.take_zero]; exact h)
 ·obtain ⟨x,hx⟩ : ∃ x,L[i]? = some x:=⟨_,List.getElem?_eq_getElem (by omega)⟩
  have hlen : (iV (L.take i)).length ≤ i:=Nat.le_trans (GV _) (by rw [List.length_take]; omega);refine Ys x (hG x (List.mem_of_getElem? hx)) ?_ h5 hlen hA fun a w hA => ?_
  ·rw [hlp,hlq];exact aML hi (by rw [List.getElem?_map,hx]; rfl) (by rw [List.getElem?_map,hx]; rfl)
  ·rw [← Tm hx] at hA;exact hR a w hA
 ·have e : L.take n = L:=by rw [← hn,List.take_length]
  rw [e] at hA;cases hW : (iV L).map bW with
  | nil =>
   rw [hW] at hA hQ;exact aC aG (jV nV _) (gO _ _) (p_x n m m' n lp lq) ⟨eI (Nat.le_refl _),trivial⟩ hA fun a w hA => hQ a w hA
  | cons W r =>
   rw [hW] at hA hQ;exact aC aG (jV nV _) (gO _ _) (p_y n m m' n lp lq W r) ⟨eI (Nat.le_refl _),trivial⟩ hA fun a w hA => hQ a w hA
end
def aOR : lO
 | [.v (.im v)] => some ([v = .slice none 0 0],.one (.fl (aL aD.one)))
 | _ => none
theorem aIa : ∀ cs pre r,aOR cs = some (pre,r) → aY pre → ∀ (args : List Value) (w : World),bR w cs args → Good prog 54 r args w:=by
 intro cs pre r hg hp args w ha;unfold aOR at hg;split at hg
 ·cases hg;obtain ⟨rfl,_⟩:=hp;exact aB aG (fun _ _ => aTu) (aK _) func54 aFI ⟨rfl,trivial⟩ ha
 ·cases hg
def Ul : Tab:=(vQ.add 54 aOR).add 53 (g1 oC oLa)
theorem aAL : TabOk prog Ul:=(nV.ad func54 aIa).ad func53 (bC (op:=oLa) dG fun z hp args w ha => wla z hp.1 args w ha)
def pZ (z : aN) : List Fact:=[.slot 4 (.pt 4 0),.row 4 true (aL (iO z)),.slot 5 (.im (.int .i64 0))]
theorem aWT : aX prog q0 AO (cP Ul []) 40 pr4 (pA3 []) (pZ aD.one) = some ([Value.slice none 0 0 = .slice none 0 0,aD.one ≠ aD.zero],.rt,pZ aD.one):=by kernel_rfl
def pB1 (W : Wk) (r : List Wk) : List Fact:=[.slot 4 (.pt 4 0),.row 4 true (aL aD.zero),.slot 65 (.so 63 (r.length + 1)),.row 63 true (rows (W :: r))]
def pB2 (z : aN) : List Fact:=[.slot 4 (.pt 4 0),.row 4 true (aL aD.zero),.slot 66 (.fl (aL z))]
theorem aWS (W : Wk) (r : List Wk) : rJ prog q0 AO (cP Ul [] 0) ((cJ (cA pr4)).extract 0 1) (pA3 (W :: r)) (pB1 W r) = some ([],pB1 W r):=by kernel_rfl
theorem aWR (z : aN) : rJ prog q0 AO (cP Ul [] 0) ((cJ (cA pr4)).extract 2 5) (pB2 z) (pZ z) = some ([z ≠ aD.zero],pZ z):=by kernel_rfl
theorem Zz : pr4 = .seq (cA pr4) .ret:=by kernel_rfl
theorem aAa {base : Nat} {β : Nat → Bk} {a : Act} {w w' : World} {d k b : Nat} {M : List Fact} {l0 l' : List At} (v : TV) (h : d < a.tmps.size) (hkd : k ≠ d) (hrow : Fact.row k true l0 ∈ M) (hat : Fact.at k b ∈ M) (hM : ∀ φ ∈ M,φ.ok base β a w)
  (hwr : WrC w w' b) (hrg : w'.rangeAt b 0 (aA l')) : PostB base β β a w (some d) M [.slot d v.av,.row k true l'] (some k) (a.put (some d) v.den) w':=by
 obtain ⟨r1,r2,r3,r4⟩:=hM _ hrow;obtain ⟨r5,r6,r7⟩:=r3 rfl;obtain ⟨e1,e2⟩:=hM _ hat;refine ⟨mX _ _ _,fM _ _ _,fun s hs => mW _ _ _ _ hs,fun _ _ => rfl,hwr.below.size,fun p hp hne => hwr.mem p hp (by rw [← e1]; exact hne k rfl),hwr.shape,fun w0 h0 => h0.trans (hwr.below.mono (by omega)),fun φ hφ => ?_,fun k' l1 hk => ?_,fun k1 k2 l1 l2 hk hk' => ?_,fun k' hk => ?_⟩
 ·simp only [List.mem_cons,List.not_mem_nil,or_false] at hφ
  rcases hφ with rfl | rfl
  ·show (a.put (some d) _).tmps[d]? = _;rw [jC _ _ _ h,TV.av_den]
  ·exact ⟨Nat.lt_of_lt_of_le r1 hwr.below.size,by rw [e1,e2]; exact hrg,fun _ => ⟨r5,r6,fun q => by rw [e1]; exact hwr.free q⟩,fun h => by cases h⟩
 ·simp only [List.mem_cons,List.not_mem_nil,or_false] at hk
  rcases hk with hk | hk
  ·cases v <;> cases hk
  ·cases hk;exact Or.inr (Or.inl ⟨fun e => hkd (by injection e with e; exact e.symm),l0,hrow⟩)
 ·simp only [List.mem_cons,List.not_mem_nil,or_false] at hk hk'
  rcases hk with hk | hk
  ·cases v <;> cases hk
  ·rcases hk' with hk' | hk'
   ·cases v <;> cases hk'
   ·cases hk; cases hk'; rfl
 ·cases hk;exact ⟨l0,hrow⟩
theorem Holds.soAt {nt base : Nat} {w0 : World} {A : List Fact} {a : Act} {w : World} (h : Holds nt base w0 A a w) {s k n b : Nat} {l : List At} (h1 : Fact.slot s (.so k n) ∈ A) (h2 : Fact.at k b ∈ A) (h3 : Fact.row k true l ∈ A) : ∃ cap,a.tmps[s]? = some (jW b 0 n cap) ∧ Own w b l:=by
 obtain ⟨β,g1,_⟩:=h.facts;have e1:=g1 _ h1;have e2:=g1 _ h2;obtain ⟨e3,e4,e5,_⟩:=g1 _ h3;obtain ⟨_,_,e6⟩:=e5 rfl;simp only [Fact.ok] at e1 e2;refine ⟨(β k).2.2,by rw [e1]; simp [AV.den,e2,jW],by rw [← e2.1]; exact e3,?_,fun j => by rw [← e2.1]; exact e6 j⟩;rw [e2.1,e2.2] at e4;exact e4
theorem Ds {R : Type} (K : CR R) (x : R) (l : List R) : dQ K (x :: l) = K.mul x (dQ K l):=rfl
theorem Si (M : Pq → aN) (x : Pq) (l : List Pq) : dQ aD ((x :: l).map M) = aD.mul (M x) (dQ aD (l.map M)):=by rw [List.map_cons,Ds]
theorem aDX (M : Pq → aN) (hM : ∀ (a : Fq × Fq) (q : Q2 × Q2) (hp : On F1 (fm 3) (some a)) (hq : On F2 dF (some q)),oJ ⟨some q,hq⟩ → M (a,q) ≠ aD.zero ∧ lv (M (a,q)) = SZ ⟨some a,hp⟩ ⟨some q,hq⟩) :
  ∀ L : List (C1 × C2),(∀ x ∈ L,oJ x.2) → dQ aD ((iV L).map M) ≠ aD.zero ∧ lv (dQ aD ((iV L).map M)) = L.foldr (fun x s => vg.add (SZ x.1 x.2) s) vg.zero
 | [],_ => ⟨jT.1,zK ⟨jT.1,CY⟩⟩
 | x :: r,hG => by
  obtain ⟨h1,h2⟩:=aDX M hM r fun y hy => hG y (List.mem_cons_of_mem _ hy)
  have hx:=hG x List.mem_cons_self;obtain ⟨⟨p,hp⟩,⟨q,hq⟩⟩:=x;rw [List.foldr_cons,← h2];cases p with
  | none =>
   have e : SZ ⟨none,hp⟩ ⟨q,hq⟩ = vg.zero:=aQI hx;have ef : iV ((⟨none,hp⟩,⟨q,hq⟩) :: r) = iV r:=by cases q <;> rfl
   rw [ef];dsimp only;rw [e,vg.zadd];exact ⟨h1,rfl⟩
  | some a =>
   cases q with
   | none =>
    have e : SZ ⟨some a,hp⟩ ⟨none,hq⟩ = vg.zero:=aQH _;have ef : iV ((⟨some a,hp⟩,⟨none,hq⟩) :: r) = iV r:=rfl;rw [ef];dsimp only;rw [e,vg.zadd];exact ⟨h1,rfl⟩
   | some q =>
    obtain ⟨m1,m2⟩:=hM a q hp hq hx;have ef : iV ((⟨some a,hp⟩,⟨some q,hq⟩) :: r) = (a,q) :: iV r:=rfl;rw [ef,Si];dsimp only;rw [← m2,PW m1 h1];exact ⟨nA m1 h1,rfl⟩
theorem aHz (L : List (C1 × C2)) (hG : ∀ x ∈ L,oJ x.2) : dQ aD ((iV L).map fun x => mil x.1 x.2) ≠ aD.zero ∧ lv (dQ aD ((iV L).map fun x => mil x.1 x.2)) = L.foldr (fun x s => vg.add (SZ x.1 x.2) s) vg.zero :=
 aDX (fun x => mil x.1 x.2) (fun a q hp hq h => aHy (P:=⟨some a,hp⟩) (a:=a) rfl (Q:=⟨some q,hq⟩) (q:=q) rfl h) L hG
def RS (L : List (C1 × C2)) : Vq:=L.foldr (fun x s => vg.add (SZ x.1 x.2) s) vg.zero
theorem YN (L : List (C1 × C2)) (hG : ∀ x ∈ L,oJ x.2) : xM (iV L) ≠ aD.zero ∧ iO (xM (iV L)) = (RS L).1:=by
 obtain ⟨h1,h2⟩:=aHz L hG;rw [YO];refine ⟨h1,?_⟩;rw [← cU h1,h2];rfl
theorem WY {w w' : World} {a : Act} {z : aN} (hA : Holds AO w.heap.size w (pZ z) a w') : bodyPost prog f20 (fun e w' => e = .returned (RV.many [.fl (aL (iO z)),.im (.int .i64 0)]).den ∧ Below w.heap.size w w') .ret a w' :=
 eK (l:=[.fl (aL (iO z)),.im (.int .i64 0)]) (by kernel_rfl) (by kernel_rfl) hA
theorem Tn (l : List Pq) (h : l = []) : xM l = aD.one:=by
 rw [h,YO];rfl
theorem oF (L : List (C1 × C2)) (h5 : L.length ≤ 5) (hG : ∀ x ∈ L,oJ x.2) {m m' : Nat} {args : List Value} {w : World} (ha : bR w [.s (Zk (L.map Prod.fst)) L.length m,.s (Zj (L.map Prod.snd)) L.length m'] args) :
  Good prog 20 (.many [.fl (aL (RS L).1),.im (.int .i64 0)]) args w:=by
 obtain ⟨hz,hv⟩:=YN L hG;rw [← hv];refine dS func20 (c:=oG) rfl ha (Nat.le_of_ble_eq_true (by kernel_rfl)) fun a w1 hA => ?_
 rw [aGP];refine wp_seq (aC aG (jV nV _) (gO _ _) (aWQ L.length m m' _ _) trivial hA fun a w2 hA => ?_);refine wp_seq (aC aG (jV nV _) (gO _ _) (aWP L.length m m' _ _) ⟨by rw [aAV,decide_eq_false (fun h => h rfl)],by rw [show (256 : Int) = Int.ofNat 256 from rfl,AW,decide_eq_false (by omega)],trivial⟩ hA fun a w3 hA => ?_);refine wp_seq (aC aG (jV nV _) (gO _ _) (aWO L.length m m' _ _) trivial hA fun a w4 hA => ?_);refine wp_seq (wp_seq (aC aG (jV nV _) (gO _ _) (aWN L.length m m' _ _) trivial hA fun a w5 hA => ?_));refine Ry rfl h5 hG rfl rfl hA fun a w6 hA => ?_
 clear hv;cases hf : iV L with
 | nil =>
  rw [hf] at hA hz;rw [Tn [] rfl] at hz ⊢;exact aC aG (jV aAL _) (gO _ _) aWT ⟨rfl,hz,trivial⟩ hA fun a w7 hA => WY hA
 | cons x r =>
  have hon : ∀ y ∈ (x :: r : List Pq),On F2 dF (some y.2):=fun y hy => Md L y (by rw [hf]; exact hy)
  have hlen : (x :: r : List Pq).length < 4611686018427387904:=by
   have:=GV L;rw [hf] at this;omega
  rw [hf] at hA hz;show pr4.wp _ _ _ _;rw [Zz];refine wp_seq (sU (l:=List.range' 0 ((cJ (cA pr4)).extract 0 1).size ++ (1 :: (List.range' 2 ((cJ (cA pr4)).extract 2 5).size ++ []))) (by kernel_rfl) ?_);refine cE (c:=cP Ul [] 0) (fun d => aAL.w _ _) (gO _ _) (aWS (bW x) (r.map bW)) trivial (by kernel_rfl) hA fun a w7 hA => ?_
  obtain ⟨b,hA⟩:=hA.at (k:=63) (l:=rows (bW x :: r.map bW)) (by simp [pB1]);obtain ⟨cap,h65,hO⟩:=hA.soAt (s:=65) (k:=63) (n:=(r.map bW).length + 1) (b:=b) (l:=rows (bW x :: r.map bW)) (by simp [pB1]) (by simp) (by simp [pB1]);rw [List.length_map] at h65;obtain ⟨L',hc⟩:=Td (x :: r) hlen hon (b:=b) (m:=cap) (w:=w7) hO;obtain ⟨o,ho,hoo,hod,hog⟩ : ∃ o,(cJ (cA pr4))[1]? = some o ∧ (∃ ts,o.op = .call ⟨.value (.func 54),#[.tmp 65],ts⟩) ∧ o.dst = some 66 ∧ o.guard = none:=⟨_,rfl,⟨_,rfl⟩,rfl,rfl⟩
  obtain ⟨ts,hoo⟩:=hoo;refine mG ho hog (DS hoo (vs:=[jW b 0 (x :: r).length cap]) (by simp [Act.eval,h65]) (gI func54 (by kernel_rfl) (by kernel_rfl) · _) hc fun e w8 hR => ?_);obtain ⟨rfl,h1,h2⟩:=hR;refine ⟨_,rfl,?_⟩;rw [hod];have hA:=hA.post (dst:=some 66) (kill:=some 63) fun β hβ => ⟨_,aAa (l0:=rows (bW x :: r.map bW)) (b:=b) (.fl (aL (xM (x :: r)))) (by rw [hA.size]; exact Nat.le_of_ble_eq_true (by kernel_rfl)) (by decide) (by simp [pB1]) (by simp) hβ h1 h2⟩
  have hA:=hA.sub (A':=pB2 (xM (x :: r))) fun φ hφ => by
   simp only [pB2,List.mem_cons,List.not_mem_nil,or_false] at hφ
   rcases hφ with rfl | rfl | rfl
   ·exact List.mem_append_right _ (List.mem_filter.2 ⟨by simp [pB1],rfl⟩)
   ·exact List.mem_append_right _ (List.mem_filter.2 ⟨by simp [pB1],rfl⟩)
   ·exact List.mem_append_left _ List.mem_cons_self
  exact cE (c:=cP Ul [] 0) (fun d => aAL.w _ _) (gO _ _) (aWR (xM (x :: r))) ⟨hz,trivial⟩ (by kernel_rfl) hA fun a w9 hA => wp_ret (WY hA)
inductive Fk | a | b | c
def Hu (x : gB) : Fk → Prop
 | .a => ¬ vN x
 | .b => vN x ∧ aA (fC x) = aA (aL aD.zero)
 | .c => vN x ∧ aA (fC x) ≠ aA (aL aD.zero)
def FkE : Fk → Int | .a => 21 | .b => 22 | .c => 0
def FkV (x : gB) : Fk → aN | .c => iO (eD x) | _ => aD.zero
theorem aLm (x : gB) : ∃ k,Hu x k:=by
 by_cases h : vN x
 ·by_cases h2 : aA (fC x) = aA (aL aD.zero)
  ·exact ⟨.b,h,h2⟩
  ·exact ⟨.c,h,h2⟩
 ·exact ⟨.a,h⟩
theorem WM {x : gB} (h : vN x) (hz : eD x = aD.zero) : aA (fC x) = aA (aL aD.zero):=by
 have e : ∀ n,wv n < FP.M → m1 n = F1.zero → w4 n = w4 0:=fun n hn h1 => by
  have h2 : wv n = 0:=by
   have:=congrArg Fin.val h1;have h3 : (m1 n).1 = wv n % FP.M:=rfl;rw [h3,Nat.mod_eq_of_lt hn] at this;exact this
  unfold wv aF at h2;have k0 : fw n 0 = 0:=by omega
  have k1 : fw n 1 = 0:=by omega
  have k2 : fw n 2 = 0:=by omega
  have k3 : fw n 3 = 0:=by omega
  unfold w4;rw [k0,k1,k2,k3];rfl
 have c0 : w4 x.1.1.1 = w4 0:=e _ (h _ (by simp [kC])) (congrArg (fun t : aN => t.1.1.1) hz);have c1 : w4 x.1.1.2 = w4 0:=e _ (h _ (by simp [kC])) (congrArg (fun t : aN => t.1.1.2) hz);have c2 : w4 x.1.2.1.1 = w4 0:=e _ (h _ (by simp [kC])) (congrArg (fun t : aN => t.1.2.1.1) hz);have c3 : w4 x.1.2.1.2 = w4 0:=e _ (h _ (by simp [kC])) (congrArg (fun t : aN => t.1.2.1.2) hz);have c4 : w4 x.1.2.2.1 = w4 0:=e _ (h _ (by simp [kC])) (congrArg (fun t : aN => t.1.2.2.1) hz);have c5 : w4 x.1.2.2.2 = w4 0:=e _ (h _ (by simp [kC])) (congrArg (fun t : aN => t.1.2.2.2) hz);have c6 : w4 x.2.1.1 = w4 0:=e _ (h _ (by simp [kC])) (congrArg (fun t : aN => t.2.1.1) hz);have c7 : w4 x.2.1.2 = w4 0:=e _ (h _ (by simp [kC])) (congrArg (fun t : aN => t.2.1.2) hz);have c8 : w4 x.2.2.1.1 = w4 0:=e _ (h _ (by simp [kC])) (congrArg (fun t : aN => t.2.2.1.1) hz);have c9 : w4 x.2.2.1.2 = w4 0:=e _ (h _ (by simp [kC])) (congrArg (fun t : aN => t.2.2.1.2) hz);have c10 : w4 x.2.2.2.1 = w4 0:=e _ (h _ (by simp [kC])) (congrArg (fun t : aN => t.2.2.2.1) hz);have c11 : w4 x.2.2.2.2 = w4 0:=e _ (h _ (by simp [kC])) (congrArg (fun t : aN => t.2.2.2.2) hz);show w4 x.1.1.1 ++ (w4 x.1.1.2 ++ (w4 x.1.2.1.1 ++ (w4 x.1.2.1.2 ++ (w4 x.1.2.2.1 ++ (w4 x.1.2.2.2 ++ (w4 x.2.1.1 ++ (w4 x.2.1.2 ++ (w4 x.2.2.1.1 ++ (w4 x.2.2.1.2 ++ (w4 x.2.2.2.1 ++ (w4 x.2.2.2.2 ++ []))))))))))) = _;rw [c0,c1,c2,c3,c4,c5,c6,c7,c8,c9,c10,c11];rfl
theorem KZ (x : gB) (k : Fk) (h : Hu x k) (args : List Value) (w : World) (ha : bR w [.v (.fl (fC x))] args) : Good prog 25 (.many [.fl (aL (FkV x k)),.im (.int .i64 (FkE k))]) args w:=by
 cases k
 ·exact aH aG (aAM false) (aK _) func25 (VY x) ⟨h,trivial⟩ ha
 ·exact aH aG (aAM true) (aK _) func25 (VX x) ⟨h.1,h.2,trivial⟩ ha
 ·exact aH aG (aAM true) (aK _) func25 (VW x) ⟨h.1,h.2,fun e => h.2 (WM h.1 (pF e)),trivial⟩ ha
def gPr (L : List (C1 × C2)) : lO
 | [.s l n m,.s l' n' m'] => some ([aA l = aA (Zk (L.map Prod.fst)),aA l' = aA (Zj (L.map Prod.snd)),n = L.length,n' = L.length],.many [.fl (aL (RS L).1),.im (.int .i64 0)])
 | _ => none
theorem aOP {L : List (C1 × C2)} (h5 : L.length ≤ 5) (hG : ∀ x ∈ L,oJ x.2) : ∀ cs pre r,gPr L cs = some (pre,r) → aY pre → ∀ (args : List Value) (w : World),bR w cs args → Good prog 20 r args w:=by
 intro cs pre r hg hp args w ha;unfold gPr at hg;split at hg
 ·rename_i l n m l' n' m';cases hg;obtain ⟨e1,e2,rfl,rfl,_⟩:=hp
  match args,ha with
  | [v,u],ha =>
   obtain ⟨⟨b,o,rfl,h1,h2⟩,⟨b',o',rfl,h3,h4⟩,_⟩:=ha;rw [e1] at h2;rw [e2] at h4;exact oF L h5 hG ⟨⟨b,o,rfl,h1,h2⟩,⟨b',o',rfl,h3,h4⟩,trivial⟩
  | [],ha => exact ha.elim
  | [_],ha => exact ha.2.elim
  | _ :: _ :: _ :: _,ha => exact ha.2.2.elim
 ·cases hg
def aLh (L : List (C1 × C2)) : Tab:=T0.add 20 (gPr L)
theorem aNN {L : List (C1 × C2)} (h5 : L.length ≤ 5) (hG : ∀ x ∈ L,oJ x.2) : TabOk prog (aLh L):=(BP _).ad func20 (aOP h5 hG)
theorem Xq (L : List (C1 × C2)) (p : Pt Fq) (q : Pt Q2) : aW prog (qG prog) (wq (aLh L)) f12 60 [.v (.fl (gC p)),.v (.fl (eC q))] =
  some ([aA (gC p) = aA (Zk (L.map Prod.fst)),aA (eC q) = aA (Zj (L.map Prod.snd)),1 = L.length,1 = L.length],.many [.fl (aL (RS L).1),.im (.int .i64 0)]):=by kernel_rfl
theorem aCI (l : List At) : aA l = aA (l ++ []):=by rw [List.append_nil]
theorem Ed (P : C1) (Q : C2) (hG : oJ Q) (w : World) : Good prog 12 (.many [.fl (aL (RS [(P,Q)]).1),.im (.int .i64 0)]) [.agg (aA (gC P.1)).toArray,.agg (aA (eC Q.1)).toArray] w :=
 aB aG (fun _ _ => aNN (L:=[(P,Q)]) (Nat.le_of_ble_eq_true rfl) (fun x hx => by cases List.mem_singleton.1 hx; exact hG)) (aK _) func12 (Xq [(P,Q)] P.1 Q.1) ⟨aCI _,aCI _,rfl,rfl,trivial⟩ ⟨rfl,rfl,trivial⟩
theorem aBy {z : aN} (hz : z ≠ aD.zero) : ZA (iO z):=by
 have hn : sF z ≠ F1.zero:=fun e => hz (pF e)
 exact ⟨aUi (Mn hn),aUg (Mn hn)⟩
theorem aJa (L : List (C1 × C2)) (hG : ∀ x ∈ L,oJ x.2) : ZA (RS L).1:=by
 obtain ⟨h1,h2⟩:=YN L hG;rw [← h2];exact aBy h1
def vH : C1:=cp1 g1n
def YZ : C2:=cp2 g2n
theorem tK : oJ YZ:=aPh
theorem aOG : YZ.1 = some (Aq,Fs):=(RC aKA).trans (Gm Aq Fs)
theorem aFH (n : Nat) : aW prog (qG prog) (wq JB) f16 60 [.v (.fl (q1 n))] = some ([],.one (.fl (gC (oV (fun _ => g1n) (fun _ => n) 1).1))):=by kernel_rfl
theorem Sh (n : Nat) (args : List Value) (w : World) (ha : bR w [.v (.fl (q1 n))] args) : Good prog 16 (.one (.fl (gC (iY.grp.ns (wv n) vH).1))) args w:=by
 have h:=aB aG (fun _ _ => zD) (aK _) func16 (aFH n) trivial ha;have e:=tM1 vH n;rw [show Vx vH.1 = g1n from aUt] at e;rw [e] at h;exact h
def T_F (k : Fk) : Tab:=T0.add 25 (g1 ER fun x => ([Hu x k],.many [.fl (aL (FkV x k)),.im (.int .i64 (FkE k))]))
theorem aTA (k : Fk) : TabOk prog (T_F k):=(BP _).ad func25 (bC (op:=fun x => ([Hu x k],.many [.fl (aL (FkV x k)),.im (.int .i64 (FkE k))])) mA fun x hp args w ha => KZ x k hp.1 args w ha)
theorem ZC {z : aN} (h : z ≠ aD.zero) : aA (fC (gR z)) ≠ aA (aL aD.zero):=fun e => h (Mp e)
def oF3 (z : aN) : List Prop × RV:=([z ≠ aD.zero],.many [.fl (aL (iO z)),.im (.int .i64 0)])
theorem aVz (z : aN) (hz : z ≠ aD.zero) (args : List Value) (w : World) (ha : bR w [.v (.fl (aL z))] args) : Good prog 25 (oF3 z).2 args w:=by
 have h:=KZ (gR z) .c ⟨RT z,ZC hz⟩ args w (by
  match args,ha with
  | [v],ha => exact ⟨ha.1,trivial⟩
  | [],ha => exact ha.elim
  | _ :: _ :: _,ha => exact ha.2.elim)
 rw [show FkV (gR z) .c = iO (eD (gR z)) from rfl,fA] at h;exact h
def aRn : Tab:=T0.add 25 (g1 oC oF3)
theorem aTz : TabOk prog aRn:=(BP _).ad func25 (bC (op:=oF3) dG fun z hp args w ha => aVz z hp.1 args w ha)
theorem aOb (x y : gB) : vQ 26 [.v (.fl (fC x)),.v (.fl (fC y))] = some ([],.one (.fl (aL (aD.mul (eD x) (eD y))))):=by kernel_rfl
theorem aUk : JB 24 [] = some ([],.one (.fl (eC (some (Aq,Fs))))):=by kernel_rfl
theorem aPI (x : gB) : fQ true 27 [.v (.fl (fC x))] = some ([lK (eD x)],.one (.im (.bool true))):=by kernel_rfl
def aTF (z : aN) : List Prop × RV:=([lK z],.one (.im (.bool true)))
def aLg : Tab:=(T0.add 26 (g2 EJ EJ fun x y => ([],.one (.fl (aL (aD.mul x y)))))).add 24 (g0 (.one (.fl (eC (some (Aq,Fs))))))
theorem aNM : TabOk prog aLg:=((BP _).ad func26 (vI (op:=fun x y => ([],.one (.fl (aL (aD.mul x y))))) lY lY fun x y hp args w ha => (nV _ _ _ _ (aOb x y) trivial).2 args w ha)).add
 func24 (by kernel_rfl) (by kernel_rfl) (jJ fun w => (zD _ _ _ _ aUk trivial).2 [] w trivial)
def oP1 (n : Nat) : List Prop × RV:=([],.one (.fl (gC (iY.grp.ns (wv n) vH).1)))
def aLf : Tab:=(aLg.add 16 (g1 ON oP1)).add 27 (g1 EJ aTF)
theorem aNL : TabOk prog aLf:=(aNM.ad func16 (bC (op:=oP1) gD fun n hp args w ha => Sh n args w ha)).add
 func27 (by kernel_rfl) (by kernel_rfl) (jI (op:=aTF) lY fun x hp args w ha => (eW true _ _ _ _ (aPI x) ⟨hp.1,trivial⟩).2 args w ha)
def aRj (P : C1) (Q : C2) : Tab:=(aLf.add 28 (g1 oC (oIg true))).add 12 (gE2 (gC P.1) (eC Q.1) (.many [.fl (aL (RS [(P,Q)]).1),.im (.int .i64 0)]))
theorem aTs (P : C1) {Q : C2} (h : oJ Q) : TabOk prog (aRj P Q):=(aNL.ad func28 (bC (op:=oIg true) dG fun z hp args w ha => aNS true z hp args w ha)).add
 func12 (by kernel_rfl) (by kernel_rfl) (Fp fun w => Ed P Q h w)
def cPw (ka kb : Fk) (P : C1) (Q : C2) (h : Nat → Bool) : Nat → Cfg:=fun _ => ⟨fun s => bif Nat.beq s 17 then T_F ka else bif Nat.beq s 22 then T_F kb else bif Nat.beq s 42 then aRn else aRj P Q,h,fun _ => none⟩
theorem IH (ka kb : Fk) (P : C1) {Q : C2} (h : oJ Q) (hh : Nat → Bool) : ∀ n d,TabOk prog ((cPw ka kb P Q hh n).T d):=fun n s => by
 show TabOk _ (bif Nat.beq s 17 then T_F ka else bif Nat.beq s 22 then T_F kb else bif Nat.beq s 42 then aRn else aRj P Q);cases Nat.beq s 17
 ·cases Nat.beq s 22
  ·cases Nat.beq s 42
   ·exact aTs P h
   ·exact aTz
  ·exact aTA kb
 ·exact aTA ka
theorem aFG (xa xb : gB) (n : Nat) (kb : Fk) (P : C1) (Q : C2) : aW prog (qG prog) (cPw .a kb P Q (fun _ => true)) f6 100 [.v (.fl (fC xa)),.v (.fl (fC xb)),.v (.fl (q1 n))] = some ([Hu xa .a,Hu xb kb,aA (aL aD.zero) = aA (aL aD.zero)],.one (.im (.bool true))):=by kernel_rfl
theorem aFF (xa xb : gB) (n : Nat) (kb : Fk) (P : C1) (Q : C2) : aW prog (qG prog) (cPw .b kb P Q (fun _ => true)) f6 100 [.v (.fl (fC xa)),.v (.fl (fC xb)),.v (.fl (q1 n))] = some ([Hu xa .b,Hu xb kb,aA (aL aD.zero) = aA (aL aD.zero)],.one (.im (.bool true))):=by kernel_rfl
theorem Xp (xa xb : gB) (n : Nat) (P : C1) (Q : C2) : aW prog (qG prog) (cPw .c .a P Q (fun _ => false)) f6 100 [.v (.fl (fC xa)),.v (.fl (fC xb)),.v (.fl (q1 n))] = some ([Hu xa .c,Hu xb .a,aA (aL (iO (eD xa))) ≠ aA (aL aD.zero)],.one (.im (.bool true))):=by kernel_rfl
theorem Xo (xa xb : gB) (n : Nat) (P : C1) (Q : C2) : aW prog (qG prog) (cPw .c .b P Q (fun _ => false)) f6 100 [.v (.fl (fC xa)),.v (.fl (fC xb)),.v (.fl (q1 n))] = some ([Hu xa .c,Hu xb .b,aA (aL (iO (eD xa))) ≠ aA (aL aD.zero)],.one (.im (.bool true))):=by kernel_rfl
theorem aMF (xa xb : gB) (n : Nat) (P : C1) (Q : C2) : aW prog (qG prog) (cPw .c .c P Q (fun _ => true)) f6 100 [.v (.fl (fC xa)),.v (.fl (fC xb)),.v (.fl (q1 n))] =
  some ([Hu xa .c,Hu xb .c,aD.mul (eD xa) (eD xb) ≠ aD.zero,aA (gC (iY.grp.ns (wv n) vH).1) = aA (gC P.1),aA (eC (some (Aq,Fs))) = aA (eC Q.1),aA (aL (iO (aD.mul (eD xa) (eD xb)))) = aA (aL (aD.mul (iO (eD xa)) (iO (eD xb)))),lK (RS [(P,Q)]).1,lK (iO (eD xa)),ZA (RS [(P,Q)]).1],.one (.im (.bool true))):=by kernel_rfl
theorem aEx {x : gB} (h : Hu x .c) : eD x ≠ aD.zero:=fun e => h.2 (WM h.1 e)
theorem Zh (xa xb : gB) (n : Nat) (w : World) : Calls prog 6 #[.agg (aA (fC xa)).toArray,.agg (aA (fC xb)).toArray,.agg (aA (q1 n)).toArray] w (fun e w' => e = .returned (.bool true) ∧ Below w.heap.size w w'):=by
 have ha : bR w [.v (.fl (fC xa)),.v (.fl (fC xb)),.v (.fl (q1 n))] [.agg (aA (fC xa)).toArray,.agg (aA (fC xb)).toArray,.agg (aA (q1 n)).toArray]:=⟨rfl,rfl,rfl,trivial⟩;have hf : Good prog 6 (.one (.im (.bool true))) [.agg (aA (fC xa)).toArray,.agg (aA (fC xb)).toArray,.agg (aA (q1 n)).toArray] w:=by
  obtain ⟨ka,hka⟩:=aLm xa;obtain ⟨kb,hkb⟩:=aLm xb;cases ka with
  | a => exact aB aG (IH _ _ vH tK _) (aK _) func6 (aFG xa xb n kb vH YZ) ⟨hka,hkb,rfl,trivial⟩ ha
  | b => exact aB aG (IH _ _ vH tK _) (aK _) func6 (aFF xa xb n kb vH YZ) ⟨hka,hkb,rfl,trivial⟩ ha
  | c =>
   have na:=aEx hka;have l1:=ZC (aBx na);cases kb with
   | a => exact aB aG (IH _ _ vH tK _) (aK _) func6 (Xp xa xb n vH YZ) ⟨hka,hkb,l1,trivial⟩ ha
   | b => exact aB aG (IH _ _ vH tK _) (aK _) func6 (Xo xa xb n vH YZ) ⟨hka,hkb,l1,trivial⟩ ha
   | c =>
    have nb:=aEx hkb;have g:=aJa [(iY.grp.ns (wv n) vH,YZ)] fun x hx => by cases List.mem_singleton.1 hx; exact tK
    exact aB aG (IH _ _ _ tK _) (aK _) func6 (aMF xa xb n (iY.grp.ns (wv n) vH) YZ) ⟨hka,hkb,nA na nb,rfl,by rw [aOG],by rw [cV na nb],g.1,(aBy na).1,g,trivial⟩ ha
 exact hf
end Go.Proofs.YtglgakbkdjhojaaGreat.Ex
namespace Go.Proofs.YtglgakbkdjhojaaGreat
open Go.Proofs.Tryz
open Go.ChangeShapes Go.WideShapes Go.ChangeAt Go.RowKit
theorem CP : ownKnob prog.godebug = none:=by kernel_rfl
theorem Le : laidOutB prog = true:=by kernel_rfl
theorem KJ : prog.cellsOf 22 = 1:=by kernel_rfl
theorem aKr {α : Type} (l : List α) (h : (⟨l⟩ : Array α).size = 4) : ∃ a b c d,l = [a,b,c,d]:=by
 match l,h with
 | [a,b,c,d],_ => exact ⟨a,b,c,d,rfl⟩
theorem iN {n : Int} (h : (Lit.int .u64 n).wf = true) : ∃ k : Nat,n = (k : Int) ∧ k < 18446744073709551616:=by
 obtain ⟨h1,h2⟩:=bounds_u64 h;obtain ⟨k,rfl⟩:=Int.eq_ofNat_of_zero_le h1;exact ⟨k,rfl,by omega⟩
end Go.Proofs.YtglgakbkdjhojaaGreat
namespace Go.Proofs.YtglgakbkdjhojaaGreat.Ex
open Go.Proofs.Tryz
open Go.Deep Go.ChangeShapes Go.WideShapes Go.ChangeAt Go.RowKit
theorem aQY {P : Program} {W : World} {base : Nat} {t : TypeId} {fs : Array Field} {v : Value} (ht : P.underlying t = some (.struct fs)) (h : Value.okWide P W .any base t v) : ∃ cs,v = .agg cs:=by
 obtain ⟨cs,rfl,_⟩ : ∃ cs,v = .agg cs ∧ cs.size = P.cellsOf t ∧ Row.okWide P W .any base t cs:=by
  simpa [Value.okWide,ht] using h
 exact ⟨cs,rfl⟩
theorem aJi {P : Program} {W : World} {base : Nat} {t n e : TypeId} {v : Value} (ht : P.underlying t = some (.array n e)) (h : Value.okWide P W .any base t v) : ∃ cs,v = .agg cs:=by
 obtain ⟨cs,rfl,_⟩ : ∃ cs,v = .agg cs ∧ cs.size = P.cellsOf t ∧ Row.okWide P W .any base t cs:=by
  simpa [Value.okWide,ht] using h
 exact ⟨cs,rfl⟩
section
variable {H : Type} {enc : TypeId × Value → H} {W : World}
theorem c24 : prog.cellsOf 25 = 4:=by kernel_rfl
theorem c26 : prog.cellsOf 33 = 8:=by kernel_rfl
theorem c28 : prog.cellsOf 40 = 24:=by kernel_rfl
theorem c30 : prog.cellsOf 42 = 48:=by kernel_rfl
theorem aJP {fuel : Nat} {cs : List Value} {x : DataW H × List MemPlace} (hl : cs.length = 4) (h : DataW.trod enc prog W 0 (fun _ => true) true fuel 25 cs = some x) : ∃ n : Nat,cs = aA (q1 n):=by
 obtain ⟨c0,c1,c2,c3,rfl⟩:=aKr cs hl;obtain ⟨y0,y1,y2,y3,m,hx,hy0,hy1,hy2,hy3⟩:=trod_array4 underlying25 KJ h;obtain ⟨x0,e0,rfl,w0⟩:=DataW.trod_int underlying22 hy0;obtain ⟨x1,e1,rfl,w1⟩:=DataW.trod_int underlying22 hy1;obtain ⟨x2,e2,rfl,w2⟩:=DataW.trod_int underlying22 hy2;obtain ⟨x3,e3,rfl,w3⟩:=DataW.trod_int underlying22 hy3;simp at e0 e1 e2 e3;obtain ⟨a0,rfl,k0⟩:=iN w0;obtain ⟨a1,rfl,k1⟩:=iN w1;obtain ⟨a2,rfl,k2⟩:=iN w2;obtain ⟨a3,rfl,k3⟩:=iN w3;subst e0 e1 e2 e3;have hv : aF a0 a1 a2 a3 < 115792089237316195423570985008687907853269984665640564039457584007913129639936:=by unfold aF; omega
 obtain ⟨q0,q1',q2',q3⟩:=nZ ⟨k0,k1,k2,k3⟩ hv rfl;refine ⟨aF a0 a1 a2 a3,?_⟩;show _ = w4 (aF a0 a1 a2 a3);unfold w4;rw [← q0,← q1',← q2',← q3]
theorem aAA {fuel : Nat} {cs : List Value} {x : DataW H × List MemPlace} (h : DataW.trod enc prog W 0 (fun _ => true) true fuel 33 cs = some x) : ∃ n : N2,cs = aA (q2 n):=by
 obtain ⟨y0,y1,n,_,hl,h0,h1⟩:=trod_struct2 underlying33 h;rw [c26] at hl;simp only [c24] at h0 h1;obtain ⟨a,ha⟩:=aJP (by simp [hl]) h0;obtain ⟨b,hb⟩:=aJP (by simp [hl]) h1;refine ⟨(a,b),?_⟩;rw [List.drop_zero] at ha;rw [List.take_of_length_le (by simp [hl])] at hb;show cs = w4 a ++ (w4 b ++ []);rw [List.append_nil,← List.take_append_drop 4 cs];congr 1
 all_goals first | exact ha.trans (List.append_nil _) | exact hb.trans (List.append_nil _)
theorem aJQ {fuel : Nat} {cs : List Value} {x : DataW H × List MemPlace} (h : DataW.trod enc prog W 0 (fun _ => true) true fuel 40 cs = some x) : ∃ n : N6,cs = aA (q6 n):=by
 obtain ⟨y0,y1,y2,n,_,hl,h0,h1,h2⟩:=trod_struct3 underlying40 h;rw [c28] at hl;simp only [c26] at h0 h1 h2;obtain ⟨a,ha⟩:=aAA h0;obtain ⟨b,hb⟩:=aAA h1;obtain ⟨c,hc⟩:=aAA h2;refine ⟨(a,b,c),?_⟩;rw [List.drop_zero] at ha;rw [List.take_of_length_le (by simp [hl])] at hc;have e : aA (q6 (a,b,c)) = aA (q2 a) ++ (aA (q2 b) ++ aA (q2 c)):=by rw [← aP,← aP]; rfl
 rw [e,← ha,← hb,← hc,← List.take_append_drop 8 cs];congr 1
 ·simp
 ·conv => lhs; rw [← List.take_append_drop 8 (List.drop 8 cs),List.drop_drop]
  simp
theorem aNA {fuel : Nat} {cs : List Value} {x : DataW H × List MemPlace} (h : DataW.trod enc prog W 0 (fun _ => true) true fuel 42 cs = some x) : ∃ n : gB,cs = aA (fC n):=by
 obtain ⟨y0,y1,n,_,hl,h0,h1⟩:=trod_struct2 underlying42 h;rw [c30] at hl;simp only [c28] at h0 h1;obtain ⟨a,ha⟩:=aJQ h0;obtain ⟨b,hb⟩:=aJQ h1;refine ⟨(a,b),?_⟩;rw [List.drop_zero] at ha;rw [List.take_of_length_le (by simp [hl])] at hb;have e : aA (fC (a,b)) = aA (q6 a) ++ aA (q6 b):=by rw [← aP]; rfl
 rw [e,← ha,← hb,List.take_append_drop]
theorem aXh {fuel : Nat} {cs : List Value} {x : DataW H × List MemPlace} (hl : cs.length = 4) (h : DataW.trod enc prog W 0 (fun _ => true) true fuel 24 cs = some x) : ∃ n : Nat,cs = aA (q1 n):=by
 obtain ⟨c0,c1,c2,c3,rfl⟩:=aKr cs hl;obtain ⟨y0,y1,y2,y3,m,hx,hy0,hy1,hy2,hy3⟩:=trod_array4 underlying24 KJ h;obtain ⟨x0,e0,rfl,w0⟩:=DataW.trod_int underlying22 hy0;obtain ⟨x1,e1,rfl,w1⟩:=DataW.trod_int underlying22 hy1;obtain ⟨x2,e2,rfl,w2⟩:=DataW.trod_int underlying22 hy2;obtain ⟨x3,e3,rfl,w3⟩:=DataW.trod_int underlying22 hy3;simp at e0 e1 e2 e3;obtain ⟨a0,rfl,k0⟩:=iN w0;obtain ⟨a1,rfl,k1⟩:=iN w1;obtain ⟨a2,rfl,k2⟩:=iN w2;obtain ⟨a3,rfl,k3⟩:=iN w3;subst e0 e1 e2 e3;have hv : aF a0 a1 a2 a3 < 115792089237316195423570985008687907853269984665640564039457584007913129639936:=by unfold aF; omega
 obtain ⟨q0,q1',q2',q3⟩:=nZ ⟨k0,k1,k2,k3⟩ hv rfl;refine ⟨aF a0 a1 a2 a3,?_⟩;show _ = w4 (aF a0 a1 a2 a3);unfold w4;rw [← q0,← q1',← q2',← q3]
theorem aNx {base : Nat} {v : Value} {d : DataW H} {ps : List MemPlace} {pt : Array TypeId} {args : Array Value} (hval : ∀ (j : Nat) t v,pt[j]? = some t → args[j]? = some v → Value.okWide prog W .any base t v) (j : Nat) (hj : pt[j]? = some 24) (ha : args[j]? = some v)
  (h : DataW.Trod enc prog W 0 (fun _ => true) true 24 v d ps) : ∃ x : Nat,v = .agg (aA (q1 x)).toArray:=by
 have hv:=hval j 24 v hj ha;obtain ⟨cs,rfl⟩:=aJi (t:=24) underlying24 hv;obtain ⟨fuel,hf⟩:=h;obtain ⟨l⟩:=cs;have hl : l.length = 4:=by
  obtain ⟨cs',e,hs,_⟩ : ∃ cs,Value.agg ⟨l⟩ = .agg cs ∧ cs.size = prog.cellsOf 24 ∧ Row.okWide prog W .any base 24 cs:=by
   simpa [Value.okWide,underlying24] using hv
  cases e;rw [show prog.cellsOf 24 = 4 by kernel_rfl] at hs;exact hs
 obtain ⟨x,hx⟩:=aXh hl hf;subst hx;exact ⟨x,rfl⟩
theorem XM {base : Nat} {v : Value} {d : DataW H} {ps : List MemPlace} {pt : Array TypeId} {args : Array Value} (hval : ∀ (j : Nat) t v,pt[j]? = some t → args[j]? = some v → Value.okWide prog W .any base t v) (j : Nat) (hj : pt[j]? = some 42) (ha : args[j]? = some v)
  (h : DataW.Trod enc prog W 0 (fun _ => true) true 42 v d ps) : ∃ x : gB,v = .agg (aA (fC x)).toArray:=by
 have hv:=hval j 42 v hj ha;obtain ⟨cs,rfl⟩:=aQY (t:=42) underlying42 hv;obtain ⟨fuel,hf⟩:=h;obtain ⟨l⟩:=cs;obtain ⟨x,hx⟩:=aNA hf;subst hx;exact ⟨x,rfl⟩
end
end Go.Proofs.YtglgakbkdjhojaaGreat.Ex
