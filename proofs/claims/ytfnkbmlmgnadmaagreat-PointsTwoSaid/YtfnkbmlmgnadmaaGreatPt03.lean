/- Pt03 -/
import Derived.Laws.MakeOwn
import Derived.Laws.Externs
import Derived.Shelf.Small.Bits
import Derived.Shelf.Strconv.Itoa0
import Derived.Shelf.Bits.Mul64
import Derived.StillTailTactics
import Derived.LoopTactic
import Derived.Deep.LoopGhost
import Derived.Test.YtfnkbmlmgnadmaaGreatPt02
import Derived.Test.YtfnkbmlmgnadmaaGreatProg
import Derived.Test.YtfnkbmlmgnadmaaGreatPt00
set_option maxRecDepth 100000
set_option linter.unusedVariables false
set_option linter.unusedSimpArgs false
noncomputable section
namespace Go.Proofs.YtfnkbmlmgnadmaaGreat.Ex
open Go.Proofs.Tryz
open Go.RowKit
section
variable {E : Env} {ops big : Array Oper} {base : Nat} {w0 : World} {A A' : List Fact} {TF : List (Option Nat × Fact)} {rs : List Rec} {ps : List Prop} {Q : Exit → Act → World → Prop}
theorem FB {off : Nat} {R : List Nat} (hT : ∀ d,TabOkW E.P (E.T d) base w0) (hq : cL E.P E.q base w0) (hrun : xV E false ops ops.toList 0 (A.map fun φ => (none,φ)) [] [] = some (ps,TF,rs)) (hps : aQ ps) (hchk : chk false ops rs = true)
  (hsub : ∀ i,i < ops.size → big[off + i]? = ops[i]?) (hg : ∀ (i : Nat) (o : Oper),ops[i]? = some o → o.guard = none)
  (hQ : ∀ a w,Inv E false ops base w0 TF rs (fun i => i < ops.size) a w → wpOps E.P big Q R a w) :
  ∀ (m k : Nat) (a : Act) (w : World),k + m = ops.size → Inv E false ops base w0 TF rs (fun i => i < k) a w → wpOps E.P big Q (List.range' (off + k) m ++ R) a w
 | 0,k,a,w,hk,hI => by
  have : k = ops.size:=by omega
  subst this;exact hQ a w hI
 | m + 1,k,a,w,hk,hI => by
  have hlt : k < ops.size:=by omega
  have ho : ops[k]? = some ops[k]:=Array.getElem?_eq_getElem hlt;have hst:=uD hT hq hrun hps hchk (Q:=Q) hI ho (Nat.lt_irrefl k) (fun j hj => by unfold Ld at hj; simpa using hj);have hgk:=hg k _ ho;have hw1 : ∀ y,Region.wanted ops[k] y = true:=fun y => by unfold Region.wanted; rw [hgk]
  rw [if_pos (hw1 _)] at hst;simp only [List.range'_succ,List.cons_append,wpOps];rw [hsub k hlt,ho];simp only;have hnext : ∀ a' w',Inv E false ops base w0 TF rs (fun j => j = k ∨ j < k) a' w' → wpOps E.P big Q (List.range' (off + k + 1) m ++ R) a' w':=fun a' w' h => by
   have:=FB hT hq hrun hps hchk hsub hg hQ m (k + 1) a' w' (by omega) (by
    have : (fun j => j < k + 1) = fun j => j = k ∨ j < k:=funext fun j => propext (by omega)
    rwa [this])
   rwa [← Nat.add_assoc] at this
  rw [if_pos (hw1 _)];exact Or.inl (Oper.wp_mono hnext hst)
theorem PH {off : Nat} {R : List Nat} (hT : ∀ d,TabOkW E.P (E.T d) base w0) (hq : cL E.P E.q base w0) (h : ZP E false ops A = some (ps,A')) (hps : aQ ps)
  (hsub : ∀ i,i < ops.size → big[off + i]? = ops[i]?) (hg : ops.toList.all (fun o => o.guard.isNone) = true) {a : Act} {w : World} (hA : Holds E.nt base w0 A a w)
  (hQ : ∀ a w,Holds E.nt base w0 A' a w → wpOps E.P big Q R a w) : wpOps E.P big Q (List.range' off ops.size ++ R) a w:=by
 unfold ZP at h;split at h
 ·rename_i ps' TF rs hrun;cases hc : (chk false ops rs && low false ops) <;> rw [hc] at h
  ·cases h
  ·cases h;rw [Bool.and_eq_true] at hc;have hg' : ∀ (i : Nat) (o : Oper),ops[i]? = some o → o.guard = none:=fun i o ho => by
    rw [List.all_eq_true] at hg;have:=hg o (Array.mem_toList_iff.2 (Array.mem_of_getElem? ho));simpa using this
   have:=FB (off:=off) (R:=R) (Q:=Q) hT hq hrun hps hc.1 hsub hg' (fun a w hI => hQ a w (CQ hrun (fun _ h => h) hI)) ops.size 0 a w (by omega) (by
    have : (fun i => i < 0) = fun _ : Nat => False:=funext fun i => propext ⟨fun h => by omega,fun h => h.elim⟩
    rw [this];exact pW hrun hA)
   rwa [Nat.add_zero] at this
 ·cases h
end
def OU (P : Program) (q : EqT) (nt : Nat) (c : Cfg) (ops : Array Oper) (A K : List Fact) : Option (List Prop × List Fact) :=
 match ZP (mkE P q nt c) false ops A with
 | some (ps,A1) => match pick A1 K with | some L => some (ps,L) | none => none
 | none => none
theorem IY {P : Program} {q : EqT} {nt base off : Nat} {c : Cfg} {w0 : World} {ops big : Array Oper} {A K L : List Fact} {ps : List Prop} {Q : Exit → Act → World → Prop} {R : List Nat} (hT : ∀ d,TabOkW P (c.T d) base w0) (hq : cL P q base w0) (h : OU P q nt c ops A K = some (ps,L)) (hps : aQ ps)
  (hsub : ∀ i,i < ops.size → big[off + i]? = ops[i]?) (hg : ops.toList.all (fun o => o.guard.isNone) = true) {a : Act} {w : World} (hA : Holds nt base w0 A a w)
  (hQ : ∀ a w,Holds nt base w0 L a w → wpOps P big Q R a w) : wpOps P big Q (List.range' off ops.size ++ R) a w:=by
 unfold OU at h;split at h
 ·rename_i ps' A1 h1;split at h
  ·rename_i L' h2;cases h;exact PH (E:=mkE P q nt c) hT hq h1 hps hsub hg hA fun a w hA1 => hQ a w (hA1.sub (jN h2))
  ·cases h
 ·cases h
theorem jB {P : Program} {q : EqT} {nt base s e : Nat} {c : Cfg} {w0 : World} {big : Array Oper} {A K L : List Fact} {ps : List Prop} {Q : Exit → Act → World → Prop} {R : List Nat} (hT : ∀ d,TabOkW P (c.T d) base w0) (hq : cL P q base w0) (h : OU P q nt c (big.extract s e) A K = some (ps,L)) (hps : aQ ps)
  (hg : (big.extract s e).toList.all (fun o => o.guard.isNone) = true) {a : Act} {w : World} (hA : Holds nt base w0 A a w)
  (hQ : ∀ a w,Holds nt base w0 L a w → wpOps P big Q R a w) : wpOps P big Q (List.range' s (big.extract s e).size ++ R) a w :=
 IY hT hq h hps (fun i hi => by
  have hi' : i < min e big.size - s:=by simpa using hi
  rw [Array.getElem?_extract,if_pos hi']) hg hA hQ
theorem WS {P : Program} {big : Array Oper} {Q : Exit → Act → World → Prop} {R : List Nat} {i : Nat} {o : Oper} (ho : big[i]? = some o) (hg : o.guard = none) {a : Act} {w : World} (h : o.wp P a w (fun a w => wpOps P big Q R a w) Q) : wpOps P big Q (i :: R) a w:=by
 simp only [wpOps];rw [ho];simp only;have hw : ∀ y,Region.wanted o y = true:=fun y => by unfold Region.wanted; rw [hg]
 rw [if_pos (hw _)];exact Or.inl h
def lK : Code → Array Oper
 | .region _ ops _ => ops
 | _ => #[]
section
variable {P : Program} {nt base : Nat} {w0 : World} {A : List Fact} {a : Act} {w : World}
theorem Holds.im (h : Holds nt base w0 A a w) {s k o n m b : Nat} (h1 : Fact.slot s (.sl k o n m) ∈ A) (h2 : Fact.at k b ∈ A) : Holds nt base w0 (.slot s (.im (pY b o n m)) :: A) a w:=by
 obtain ⟨β,g1,g2⟩:=h.facts;have e1:=g1 _ h1;have e2:=g1 _ h2;simp only [Fact.ok] at e1 e2;refine ⟨h.defers,h.size,h.below,h.heap,β,fun φ hφ => ?_,fun k1 k2 l1 l2 q1 q2 => ?_⟩
 ·rcases List.mem_cons.1 hφ with rfl | hφ
  ·show a.tmps[s]? = _;rw [e1];simp [AV.den,e2,pY]
  ·exact g1 φ hφ
 ·rcases List.mem_cons.1 q1 with q1 | q1
  ·cases q1
  ·rcases List.mem_cons.1 q2 with q2 | q2
   ·cases q2
   ·exact g2 k1 k2 l1 l2 q1 q2
theorem Holds.old (h : Holds nt base w0 A a w) {k b : Nat} {l : List At} (h1 : Fact.row k true l ∈ A) (h2 : Fact.at k b ∈ A) : oldOf w b 0 l:=by
 obtain ⟨β,g1,g2⟩:=h.facts;obtain ⟨e1,e2,_⟩:=g1 _ h1;have e3:=g1 _ h2;simp only [Fact.ok] at e3;rw [e3.1] at e1 e2;rw [e3.2] at e2;exact ⟨e1,e2⟩
theorem Holds.slot (h : Holds nt base w0 A a w) {s : Nat} {v : Value} (h1 : Fact.slot s (.im v) ∈ A) : a.tmps[s]? = some v:=by
 obtain ⟨β,g1,g2⟩:=h.facts;exact g1 _ h1
theorem Holds.slotF (h : Holds nt base w0 A a w) {s : Nat} {l : List At} (h1 : Fact.slot s (.fl l) ∈ A) : a.tmps[s]? = some (.agg (aB l).toArray):=by
 obtain ⟨β,g1,g2⟩:=h.facts;exact g1 _ h1
theorem Holds.put (h : Holds nt base w0 A a w) {w' : World} (hb : Below w.heap.size w w') {d : Nat} (hd : d < nt) (v : TV) (hA : ∀ φ ∈ A,pJ (some d) none φ = false) : Holds nt base w0 (.slot d v.av :: A) (a.put (some d) v.den) w':=by
 obtain ⟨β,g1,g2⟩:=h.facts;have hP:=qK (base:=base) (β:=β) (a:=a) (w:=w) (w':=w') (M:=A) v.av (d:=d) (by rw [h.size]; exact hd) h.heap hb;rw [TV.av_den] at hP;refine ⟨by rw [uW]; exact h.defers,by rw [gJ]; exact h.size,h.below.trans (hb.mono h.heap),Nat.le_trans h.heap hb.size,β,fun φ hφ => ?_,fun k1 k2 l1 l2 q1 q2 => ?_⟩
 ·rcases List.mem_cons.1 hφ with rfl | hφ
  ·exact hP.ok _ (List.mem_singleton.2 rfl)
  ·exact aDl hP (g1 φ hφ) (hA φ hφ) fun kk k JA l q => by cases q
 ·rcases List.mem_cons.1 q1 with q1 | q1
  ·cases q1
  ·rcases List.mem_cons.1 q2 with q2 | q2
   ·cases q2
   ·exact g2 k1 k2 l1 l2 q1 q2
theorem LN {o : Oper} {K : Act → World → Prop} {Q : Exit → Act → World → Prop} {id : Nat} {xs : Array Operand} {ts : Array TypeId} {vs : List Value} {v : Value} (ho : o.op = .call ⟨.value (.func id),xs,ts⟩) (hv : xs.toList.map a.eval = vs)
  (he : ∀ xs,(callFunc id xs).run P w = .ok (.enter id xs) w) (hc : Calls P id vs.toArray w (fun e w' => e = .returned v ∧ Below w.heap.size w w')) (hK : ∀ w',Below w.heap.size w w' → K (a.put o.dst v) w') : o.wp P a w K Q:=by
 have ea : xs.map a.eval = vs.toArray:=by rw [← Array.toArray_toList (xs:=xs.map a.eval),Array.toList_map,hv]
 have hrun : (execOp a.eval o).run P w = .ok (.enter id vs.toArray) w:=by
  have hf : a.eval (.func id) = .func (.func id) #[] #[]:=rfl;simp [execOp,ho,resolve,Deferred.ofValue,hf,invoke,ea,he]
 unfold Oper.wp;rw [hrun];refine Calls.mono hc ?_
 rintro e w' ⟨rfl,hb⟩
 exact hK w' hb
end
def eB (f : Nat → List At) : Nat → Nat → List At
 | _,0 => []
 | s,n + 1 => f s ++ eB f (s + 1) n
theorem KY (f : Nat → List At) : ∀ n s,eB f s (n + 1) = eB f s n ++ f (s + n)
 | 0,s => by simp [eB]
 | n + 1,s => by
  have:=KY f n (s + 1);show f s ++ eB f (s + 1) (n + 1) = (f s ++ eB f (s + 1) n) ++ f (s + (n + 1));rw [this,List.append_assoc,show s + 1 + n = s + (n + 1) by omega]
theorem pK {f : Nat → List At} {c : Nat} (h : ∀ j,dT (f j) = c) : ∀ n s,dT (eB f s n) = n * c
 | 0,s => by simp [eB,dT]
 | n + 1,s => by
  show dT (f s ++ eB f (s + 1) n) = _;rw [QE,h,pK h n,Nat.add_mul,Nat.one_mul,Nat.add_comm]
theorem zX (f : Nat → List At) : ∀ (i n s : Nat),i < n → eB f s n = eB f s i ++ (f (s + i) ++ eB f (s + i + 1) (n - i - 1))
 | 0,n + 1,s,_ => rfl
 | i + 1,n + 1,s,h => by
  have:=zX f i n (s + 1) (by omega);show f s ++ eB f (s + 1) n = (f s ++ eB f (s + 1) i) ++ _;rw [this,List.append_assoc,show s + 1 + i = s + (i + 1) by omega,show n + 1 - (i + 1) - 1 = n - i - 1 by omega]
theorem Cu (a : At) : 0 < a.sz:=by cases a <;> exact Nat.succ_pos _
theorem LZ : ∀ (A X : List At),tk (A ++ X) (dT A) = some A
 | [],X => by cases X <;> rfl
 | a :: r,X => by
  have h:=Cu a;show tk (a :: (r ++ X)) (a.sz + dT r) = _;unfold tk;rw [show Nat.beq (a.sz + dT r) 0 = false by cases hq : Nat.beq (a.sz + dT r) 0; rfl; exact absurd (Nat.eq_of_beq_eq_true hq) (by omega),show Nat.ble a.sz (a.sz + dT r) = true by simp,Nat.add_sub_cancel_left,LZ r X];rfl
theorem CT : ∀ (A X : List At),dp (A ++ X) (dT A) = some X
 | [],X => by cases X <;> rfl
 | a :: r,X => by
  have h:=Cu a;show dp (a :: (r ++ X)) (a.sz + dT r) = _;unfold dp;rw [show Nat.beq (a.sz + dT r) 0 = false by cases hq : Nat.beq (a.sz + dT r) 0; rfl; exact absurd (Nat.eq_of_beq_eq_true hq) (by omega),show Nat.ble a.sz (a.sz + dT r) = true by simp,Nat.add_sub_cancel_left];exact CT r X
theorem Ox (A m s : List At) {o n : Nat} (ho : o = dT A) (hn : n = dT m) : LK (A ++ (m ++ s)) o n = some m:=by
 subst ho; subst hn;unfold LK;rw [CT];exact LZ m s
theorem Qf (A m s v : List At) {o : Nat} (ho : o = dT A) (hn : dT v = dT m) : put (A ++ (m ++ s)) o v = some (A ++ (v ++ s)):=by
 subst ho;unfold put;rw [LZ,CT];simp only;rw [hn,CT]
theorem sW {f : Nat → List At} {c N i o : Nat} (h : ∀ j,dT (f j) = c) (hi : i < N) (ho : o = i * c) : LK (eB f 0 N) o c = some (f i):=by
 rw [zX f i N 0 hi,Nat.zero_add];exact Ox _ _ _ (by rw [pK h,ho]) (h i).symm
def nR (f : Nat → List At) (z : List At) (N i : Nat) : List At:=eB f 0 i ++ eB (fun _ => z) i (N - i)
theorem It (f : Nat → List At) (z : List At) (N : Nat) : nR f z N 0 = eB (fun _ => z) 0 N:=by unfold nR; simp [eB]
theorem Ir (f : Nat → List At) (z : List At) (N : Nat) : nR f z N N = eB f 0 N:=by unfold nR; simp [eB]
theorem IH {f : Nat → List At} {z : List At} {c N i o : Nat} (h : ∀ j,dT (f j) = c) (hz : dT z = c) (hi : i < N) (ho : o = i * c) : put (nR f z N i) o (f i) = some (nR f z N (i + 1)):=by
 unfold nR;rw [show N - i = (N - (i + 1)) + 1 by omega];show put (eB f 0 i ++ (z ++ eB (fun _ => z) (i + 1) (N - (i + 1)))) o (f i) = _;rw [Qf _ _ _ _ (by rw [pK h,ho]) (by rw [h,hz]),KY,Nat.zero_add,List.append_assoc]
theorem qH {w : World} {b o : Nat} {f : Nat → List At} {c N i : Nat} (h : ∀ j,dT (f j) = c) (hi : i < N) (hr : w.rangeAt b o (aB (eB f 0 N))) : w.rangeAt b (o + i * c) (aB (f i)) :=
 qF hr (sW h hi rfl)
def rQ (l : List Value) (v : Value) : Prop:=l = List.replicate l.length v
theorem Dg {l m : List Value} {v : Value} (h : rQ l v) (k : rQ m v) : rQ (l ++ m) v:=by
 unfold rQ at *;rw [h,k];simp [List.replicate_append_replicate]
theorem KZ {z : List At} {v : Value} (h : rQ (aB z) v) : ∀ n s,rQ (aB (eB (fun _ => z) s n)) v
 | 0,s => rfl
 | n + 1,s => by
  show rQ (aB (z ++ eB (fun _ => z) (s + 1) n)) v;rw [aN];exact Dg h (KZ h n (s + 1))
theorem aER {P : Program} {t e : TypeId} {i : TypeInfo} {zv : Value} {z : List At} {v : Value} {N : Nat} (ht : P.underlying t = some (.slice e)) (hi : P.info? e = some i) (hz : i.zero = some zv) (hs : i.size = dT z) (hv : zv.cells.toList = List.replicate i.size v) (hsame : rQ (aB z) v) (h0 : 0 < dT z)
  (hb : i.bytes * N ≤ 281474976710656) (hN : N < 4611686018427387904) :
  ∃ e,∀ w : World,(Instr.makeSlice t (iI N) (iI N)).run P w = .ok (.slice (some ⟨w.heap.size,0,none⟩) N N) (w.alloc (.cells (aB (eB (fun _ => z) 0 N)).toArray e)):=by
 refine ⟨e,fun w => ?_⟩;have hr:=Go.run_make (P:=P) w t e i zv ht hi hz .i64 .i64 (N : Int) (N : Int) (by omega) (Int.le_refl _) (by rw [← Int.natCast_mul]; omega) (by omega);refine Eq.trans hr ?_;have hsz : zv.cells.size = i.size:=by rw [← Array.length_toList,hv,List.length_replicate]
 have hc : madeCells zv.cells (N * i.size) = (aB (eB (fun _ => z) 0 N)).toArray:=by
  have hl:=pK (f:=fun _ => z) (c:=dT z) (fun _ => rfl) N 0;have h2:=KZ hsame N 0;rw [h2,aS,hl,← hs];unfold madeCells;apply Array.ext
  ·simp
  ·intro j h1 h3;simp only [Array.getElem_map,Array.getElem_range,List.getElem_toArray,List.getElem_replicate];have hj : j % zv.cells.size < zv.cells.size:=Nat.mod_lt _ (by rw [hsz,hs]; exact h0);have e1 : zv.cells.toList[j % zv.cells.size]? = some v:=by
    rw [hv,List.getElem?_replicate,if_pos (by omega)]
   rw [Array.getElem?_toList] at e1;rw [getElem!_def,e1]
 simp only [Int.toNat_natCast,hc]
theorem UJ {P : Program} {t e : TypeId} {z : List At} {v : Value} {N n by8 : Nat} (ht : P.underlying t = some (.slice e)) (hi : (P.info? e).map (fun i => (i.zero.map (fun z => z.cells.toList),i.size,i.bytes)) = some (some (List.replicate n v),n,by8)) (hs : dT z = n) (hsame : rQ (aB z) v) (h0 : 0 < n)
  (hb : by8 * N ≤ 281474976710656) (hN : N < 4611686018427387904) :
  ∃ e,∀ w : World,(Instr.makeSlice t (iI N) (iI N)).run P w = .ok (.slice (some ⟨w.heap.size,0,none⟩) N N) (w.alloc (.cells (aB (eB (fun _ => z) 0 N)).toArray e)):=by
 cases hq : P.info? e with
 | none => rw [hq] at hi; cases hi
 | some it =>
  rw [hq] at hi;cases hz : it.zero with
  | none => rw [Option.map_some,hz] at hi; cases hi
  | some zv =>
   rw [Option.map_some,hz] at hi;simp only [Option.map_some,Option.some.injEq,Prod.mk.injEq] at hi;obtain ⟨h1,h2,h3⟩:=hi;exact aER ht hq hz (by rw [h2,hs]) (by rw [h2,h1]) hsame (by rw [hs]; exact h0) (by rw [h3]; exact hb) hN
end Go.Proofs.YtfnkbmlmgnadmaaGreat.Ex
namespace Go.Proofs.YtfnkbmlmgnadmaaGreat
open Go.Proofs.Tryz
structure CR (R : Type) where
 add : R → R → R
 mul : R → R → R
 neg : R → R
 zero : R
 one : R
 add_assoc : ∀ a b c,add (add a b) c = add a (add b c)
 add_comm : ∀ a b,add a b = add b a
 zero_add : ∀ a,add zero a = a
 neg_add : ∀ a,add (neg a) a = zero
 mul_assoc : ∀ a b c,mul (mul a b) c = mul a (mul b c)
 mul_comm : ∀ a b,mul a b = mul b a
 one_mul : ∀ a,mul one a = a
 mul_add : ∀ a b c,mul a (add b c) = add (mul a b) (mul a c)
namespace CR
variable {R : Type} (K : CR R)
theorem add_left_comm (a b c : R) : K.add a (K.add b c) = K.add b (K.add a c):=by rw [← K.add_assoc,K.add_comm a b,K.add_assoc]
theorem mul_left_comm (a b c : R) : K.mul a (K.mul b c) = K.mul b (K.mul a c):=by rw [← K.mul_assoc,K.mul_comm a b,K.mul_assoc]
theorem add_mul (a b c : R) : K.mul (K.add a b) c = K.add (K.mul a c) (K.mul b c):=by rw [K.mul_comm,K.mul_add,K.mul_comm c a,K.mul_comm c b]
theorem add_zero (a : R) : K.add a K.zero = a:=by rw [K.add_comm,K.zero_add]
theorem add_neg (a : R) : K.add a (K.neg a) = K.zero:=by rw [K.add_comm,K.neg_add]
theorem add_cancel {a b c : R} (h : K.add a b = K.add a c) : b = c:=by
 have:=congrArg (K.add (K.neg a)) h
 rwa [← K.add_assoc,← K.add_assoc,K.neg_add,K.zero_add,K.zero_add] at this
theorem mul_zero (a : R) : K.mul a K.zero = K.zero:=by
 apply K.add_cancel (a:=K.mul a K.zero);rw [← K.mul_add,K.add_zero,K.add_zero]
theorem zero_mul (a : R) : K.mul K.zero a = K.zero:=by rw [K.mul_comm,K.mul_zero]
theorem mul_one (a : R) : K.mul a K.one = a:=by rw [K.mul_comm,K.one_mul]
theorem neg_mul (a b : R) : K.mul (K.neg a) b = K.neg (K.mul a b):=by
 apply K.add_cancel (a:=K.mul a b);rw [← K.add_mul,K.add_neg,K.zero_mul,K.add_neg]
theorem neg_neg (a : R) : K.neg (K.neg a) = a:=by
 apply K.add_cancel (a:=K.neg a);rw [K.add_neg,K.neg_add]
theorem neg_add' (a b : R) : K.neg (K.add a b) = K.add (K.neg a) (K.neg b):=by
 apply K.add_cancel (a:=K.add a b);rw [K.add_neg,K.add_assoc,K.add_left_comm b,K.add_neg,K.add_zero,K.add_neg]
theorem mul_neg (a b : R) : K.mul a (K.neg b) = K.neg (K.mul a b):=by rw [K.mul_comm,K.neg_mul,K.mul_comm]
def sub (a b : R) : R:=K.add a (K.neg b)
def sq (q : R) : CR (R × R) where
 add x y:=(K.add x.1 y.1,K.add x.2 y.2)
 mul x y:=(K.add (K.mul x.1 y.1) (K.mul q (K.mul x.2 y.2)),K.add (K.mul x.1 y.2) (K.mul x.2 y.1))
 neg x:=(K.neg x.1,K.neg x.2)
 zero:=(K.zero,K.zero)
 one:=(K.one,K.zero)
 add_assoc a b c:=by simp only [K.add_assoc]
 add_comm a b:=by rw [K.add_comm a.1,K.add_comm a.2]
 zero_add a:=by simp only [K.zero_add]
 neg_add a:=by simp only [K.neg_add]
 mul_assoc a b c:=by
  simp only [K.mul_add,K.add_mul,K.mul_assoc,K.mul_left_comm,K.add_assoc,K.add_left_comm,K.add_comm]
 mul_comm a b:=by
  simp only [K.mul_comm,K.add_comm]
 one_mul a:=by simp only [K.one_mul,K.zero_mul,K.mul_zero,K.add_zero]
 mul_add a b c:=by
  simp only [K.mul_add,K.add_assoc,Prod.mk.injEq];constructor <;> (simp only [K.add_left_comm])
theorem sa : Std.Associative K.add:=⟨K.add_assoc⟩
theorem sc : Std.Commutative K.add:=⟨K.add_comm⟩
theorem ma : Std.Associative K.mul:=⟨K.mul_assoc⟩
theorem mc : Std.Commutative K.mul:=⟨K.mul_comm⟩
def cu (q : R) : CR (R × R × R) where
 add x y:=(K.add x.1 y.1,K.add x.2.1 y.2.1,K.add x.2.2 y.2.2)
 mul x y:=(K.add (K.mul x.1 y.1) (K.mul q (K.add (K.mul x.2.1 y.2.2) (K.mul x.2.2 y.2.1))),K.add (K.add (K.mul x.1 y.2.1) (K.mul x.2.1 y.1)) (K.mul q (K.mul x.2.2 y.2.2)),K.add (K.add (K.mul x.1 y.2.2) (K.mul x.2.1 y.2.1)) (K.mul x.2.2 y.1))
 neg x:=(K.neg x.1,K.neg x.2.1,K.neg x.2.2)
 zero:=(K.zero,K.zero,K.zero)
 one:=(K.one,K.zero,K.zero)
 add_assoc a b c:=by simp only [K.add_assoc]
 add_comm a b:=by rw [K.add_comm a.1,K.add_comm a.2.1,K.add_comm a.2.2]
 zero_add a:=by simp only [K.zero_add]
 neg_add a:=by simp only [K.neg_add]
 mul_assoc a b c:=by
  simp only [K.mul_add,K.add_mul,K.mul_assoc,K.add_assoc,Prod.mk.injEq];have:=K.sa; have:=K.sc; have:=K.ma; have:=K.mc;refine ⟨?_,?_,?_⟩ <;> ac_rfl
 mul_comm a b:=by
  simp only [Prod.mk.injEq];have:=K.sa; have:=K.sc; have:=K.ma; have:=K.mc;refine ⟨?_,?_,?_⟩ <;> ac_rfl
 one_mul a:=by simp only [K.one_mul,K.zero_mul,K.mul_zero,K.add_zero]
 mul_add a b c:=by
  simp only [K.mul_add,K.add_assoc,Prod.mk.injEq];have:=K.sa; have:=K.sc; have:=K.ma; have:=K.mc;refine ⟨?_,?_,?_⟩ <;> ac_rfl
end CR
def aFo (M : Nat) (h : 1 < M) : CR (Fin M) where
 add a b:=⟨(a.1 + b.1) % M,Nat.mod_lt _ (by omega)⟩
 mul a b:=⟨a.1 * b.1 % M,Nat.mod_lt _ (by omega)⟩
 neg a:=⟨(0 + M - a.1) % M,Nat.mod_lt _ (by omega)⟩
 zero:=⟨0,by omega⟩
 one:=⟨1,h⟩
 add_assoc a b c:=Fin.ext (by show ((a.1 + b.1) % M + c.1) % M = (a.1 + (b.1 + c.1) % M) % M; rw [Nat.mod_add_mod,Nat.add_mod_mod,Nat.add_assoc])
 add_comm a b:=Fin.ext (by show (a.1 + b.1) % M = (b.1 + a.1) % M; rw [Nat.add_comm])
 zero_add a:=Fin.ext (by show (0 + a.1) % M = a.1; rw [Nat.zero_add,Nat.mod_eq_of_lt a.2])
 neg_add a:=Fin.ext (by
  show ((0 + M - a.1) % M + a.1) % M = 0;have:=a.2;rw [Nat.mod_add_mod,show 0 + M - a.1 + a.1 = M by omega,Nat.mod_self])
 mul_assoc a b c:=Fin.ext (by show a.1 * b.1 % M * c.1 % M = a.1 * (b.1 * c.1 % M) % M; rw [Nat.mod_mul_mod,Nat.mul_mod_mod,Nat.mul_assoc])
 mul_comm a b:=Fin.ext (by show a.1 * b.1 % M = b.1 * a.1 % M; rw [Nat.mul_comm])
 one_mul a:=Fin.ext (by show 1 * a.1 % M = a.1; rw [Nat.one_mul,Nat.mod_eq_of_lt a.2])
 mul_add a b c:=Fin.ext (by show a.1 * ((b.1 + c.1) % M) % M = (a.1 * b.1 % M + a.1 * c.1 % M) % M; rw [Nat.mul_mod_mod,Nat.mul_add,Nat.add_mod])
end Go.Proofs.YtfnkbmlmgnadmaaGreat
namespace Go.Proofs.YtfnkbmlmgnadmaaGreat.Ex
open Go.Proofs.Tryz
open Go.RowKit
theorem aAJ : 1 < FP.M:=by decide
def F1 : CR Fq:=aFo FP.M aAJ
def fm (n : Nat) : Fq:=⟨n % FP.M,Nat.mod_lt _ cV⟩
abbrev Q2:=Fq × Fq
abbrev Q6:=Q2 × Q2 × Q2
def F2 : CR Q2:=F1.sq (F1.neg F1.one)
def xiE : Q2:=(fm 9,fm 1)
def F6 : CR Q6:=F2.cu xiE
def e1 (x : Fq) : List At:=[.f x]
def e2 (x : Q2) : List At:=[.f x.1,.f x.2]
def e6 (x : Q6) : List At:=[.f x.1.1,.f x.1.2,.f x.2.1.1,.f x.2.1.2,.f x.2.2.1,.f x.2.2.2]
def OV : List At → Option Fq | [.f a] => some a | _ => none
def ZR : List At → Option Q2 | [.f a,.f b] => some (a,b) | _ => none
abbrev N2:=Nat × Nat
def q1 (x : Nat) : List At:=[.q x]
def q2 (x : N2) : List At:=[.q x.1,.q x.2]
def mT : At → Option Nat
 | .f x => some x.1
 | .q x => some x
 | .c _ => none
def Hz : List At → Option (List Nat)
 | [] => some []
 | a :: r => match mT a,Hz r with | some x,some l => some (x :: l) | _,_ => none
def uL (l : List At) : Option Nat:=match Hz l with | some [a] => some a | _ => none
def OQ (l : List At) : Option N2:=match Hz l with | some [a,b] => some (a,b) | _ => none
def wv (x : Nat) : Nat:=aA (fw x 0) (fw x 1) (fw x 2) (fw x 3)
def m1 (x : Nat) : Fq:=fm (wv x)
def m2 (x : N2) : Q2:=(m1 x.1,m1 x.2)
def Rd {α : Type} (rd : List At → Option α) (en : α → List At) : Prop:=∀ l x,rd l = some x → aB l = aB (en x)
theorem fX : Rd OV e1:=fun l x h => by unfold OV at h; split at h <;> cases h; rfl
theorem iM : Rd ZR e2:=fun l x h => by unfold ZR at h; split at h <;> cases h; rfl
theorem BX : ∀ {l : List At} {m : List Nat},Hz l = some m → aB l = aB (m.map .q)
 | [],m,h => by cases h; rfl
 | a :: r,m,h => by
  unfold Hz at h;split at h
  ·rename_i x l' h1 h2;cases h;show a.cells ++ aB r = w4 x ++ aB (l'.map .q);rw [BX h2];cases a <;> cases h1 <;> rfl
  ·cases h
theorem dG : Rd uL q1:=fun l x h => by
 unfold uL at h;split at h
 ·rename_i hn; cases h; rw [BX hn]; rfl
 ·cases h
theorem fV : Rd OQ q2:=fun l x h => by
 unfold OQ at h;split at h
 ·rename_i hn; cases h; rw [BX hn]; rfl
 ·cases h
abbrev gC:=List CA → Option (List Prop × RV)
def g0 (r : RV) : gC
 | [] => some ([],r)
 | _ => none
def g1 {α : Type} (rd : List At → Option α) (op : α → List Prop × RV) : gC
 | [.v (.fl l)] => match rd l with | some x => some (op x) | none => none
 | _ => none
def g2 {α γ : Type} (rd : List At → Option α) (rd' : List At → Option γ) (op : α → γ → List Prop × RV) : gC
 | [.v (.fl l),.v (.fl m)] => match rd l,rd' m with | some x,some y => some (op x y) | _,_ => none
 | _ => none
def Good (P : Program) (f : FuncId) (r : RV) (args : List Value) (w : World) : Prop:=Calls P f args.toArray w (fun e w' => e = .returned r.den ∧ Below w.heap.size w w')
theorem zJ {P : Program} {f : FuncId} {r : RV} (h : ∀ w,Good P f r [] w) : ∀ cs pre r',g0 r cs = some (pre,r') → aQ pre → ∀ (args : List Value) (w : World),bH w cs args → Good P f r' args w:=by
 intro cs pre r' hg hp args w ha;unfold g0 at hg;split at hg
 ·cases hg;cases args with
  | nil => exact h w
  | cons _ _ => exact ha.elim
 ·cases hg
theorem cG {P : Program} {f : FuncId} {α : Type} {rd : List At → Option α} {en : α → List At} (hr : Rd rd en) {op : α → List Prop × RV} (h : ∀ x,aQ (op x).1 → ∀ args w,bH w [.v (.fl (en x))] args → Good P f (op x).2 args w) :
  ∀ cs pre r,g1 rd op cs = some (pre,r) → aQ pre → ∀ (args : List Value) (w : World),bH w cs args → Good P f r args w:=by
 intro cs pre r hg hp args w ha;unfold g1 at hg;split at hg
 ·rename_i l;split at hg
  ·rename_i x hx;have e : op x = (pre,r):=by simpa using hg
   have:=h x (by rw [e]; exact hp) args w (by
    cases args with
    | nil => exact ha.elim
    | cons v vs =>
     refine ⟨?_,ha.2⟩;show v = .agg (aB (en x)).toArray;rw [← hr l x hx];exact ha.1)
   rw [e] at this;exact this
  ·cases hg
 ·cases hg
theorem gO {P : Program} {f : FuncId} {α γ : Type} {rd : List At → Option α} {en : α → List At} {rd' : List At → Option γ} {en' : γ → List At} (hr : Rd rd en) (hr' : Rd rd' en') {op : α → γ → List Prop × RV}
  (h : ∀ x y,aQ (op x y).1 → ∀ args w,bH w [.v (.fl (en x)),.v (.fl (en' y))] args → Good P f (op x y).2 args w) :
  ∀ cs pre r,g2 rd rd' op cs = some (pre,r) → aQ pre → ∀ (args : List Value) (w : World),bH w cs args → Good P f r args w:=by
 intro cs pre r hg hp args w ha;unfold g2 at hg;split at hg
 ·rename_i l m;split at hg
  ·rename_i x y hx hy;have e : op x y = (pre,r):=by simpa using hg
   have:=h x y (by rw [e]; exact hp) args w (by
    cases args with
    | nil => exact ha.elim
    | cons v vs =>
     cases vs with
     | nil => exact ha.2.elim
     | cons u us =>
      refine ⟨?_,?_,ha.2.2⟩
      ·show v = .agg (aB (en x)).toArray;rw [← hr l x hx];exact ha.1
      ·show u = .agg (aB (en' y)).toArray;rw [← hr' m y hy];exact ha.2.1)
   rw [e] at this;exact this
  ·cases hg
 ·cases hg
end Go.Proofs.YtfnkbmlmgnadmaaGreat.Ex
namespace Go.Proofs.YtfnkbmlmgnadmaaGreat
open Go.Proofs.Tryz
theorem QY {a b : Nat} (h : a ≠ b) : Nat.beq a b = false:=by cases q : Nat.beq a b with | false => rfl | true => exact absurd (Nat.eq_of_beq_eq_true q) h
def dB (q : Nat) : Prop:=1 < q ∧ ∀ m,m ∣ q → m = 1 ∨ m = q
def pm (n : Nat) : Nat → Nat → Nat → Nat
 | 0,_,_ => 1 % n
 | f + 1,b,e => bif Nat.beq e 0 then 1 % n else bif Nat.beq (e % 2) 1 then b * pm n f (b * b % n) (e / 2) % n else pm n f (b * b % n) (e / 2)
theorem yO (n : Nat) : ∀ f b e,e < 2 ^ f → pm n f b e = b ^ e % n:=by
 intro f
 induction f with
 | zero =>
  intro b e h;have : e = 0:=by omega
  subst this;simp [pm]
 | succ f ih =>
  intro b e h;rw [Nat.pow_succ] at h;unfold pm
  by_cases h0 : e = 0
  ·subst h0; simp
  ·have h0' : Nat.beq e 0 = false:=QY h0;rw [h0'];have hi:=ih (b * b % n) (e / 2) (by omega);have hp : (b * b % n) ^ (e / 2) % n = b ^ (2 * (e / 2)) % n:=by
    rw [← Nat.pow_mod,Nat.pow_mul,Nat.pow_two]
   by_cases h1 : e % 2 = 1
   ·have h1' : Nat.beq (e % 2) 1 = true:=by rw [h1]; rfl
    rw [h1'];simp only [cond_true,cond_false];rw [hi,hp,Nat.mul_mod,Nat.mod_mod,← Nat.mul_mod,← Nat.pow_succ'];congr 2; omega
   ·have h1' : Nat.beq (e % 2) 1 = false:=QY h1;rw [h1'];simp only [cond_false];rw [hi,hp];congr 2; omega
def UG (n : Nat) : Nat → Bool
 | 0 => true
 | k + 1 => (Nat.beq k 0 || !(Nat.beq (n % (k + 1)) 0)) && UG n k
theorem PR (n : Nat) : ∀ k,UG n k = true → ∀ m,2 ≤ m → m ≤ k → ¬ m ∣ n:=by
 intro k
 induction k with
 | zero => intro _ m h1 h2; omega
 | succ k ih =>
  intro h m h1 h2;unfold UG at h;rw [Bool.and_eq_true] at h
  by_cases hm : m = k + 1
  ·subst hm;have hk : Nat.beq k 0 = false:=QY (by omega);rw [hk] at h;simp at h;intro hd;rw [Nat.mod_eq_zero_of_dvd hd] at h;exact absurd h.1 (by decide)
  ·exact ih h.2 m h1 (by omega)
theorem aJ (n k : Nat) (h1 : 1 < n) (hk : n < (k + 1) * (k + 1)) (h : UG n k = true) : dB n:=by
 refine ⟨h1,fun m hm => ?_⟩;have hs:=PR n k h;obtain ⟨c,hc⟩:=hm;have hm0 : m ≠ 0:=fun e => by subst e; omega
 have hc0 : c ≠ 0:=fun e => by subst e; omega
 by_cases h2 : m = 1
 ·exact Or.inl h2
 ·by_cases h3 : c = 1
  ·subst h3; right; omega
  ·exfalso
   by_cases h4 : m ≤ k
   ·exact hs m (by omega) h4 ⟨c,hc⟩
   ·by_cases h5 : c ≤ k
    ·exact hs c (by omega) h5 ⟨m,by rw [hc,Nat.mul_comm]⟩
    ·have:=Nat.mul_le_mul (show k + 1 ≤ m by omega) (show k + 1 ≤ c by omega);omega
theorem oN : ∀ (l : List Nat) (m : Nat),m ∣ l.foldr (· * ·) 1 → 1 < m → (∀ q,q ∈ l → dB q) → ∃ q,q ∈ l ∧ q ∣ m:=by
 intro l
 induction l with
 | nil => intro m h h1 _; simp at h; omega
 | cons q l ih =>
  intro m h h1 hq;rw [List.foldr_cons] at h
  rcases (hq q List.mem_cons_self).2 (Nat.gcd m q) (Nat.gcd_dvd_right m q) with g | g
  ·have:=Nat.Coprime.dvd_of_dvd_mul_left (show Nat.Coprime m q from g) h;obtain ⟨q',h',h''⟩:=ih m this h1 (fun q' h' => hq q' (List.mem_cons_of_mem _ h'));exact ⟨q',List.mem_cons_of_mem _ h',h''⟩
  ·exact ⟨q,List.mem_cons_self,g ▸ Nat.gcd_dvd_left m q⟩
theorem fK (g a b n : Nat) : g ^ (a + b) % n = (g ^ a % n) * (g ^ b % n) % n:=by rw [Nat.pow_add,Nat.mul_mod]
theorem lJ {g o n : Nat} (h1 : 1 < n) (h : g ^ o % n = 1) (k : Nat) : g ^ (o * k) % n = 1:=by
 rw [Nat.pow_mul,Nat.pow_mod,h,Nat.one_pow,Nat.mod_eq_of_lt h1]
theorem Ip {P : Nat → Prop} : ∀ n,P n → ∃ m,P m ∧ ∀ k,k < m → ¬ P k:=by
 intro n
 induction n using Nat.strongRecOn with
 | ind n ih =>
  intro h
  by_cases hk : ∃ k,k < n ∧ P k
  ·obtain ⟨k,h1,h2⟩:=hk; exact ih k h1 h2
  ·exact ⟨n,h,fun k h1 h2 => hk ⟨k,h1,h2⟩⟩
theorem PJ {n g : Nat} (l : List Nat) (h1 : 1 < n) (hl : l.foldr (· * ·) 1 = n - 1) (hp : ∀ q,q ∈ l → dB q) (hg : g ^ (n - 1) % n = 1) (hq : ∀ q,q ∈ l → g ^ ((n - 1) / q) % n ≠ 1) :
  ∀ k,0 < k → k < n - 1 → g ^ k % n ≠ 1:=by
 obtain ⟨o,⟨ho0,ho⟩,hmin⟩:=Ip (P:=fun k => 0 < k ∧ g ^ k % n = 1) (n - 1) ⟨by omega,hg⟩;have hdiv : ∀ k,g ^ k % n = 1 → o ∣ k:=by
  intro k hk;have e : o * (k / o) + k % o = k:=Nat.div_add_mod k o;rw [← e,fK,lJ h1 ho,Nat.one_mul,Nat.mod_mod] at hk;have hlt:=Nat.mod_lt k ho0
  by_cases hz : k % o = 0
  ·exact Nat.dvd_of_mod_eq_zero hz
  ·exact absurd ⟨by omega,hk⟩ (hmin (k % o) hlt)
 obtain ⟨m,hm⟩:=hdiv (n - 1) hg;have hm1 : m = 1:=by
  by_cases h : m = 1
  ·exact h
  ·exfalso;have hm0 : m ≠ 0:=fun e => by subst e; omega
   obtain ⟨q,hq1,c,hc⟩:=oN l m (by rw [hl,hm]; exact Nat.dvd_mul_left _ _) (by omega) hp;have hq0 : 0 < q:=Nat.lt_of_lt_of_le (by omega) (Nat.le_of_lt (hp q hq1).1);refine hq q hq1 ?_;have : (n - 1) / q = o * c:=by
    rw [hm,hc,← Nat.mul_assoc,Nat.mul_comm o q,Nat.mul_assoc,Nat.mul_div_cancel_left _ hq0]
   rw [this,lJ h1 ho]
 subst hm1;intro k hk0 hk hk1;have:=Nat.le_of_dvd hk0 (hdiv k hk1);omega
theorem Gb : ∀ (n : Nat) (f : Nat → Nat),(∀ i,i < n → f i < n) → (∀ i j,i < n → j < n → f i = f j → i = j) → ∀ y,y < n → ∃ i,i < n ∧ f i = y:=by
 intro n
 induction n with
 | zero => intro f _ _ y hy; omega
 | succ n ih =>
  intro f hf hi y hy
  by_cases hn : f n = n
  ·by_cases hyn : y = n
   ·exact ⟨n,by omega,by omega⟩
   ·have hf' : ∀ i,i < n → f i < n:=fun i h => by
     have:=hf i (by omega);have hne : f i ≠ n:=fun e => by have:=hi i n (by omega) (by omega) (by omega); omega
     omega
    obtain ⟨i,h1,h2⟩:=ih f hf' (fun i j h h' => hi i j (by omega) (by omega)) y (by omega);exact ⟨i,by omega,h2⟩
  ·have hfn:=hf n (by omega);have key:=ih (fun i => if f i = n then f n else f i)
    (fun i h => by
     have:=hf i (by omega);split <;> omega)
    (fun i j h h' e => by
     split at e <;> split at e
     ·exact hi i j (by omega) (by omega) (by omega)
     ·have:=hi n j (by omega) (by omega) e; omega
     ·have:=hi i n (by omega) (by omega) e; omega
     ·exact hi i j (by omega) (by omega) e)
   by_cases hyn : y = n
   ·obtain ⟨i,h1,h2⟩:=key (f n) (by omega)
    by_cases h3 : f i = n
    ·exact ⟨i,by omega,by omega⟩
    ·rw [if_neg h3] at h2;have:=hi i n (by omega) (by omega) h2;omega
   ·obtain ⟨i,h1,h2⟩:=key y (by omega)
    by_cases h3 : f i = n
    ·rw [if_pos h3] at h2; exact ⟨n,by omega,h2⟩
    ·rw [if_neg h3] at h2; exact ⟨i,by omega,h2⟩
def Root (n g : Nat) : Prop:=1 < n ∧ g ^ (n - 1) % n = 1 ∧ (∀ k,0 < k → k < n - 1 → g ^ k % n ≠ 1) ∧ ∀ a,0 < a → a < n → ∃ k,k < n - 1 ∧ g ^ k % n = a
theorem Pr {n g : Nat} (l : List Nat) (h1 : 1 < n) (hl : l.foldr (· * ·) 1 = n - 1) (hp : ∀ q,q ∈ l → dB q) (hg : g ^ (n - 1) % n = 1) (hq : ∀ q,q ∈ l → g ^ ((n - 1) / q) % n ≠ 1) : Root n g:=by
 have ho:=PJ l h1 hl hp hg hq;refine ⟨h1,hg,ho,fun a ha han => ?_⟩;have hnz : ∀ i,i ≤ n - 1 → g ^ i % n ≠ 0:=by
  intro i hi e;have : g ^ (n - 1) % n = 0:=by
   have : n - 1 = i + (n - 1 - i):=by omega
   rw [this,fK,e,Nat.zero_mul,Nat.zero_mod]
  omega
 have hdis : ∀ i j,i < n - 1 → j < n - 1 → i < j → g ^ i % n ≠ g ^ j % n:=by
  intro i j hi hj hij e;have e1 : g ^ (n - 1 - i + i) % n = 1:=by rw [show n - 1 - i + i = n - 1 by omega]; exact hg
  have e2 : g ^ (n - 1 - i + j) % n = 1:=by rw [fK,← e,← fK]; exact e1
  rw [show n - 1 - i + j = n - 1 + (j - i) by omega,fK,hg,Nat.one_mul,Nat.mod_mod] at e2;exact ho (j - i) (by omega) (by omega) e2
 obtain ⟨i,hi,he⟩:=Gb (n - 1) (fun i => g ^ i % n - 1)
  (fun i h => by
   have:=Nat.mod_lt (g ^ i) (show 0 < n by omega);have:=hnz i (by omega);omega)
  (fun i j h h' e => by
   have a1:=hnz i (by omega);have a2:=hnz j (by omega);have e' : g ^ i % n = g ^ j % n:=by omega
   rcases Nat.lt_trichotomy i j with q | q | q
   ·exact absurd e' (hdis i j h h' q)
   ·exact q
   ·exact absurd e'.symm (hdis j i h' h q))
  (a - 1) (by omega)
 refine ⟨i,hi,?_⟩;have:=hnz i (by omega);omega
theorem Root.prm {n g : Nat} (h : Root n g) : dB n:=by
 obtain ⟨h1,hg,_,hs⟩:=h;refine ⟨h1,fun m hm => ?_⟩
 by_cases h2 : m = n
 ·exact Or.inr h2
 ·left;have hm0 : m ≠ 0:=fun e => by subst e; have:=Nat.eq_zero_of_zero_dvd hm; omega
  have hle:=Nat.le_of_dvd (by omega) hm;obtain ⟨k,hk,e⟩:=hs m (by omega) (by omega);have e1 : g ^ (k + (n - 1 - k)) % n = 1:=by rw [show k + (n - 1 - k) = n - 1 by omega]; exact hg
  rw [fK,e] at e1;have hd : m ∣ (m * (g ^ (n - 1 - k) % n)) % n:=(Nat.dvd_mod_iff hm).2 (Nat.dvd_mul_right _ _);rw [e1] at hd;exact Nat.dvd_one.1 hd
def aDI (n g : Nat) (l : List Nat) : Bool :=
 Nat.blt 1 n && (Nat.beq (l.foldr (· * ·) 1) (n - 1) && (Nat.blt n (2 ^ 255) && (Nat.beq (pm n 256 g (n - 1)) 1 && l.all fun q => !(Nat.beq (pm n 256 g ((n - 1) / q)) 1))))
theorem aW {n g : Nat} {l : List Nat} (h : aDI n g l = true) (hp : ∀ q,q ∈ l → dB q) : Root n g:=by
 unfold aDI at h;simp only [Bool.and_eq_true] at h;obtain ⟨h1,h2,h3,h4,h5⟩:=h;have h1 : 1 < n:=by unfold Nat.blt at h1; exact Nat.le_of_ble_eq_true h1
 have h3 : n < 2 ^ 255:=by
  unfold Nat.blt at h3; exact Nat.le_of_ble_eq_true h3
 have h2:=Nat.eq_of_beq_eq_true h2;have h4:=Nat.eq_of_beq_eq_true h4;have hb : ∀ e,e ≤ n - 1 → e < 2 ^ 256:=fun e he => by
  rw [Nat.pow_succ]; omega
 rw [yO n 256 g _ (hb _ (Nat.le_refl _))] at h4;refine Pr l h1 h2 hp h4 fun q hq e => ?_
 have:=List.all_eq_true.1 h5 q hq;rw [yO n 256 g _ (hb _ (Nat.div_le_self _ _)),e] at this;exact absurd this (by decide)
end Go.Proofs.YtfnkbmlmgnadmaaGreat
namespace Go.Proofs.YtfnkbmlmgnadmaaGreat.Ex
open Go.Proofs.Tryz
open Go.RowKit
theorem aF : prog.follows .mixedOrders = true:=by kernel_rfl
def qN : EqT:={ q:=fun _ => none,n:=fun _ => none }
theorem bZ {P : Program} : EqOk P qN:=⟨⟨(fun t n h => by cases h),(fun t n h => by cases h)⟩,rfl⟩
def Bg : Fq → List Fq → List Fq → Fq
 | a,x :: r,y :: s => Bg (F1.add a (F1.mul x y)) r s
 | a,_,_ => a
def pG : List Fq → List Fq → Fq
 | x :: r,y :: s => Bg (F1.mul x y) r s
 | _,_ => F1.zero
def Ac : Nat → List At → Option (List Fq)
 | 0,_ => some []
 | n + 1,.f a :: r => match Ac n r with | some l => some (a :: l) | none => none
 | _,_ => none
def Jq : gC
 | [.s l n m,.s l' n' m'] => bif Nat.beq n n' && Nat.ble n 6 then (match Ac n l,Ac n' l' with
  | some x,some y => some ([],.one (.fl (e1 (pG x y))))
  | _,_ => none) else none
 | _ => none
def gOf : gC
 | [.v (.im (.int .u64 (.ofNat n)))] => bif Nat.blt n 18446744073709551616 then some ([],.one (.fl (e1 (fm n)))) else none
 | _ => none
theorem VD : ∃ f : Fq → Fq,∀ x,(f x).1 = 1 * (x.1 ^ (FP.M - 2) % FP.M) :=
 ⟨fun x => ⟨1 * (x.1 ^ (FP.M - 2) % FP.M),by rw [Nat.one_mul]; exact Nat.mod_lt _ cV⟩,fun _ => rfl⟩
def iO : Fq → Fq:=Classical.choose VD
theorem vZ (x : Fq) : (iO x).1 = 1 * (x.1 ^ (FP.M - 2) % FP.M):=Classical.choose_spec VD x
def aAu (c : Bool) : gC
 | [.v (.im (.int .i64 (.ofNat 1))),.v (.fl l)] => match OV l with
  | some x => bif c then some ([x ≠ F1.zero],.many [.fl (e1 (iO x)),.im (.int .i64 0)]) else some ([x = F1.zero],.many [.fl (e1 F1.zero),.im (.int .i64 22)])
  | none => none
 | _ => none
def AC (c : Bool) : Tab:=(((((((T0.add 139 (g2 OV OV fun x y => ([],.one (.fl (e1 (F1.add x y)))))).add 140 (g2 OV OV fun x y => ([],.one (.fl (e1 (F1.sub x y)))))).add 138 (g2 OV OV fun x y => ([],.one (.fl (e1 (F1.mul x y)))))).add
 135 (g1 OV fun x => ([],.one (.fl (e1 (F1.neg x)))))).add 134 (g1 uL fun x => ([],.one (.fl (e1 (m1 x)))))).add 164 Jq).add 83 gOf).add 137 (aAu c)
theorem aCY (c : Bool) (hB : TabOk prog (AC c)) : TabOk prog (AC c):=hB
end Go.Proofs.YtfnkbmlmgnadmaaGreat.Ex
namespace Go.Proofs
open Go.Shelf
def Tryz.lays134_ren : Go.Shelf.Ren:=⟨fun | 134 => 201 | 129 => 171 | n => n,fun | 53 => 22 | 3 => 3 | 4 => 4 | 46 => 82 | 5 => 5 | 9 => 9 | n => n,fun | n => n⟩
theorem Tryz.lays134 : Go.Proofs.Lays.n134 prog Tryz.lays134_ren:={
 mixed:=by kernel_rfl
 f129:=func171.trans (congrArg some (by kernel_rfl))
 f134:=func201.trans (congrArg some (by kernel_rfl))
 t3:=underlying3
 a3:=Tryz.isAgg3
 z3:=Tryz.sizeOf3
 v3:=Tryz.zeroValue3
 t4:=underlying4
 a4:=Tryz.isAgg4
 z4:=Tryz.sizeOf4
 v4:=Tryz.zeroValue4
 t5:=underlying5
 a5:=Tryz.isAgg5
 z5:=Tryz.sizeOf5
 v5:=Tryz.zeroValue5
 t9:=underlying9
 a9:=Tryz.isAgg9
 z9:=Tryz.sizeOf9
 v9:=Tryz.zeroValue9
 t46:=underlying82
 a46:=Tryz.isAgg82
 z46:=Tryz.sizeOf82
 v46:=Tryz.zeroValue82
 t53:=underlying22
 a53:=Tryz.isAgg22
 z53:=Tryz.sizeOf22
 v53:=Tryz.zeroValue22 }
theorem Tryz.bits_LeadingZeros64 (x : Int) (w : World) (h0 : 0 ≤ x) (h1 : x ≤ 18446744073709551615) :
  Calls prog 201 #[.int .u64 x] w fun e w' => e = .returned (.int .i64 (64 - (Lib.bitLen x.toNat : Int))) ∧ w' = w:=Any.bits_LeadingZeros64 Tryz.lays134 x w h0 h1
def Tryz.lays129_ren : Go.Shelf.Ren:=⟨fun | 129 => 171 | n => n,fun | 53 => 22 | 3 => 3 | 4 => 4 | 46 => 82 | 5 => 5 | 9 => 9 | n => n,fun | n => n⟩
theorem Tryz.lays129 : Go.Proofs.Lays.n129 prog Tryz.lays129_ren:={
 mixed:=by kernel_rfl
 f129:=func171.trans (congrArg some (by kernel_rfl))
 t3:=underlying3
 a3:=Tryz.isAgg3
 z3:=Tryz.sizeOf3
 v3:=Tryz.zeroValue3
 t4:=underlying4
 a4:=Tryz.isAgg4
 z4:=Tryz.sizeOf4
 v4:=Tryz.zeroValue4
 t5:=underlying5
 a5:=Tryz.isAgg5
 z5:=Tryz.sizeOf5
 v5:=Tryz.zeroValue5
 t9:=underlying9
 a9:=Tryz.isAgg9
 z9:=Tryz.sizeOf9
 v9:=Tryz.zeroValue9
 t46:=underlying82
 a46:=Tryz.isAgg82
 z46:=Tryz.sizeOf82
 v46:=Tryz.zeroValue82
 t53:=underlying22
 a53:=Tryz.isAgg22
 z53:=Tryz.sizeOf22
 v53:=Tryz.zeroValue22 }
theorem Tryz.bits_Len64 (x : Int) (w : World) (h0 : 0 ≤ x) (h1 : x ≤ 18446744073709551615) :
  Calls prog 171 #[.int .u64 x] w fun e w' => e = .returned (.int .i64 (Lib.bitLen x.toNat)) ∧ w' = w:=Any.bits_Len64 Tryz.lays129 x w h0 h1
def Tryz.lays264_ren : Go.Shelf.Ren:=⟨fun | 264 => 186 | n => n,fun | 53 => 22 | 46 => 82 | n => n,fun | n => n⟩
theorem Tryz.lays264 : Go.Proofs.Lays.n264 prog Tryz.lays264_ren:={
 mixed:=by kernel_rfl
 f264:=func186.trans (congrArg some (by kernel_rfl))
 t46:=underlying82
 a46:=Tryz.isAgg82
 z46:=Tryz.sizeOf82
 v46:=Tryz.zeroValue82
 t53:=underlying22
 a53:=Tryz.isAgg22
 z53:=Tryz.sizeOf22
 v53:=Tryz.zeroValue22 }
open Go.RowKit Go.Lib in
theorem Tryz.bits_Mul64 (x y : Nat) (hx : x < 18446744073709551616) (hy : y < 18446744073709551616) (w : World) :
  Calls prog 186 #[.int .u64 x,.int .u64 y] w fun e w' => e = .returned (.tuple #[.int .u64 ((x * y / 18446744073709551616 : Nat) : Int),.int .u64 ((x * y % 18446744073709551616 : Nat) : Int)]) ∧ w' = w:=Any.bits_Mul64 Tryz.lays264 x y hx hy w
end Go.Proofs
namespace Go.Proofs.YtfnkbmlmgnadmaaGreat
open Go.Proofs.Tryz
open Go.RowKit
theorem JR (x y : Nat) (hx : x < 18446744073709551616) (hy : y < 18446744073709551616) (w : World) :
  Calls prog 186 #[.int .u64 x,.int .u64 y] w fun e w' => e = .returned (.tuple #[.int .u64 (Id x y : Nat),.int .u64 (Ic x y : Nat)]) ∧ w' = w :=
 Tryz.bits_Mul64 x y hx hy w
theorem KP {x y : Nat} (hx : x < 18446744073709551616) (hy : y < 18446744073709551616) : ∃ h l : Nat,(∀ w,Calls prog 186 #[.int .u64 x,.int .u64 y] w fun e w' => e = .returned (.tuple #[.int .u64 (h : Nat),.int .u64 (l : Nat)]) ∧ w' = w) ∧ h ≤ 18446744073709551614 ∧ l < 18446744073709551616 ∧ Hid (l + 18446744073709551616 * h = x * y) :=
 ⟨_,_,JR x y hx hy,Sb hx hy,Sa _ _,aDe x y⟩
def aBT (A y : Nat) (w : World) (e : Ending) (w' : World) : Prop :=
 ∃ s0 s1 s2 s3 o : Nat,e = .returned (.tuple #[.int .u64 o,.agg #[.int .u64 s0,.int .u64 s1,.int .u64 s2,.int .u64 s3]]) ∧ aY s0 s1 s2 s3 ∧ o < 18446744073709551616 ∧ aA s0 s1 s2 s3 + 115792089237316195423570985008687907853269984665640564039457584007913129639936 * o = A * y ∧ Below w.heap.size w w'
theorem VG {x y o : Nat} (hx : x < 18446744073709551616) (hy : y < 18446744073709551616) (ho : o < 18446744073709551616) : ∃ h l d b p : Nat,(∀ w,Calls prog 186 #[.int .u64 x,.int .u64 y] w fun e w' => e = .returned (.tuple #[.int .u64 (h : Nat),.int .u64 (l : Nat)]) ∧ w' = w) ∧
  (∀ w,(callFunc 154 #[.int .u64 (l : Int),.int .u64 (o : Int),.int .u64 0]).run prog w = .ok (.value (.tuple #[.int .u64 (d : Int),.int .u64 (b : Int)])) w) ∧ h ≤ 18446744073709551614 ∧ b ≤ 1 ∧ d < 18446744073709551616 ∧ p < 18446744073709551616 ∧ ((h : Int) + (b : Int) = (p : Int)) ∧ Hid (d + 18446744073709551616 * p = x * y + o):=by
 obtain ⟨h,l,r,hh,hl,e⟩:=KP hx hy;obtain ⟨d,b,r',hd,hb,e'⟩:=jU hl ho;exact ⟨h,l,d,b,h + b,r,r',hh,hb,hd,by omega,by omega,Lib.hid (by have:=e.out; have:=e'.out; omega)⟩
theorem aAN {x y : Nat} (hx : x < 18446744073709551616) (hy : y < 18446744073709551616) : ∃ h l d b p : Nat,(∀ w,Calls prog 186 #[.int .u64 x,.int .u64 y] w fun e w' => e = .returned (.tuple #[.int .u64 (h : Nat),.int .u64 (l : Nat)]) ∧ w' = w) ∧
  (∀ w,(callFunc 154 #[.int .u64 (l : Int),.int .u64 0,.int .u64 0]).run prog w = .ok (.value (.tuple #[.int .u64 (d : Int),.int .u64 (b : Int)])) w) ∧ h ≤ 18446744073709551614 ∧ b ≤ 1 ∧ d < 18446744073709551616 ∧ p < 18446744073709551616 ∧ ((h : Int) + (b : Int) = (p : Int)) ∧ Hid (d + 18446744073709551616 * p = x * y):=by
 obtain ⟨h,l,d,b,p,r,r',hh,hb,hd,hp,q,e⟩:=VG hx hy (by omega : 0 < 18446744073709551616);exact ⟨h,l,d,b,p,r,r',hh,hb,hd,hp,q,e⟩
theorem EL (a0 a1 a2 a3 y : Nat) (ha : aY a0 a1 a2 a3) (hy : y < 18446744073709551616) (w : World) :
  Calls prog 199 #[.agg #[.int .u64 a0,.int .u64 a1,.int .u64 a2,.int .u64 a3],.int .u64 y] w (aBT (aA a0 a1 a2 a3) y w):=by
 obtain ⟨h0,l0,d0,b0,o0,m0,r0,bh0,bb0,bd0,bo0,q0,e0⟩:=aAN ha.1 hy;obtain ⟨h1,l1,d1,b1,o1,m1,r1,bh1,bb1,bd1,bo1,q1,e1⟩:=VG ha.2.1 hy bo0;obtain ⟨h2,l2,d2,b2,o2,m2,r2,bh2,bb2,bd2,bo2,q2,e2⟩:=VG ha.2.2.1 hy bo1;obtain ⟨h3,l3,d3,b3,o3,m3,r3,bh3,bb3,bd3,bo3,q3,e3⟩:=VG ha.2.2.2 hy bo2;have HF : Hid (aA d0 d1 d2 d3 + 115792089237316195423570985008687907853269984665640564039457584007913129639936 * o3 = aA a0 a1 a2 a3 * y):=Lib.hid (by
  have:=e0.out; have:=e1.out; have:=e2.out; have:=e3.out;unfold aA; simp only [Nat.add_mul,Nat.mul_assoc]; omega)
 clear e0 e1 e2 e3
 go_enter func199,ntmps199
 go_wp2_with fail;refine wp_loop_rounds 5 ?_;rw [rounds_succ];go_wp2_with fail;refine (m0 _).mono ?_
 rintro e w' ⟨rfl,rfl⟩
 go_wp2_with fail;rw [rounds_succ];go_wp2_with fail;refine (m1 _).mono ?_
 rintro e w' ⟨rfl,rfl⟩
 go_wp2_with fail;rw [rounds_succ];go_wp2_with fail;refine (m2 _).mono ?_
 rintro e w' ⟨rfl,rfl⟩
 go_wp2_with fail;rw [rounds_succ];go_wp2_with fail;refine (m3 _).mono ?_
 rintro e w' ⟨rfl,rfl⟩
 go_wp2_with fail;rw [rounds_succ];go_wp2_with fail
 go_region
 all_goals (
  go_wp2
  refine bodyPost_ret (v:=.tuple #[.int .u64 o3,.agg #[.int .u64 d0,.int .u64 d1,.int .u64 d2,.int .u64 d3]]) (by simp [results,results199,go_sem]) rfl ?_;refine ⟨_,_,_,_,_,rfl,⟨bd0,bd1,bd2,bd3⟩,bo3,HF.out,?_⟩
  repeat (first | exact Below.refl _ _ | refine Below.drew ?_ | refine Below.alloc ?_ (by first | (simp; done) | (simp; omega)) _))
theorem Io {y : Nat} (h0 : 1 ≤ y) (hy : y < 18446744073709551616) : Lib.bitLen y = y.log2 + 1 ∧ 2 ^ y.log2 ≤ y ∧ y < 2 ^ (y.log2 + 1) ∧ y.log2 ≤ 63:=by
 have a:=Nat.log2_self_le (show y ≠ 0 by omega);have b : y < 2 ^ (y.log2 + 1):=Nat.lt_log2_self;refine ⟨?_,a,b,?_⟩
 ·rw [Lib.bitLen_shift y.log2 y a hy];have : y / 2 ^ y.log2 = 1:=by
   rw [Nat.pow_succ] at b;exact (Nat.div_eq_iff (Nat.two_pow_pos _)).2 ⟨by omega,by omega⟩
  rw [this]; rfl
 ·have:=(Nat.log2_lt (show y ≠ 0 by omega)).2 (show y < 2 ^ 64 from hy);omega
theorem aDy {y : Nat} (h0 : 1 ≤ y) (hy : y < 18446744073709551616) : ∃ S : Nat,(∀ w,Calls prog 201 #[.int .u64 y] w fun e w' => e = .returned (.int .i64 S) ∧ w' = w) ∧ S ≤ 63 ∧ 9223372036854775808 ≤ y * 2 ^ S ∧ y * 2 ^ S < 18446744073709551616:=by
 obtain ⟨hl,ha,hb,hk⟩:=Io h0 hy;refine ⟨63 - y.log2,fun w => ?_,by omega,?_,?_⟩
 ·have:=Tryz.bits_LeadingZeros64 (y : Int) w (by omega) (by omega);rw [Int.toNat_natCast,hl,show (64 - ((y.log2 + 1 : Nat) : Int)) = ((63 - y.log2 : Nat) : Int) by omega] at this;exact this
 ·have:=Nat.mul_le_mul_right (2 ^ (63 - y.log2)) ha;rw [← Nat.pow_add,show y.log2 + (63 - y.log2) = 63 by omega] at this;exact this
 ·have:=Nat.mul_lt_mul_of_pos_right hb (Nat.two_pow_pos (63 - y.log2));rw [← Nat.pow_add,show y.log2 + 1 + (63 - y.log2) = 64 by omega] at this;exact this
def WP (V y : Nat) (w : World) (e : Ending) (w' : World) : Prop :=
 ∃ n : Nat,e = .returned (.tuple #[.int .u64 (V / y : Nat),.int .u64 (V % y : Nat)]) ∧ w' = w.drewN n
theorem KO {y1 y0 u u1 Y : Nat} (ks : KS y1 y0 u u1) (hY : Y < 18446744073709551616) (eY : Y = y1 * 4294967296 + y0) : ∃ q r p Q m : Nat,
  (u : Int) / (y1 : Int) = (q : Int) ∧ (q : Int) * (y1 : Int) = (p : Int) ∧ (u : Int) - (p : Int) = (r : Int) ∧ q ≤ 4294967297 ∧ r < 4294967296 ∧ p ≤ u ∧ Hid (KI y1 y0 u u1 q r) ∧
  IntKind.u64.wrap (IntKind.u64.wrap (IntKind.u64.wrap ((u : Int) * 4294967296) + (u1 : Int)) - IntKind.u64.wrap ((Q : Int) * (Y : Int))) = (m : Int) ∧
  Q < 4294967296 ∧ m < Y ∧ Hid (Q = (u * 4294967296 + u1) / (y1 * 4294967296 + y0)) ∧ Hid (Q * Y + m = u * 4294967296 + u1):=by
 have b2 : 0 < y1:=by have:=ks.a2; omega
 obtain ⟨q,r,E8,E9,eq,hr⟩:=aFq u y1 b2;have ki:=Iv ks eq hr;obtain ⟨m,Em,hm,em⟩:=Tl (u:=u) (u1:=u1) hY (by have:=ks.a2; omega);have hQ:=aDj ks;rw [← eY] at hQ;refine ⟨q,r,q * y1,(u * 4294967296 + u1) / Y,m,E8,(Int.natCast_mul q y1).symm,by rw [Int.natCast_mul]; exact E9,ki.2.2.1,ki.2.2.2,by omega,Lib.hid ki,Em,hQ,hm,Lib.hid (by rw [← eY]),Lib.hid em⟩
def Wj (u1 q r t : Nat) : Prop:=decide ((4294967296 : Int) ≤ (q : Int)) = true ∨ decide ((4294967296 : Int) ≤ (q : Int)) = false ∧ decide ((4294967296 : Int) * (r : Int) + (u1 : Int) < (t : Int)) = true ∧ t < 18446744073709551616
theorem Uv {y1 y0 u u1 q r : Nat} (s : KS y1 y0 u u1) (k : KI y1 y0 u u1 q r) {Q : Nat} (hQ : Q = (u * 4294967296 + u1) / (y1 * 4294967296 + y0)) :
  ∃ t v : Nat,(q : Int) * (y0 : Int) = (t : Int) ∧ (r : Int) + (y1 : Int) = (v : Int) ∧ v < 18446744073709551616 ∧
  ((∃ p : Nat,(q : Int) - 1 = (p : Int) ∧ p < q ∧ decide ((4294967296 : Int) ≤ (v : Int)) = false ∧ Wj u1 q r t ∧ Hid (KI y1 y0 u u1 p v)) ∨
  ((q : Int) - 1 = (Q : Int) ∧ 1 ≤ q ∧ decide ((4294967296 : Int) ≤ (v : Int)) = true ∧ Wj u1 q r t) ∨ (q = Q ∧ decide ((4294967296 : Int) ≤ (q : Int)) = false ∧ decide ((4294967296 : Int) * (r : Int) + (u1 : Int) < (t : Int)) = false ∧ t < 18446744073709551616)):=by
 have b1:=s.a1;have b3:=s.a3;have b5:=s.a5;have br : r < 4294967296:=k.2.2.2;refine ⟨q * y0,r + y1,(Int.natCast_mul q y0).symm,by omega,by omega,?_⟩
 rcases Nat.lt_or_ge q 4294967296 with h | h
 ·have hp:=qZ (show q ≤ 4294967295 by omega) (show y0 ≤ 4294967295 by omega)
  rcases Nat.lt_or_ge (4294967296 * r + u1) (q * y0) with h' | h'
  ·have hn:=aDk s k h';have h1:=Nat.le_trans (Nat.le_add_left 1 _) hn
   rcases Nat.lt_or_ge (r + y1) 4294967296 with g | g
   ·exact Or.inl ⟨q - 1,by omega,by omega,decide_eq_false (by omega),Or.inr ⟨decide_eq_false (by omega),decide_eq_true (by omega),by omega⟩,Lib.hid (UP k hn g)⟩
   ·have:=(JT s k hn g).trans hQ.symm;exact Or.inr (Or.inl ⟨by omega,h1,decide_eq_true (by omega),Or.inr ⟨decide_eq_false (by omega),decide_eq_true (by omega),by omega⟩⟩)
  ·exact Or.inr (Or.inr ⟨(Zy s k h').trans hQ.symm,decide_eq_false (by omega),decide_eq_false (by omega),by omega⟩)
 ·have hn:=Zz s h
  rcases Nat.lt_or_ge (r + y1) 4294967296 with g | g
  ·exact Or.inl ⟨q - 1,by omega,by omega,decide_eq_false (by omega),Or.inl (decide_eq_true (by omega)),Lib.hid (UP k hn g)⟩
  ·have:=(JT s k hn g).trans hQ.symm;exact Or.inr (Or.inl ⟨by omega,by omega,decide_eq_true (by omega),Or.inl (decide_eq_true (by omega))⟩)
set_option maxHeartbeats 4000000 in
theorem Bh (hi lo y : Nat) (h1 : 1 ≤ hi) (h2 : hi < y) (hl : lo < 18446744073709551616) (hy : y < 18446744073709551616) (w : World) :
  Calls prog 198 #[.int .u64 hi,.int .u64 lo,.int .u64 y] w (WP (hi * 18446744073709551616 + lo) y w):=by
 obtain ⟨S,m,hS,hY1,hY2⟩:=aDy (show 1 ≤ y by omega) hy;obtain ⟨u,L,E4,E5,hu,hL,eU⟩:=Kx h2 hl hS hY2;obtain ⟨Y,eY⟩ : ∃ Y,Y = y * 2 ^ S:=⟨_,rfl⟩
 rw [← eY] at hY1 hY2 hu;have E1 : IntKind.u64.wrap ((y : Int) * 2 ^ S) = (Y : Int):=by rw [eO,← eY,pT _ hY2]
 obtain ⟨y1,y0,E2,E3,b1,b0,eYh⟩:=CS hY2;obtain ⟨u1,u0,E6,E7,c1,c0,eLh⟩:=CS hL;have ks : KS y1 y0 u u1:=⟨b1,by omega,b0,by omega,c1⟩;obtain ⟨q,r,p,Q1,m1,F1,F2,F3,F4,F5,F6,K1,F7,F8,F9,F10,F11⟩:=KO ks hY2 eYh;have ks' : KS y1 y0 m1 u0:=⟨b1,by omega,b0,by omega,c0⟩;obtain ⟨q',r',p',Q0,R,G1,G2,G3,G4,G5,G6,K2,G7,G8,G9,G10,G11⟩:=KO ks' hY2 eYh;obtain ⟨j1,j2⟩:=Tm eY rfl eU eLh F11.out G11.out G9;have b2 : 0 < y1:=by have:=ks.a2; omega
 have b3 : 0 < (y1 : Int):=by omega
 have bu : u < 18446744073709551616:=by omega
 have bm : m1 < 18446744073709551616:=by omega
 have J2 : (R : Int) / 2 ^ S = (((hi * 18446744073709551616 + lo) % y : Nat) : Int):=by rw [← j2,Int.natCast_ediv,Int.natCast_pow]; rfl
 have J1 : (Q1 : Int) * 4294967296 + (Q0 : Int) = (((hi * 18446744073709551616 + lo) / y : Nat) : Int):=by rw [← j1]; omega
 have HJ2:=Lib.hid J2; have HJ1:=Lib.hid J1;have Hks:=Lib.hid ks; have Hks':=Lib.hid ks';clear eU eYh eLh eY j1 j2 ks ks' J1 J2 hY1 F11 G11 hu;have t1 : ((y : Int) == 0) = false:=by simp; omega
 have t2 : ((hi : Int) == 0) = false:=by simp; omega
 go_enter func198,ntmps198
 go_wp2_with fail;refine (m _).mono ?_
 rintro e w' ⟨rfl,rfl⟩
 go_wp2_with fail;clear t1 t2 E1 E2 E3 E4 E5 E6 E7 F1 F2 F3 h1 h2 m
 go_loop [15,16] (fun a b => ∃ q r : Nat,a = .int .u64 q ∧ b = .int .u64 r ∧ Hid (KI y1 y0 u u1 q r)) (fun a _ => (intOf a).toNat)
 case atStart => exact ⟨q,r,rfl,rfl,K1⟩
 case round =>
  obtain ⟨q2,r2,rfl,rfl,k⟩:=hrel;have d1 : q2 ≤ 4294967297:=k.out.2.2.1;have d2 : r2 < 4294967296:=k.out.2.2.2;obtain ⟨t,v,ht,hv,bv,hc⟩:=Uv Hks.out k.out F10.out
  rcases hc with ⟨p2,hp,lp,lv,g2 | ⟨g2,g3,g5⟩,g4⟩ | ⟨hp,lp,lv,g2 | ⟨g2,g3,g5⟩⟩ | ⟨rfl,g1,g2,g5⟩
  ·go_wp2_with fail
   go_round
   case rel => exact ⟨p2,v,rfl,rfl,g4⟩
   case measure => simp [intOf]; omega
  ·go_wp2_with fail
   go_round
   case rel => exact ⟨p2,v,rfl,rfl,g4⟩
   case measure => simp [intOf]; omega
  all_goals (
   go_wp2_with fail;clear ht hv bv d1 d2 k F7 G1 G2 G3
   go_loop [18,16] (fun a b => ∃ q r : Nat,a = .int .u64 q ∧ b = .int .u64 r ∧ Hid (KI y1 y0 m1 u0 q r)) (fun a _ => (intOf a).toNat)
   case atStart => exact ⟨q',r',rfl,rfl,K2⟩
   case round =>
    obtain ⟨q3,r3,rfl,rfl,k⟩:=hrel;have d1 : q3 ≤ 4294967297:=k.out.2.2.1;have d2 : r3 < 4294967296:=k.out.2.2.2;obtain ⟨t,v,ht,hv,bv,hc⟩:=Uv Hks'.out k.out G10.out
    rcases hc with ⟨p2,hp,lp,lv,g2 | ⟨g2,g3,g5⟩,g4⟩ | ⟨hp,lp,lv,g2 | ⟨g2,g3,g5⟩⟩ | ⟨rfl,g1,g2,g5⟩
    ·go_wp2_with fail
     go_round
     case rel => exact ⟨p2,v,rfl,rfl,g4⟩
     case measure => simp [intOf]; omega
    ·go_wp2_with fail
     go_round
     case rel => exact ⟨p2,v,rfl,rfl,g4⟩
     case measure => simp [intOf]; omega
    all_goals (
     go_wp2_with fail
     go_ret2
     exact ⟨0,by rw [HJ1.out,HJ2.out]; rfl,rfl⟩))
theorem QM (lo y : Nat) (h2 : 0 < y) (hl : lo < 18446744073709551616) (hy : y < 18446744073709551616) (w : World) :
  Calls prog 198 #[.int .u64 0,.int .u64 lo,.int .u64 y] w (WP lo y w):=by
 obtain ⟨q,E1⟩ : ∃ q : Nat,(lo : Int) / (y : Int) = (q : Int):=⟨lo / y,(Int.natCast_ediv lo y).symm⟩
 obtain ⟨r,E2⟩ : ∃ r : Nat,(lo : Int) % (y : Int) = (r : Int):=⟨lo % y,(Int.natCast_emod lo y).symm⟩
 have e1 : q = lo / y:=by rw [← Int.natCast_ediv] at E1; exact (Int.ofNat.inj E1).symm
 have e2 : r = lo % y:=by rw [← Int.natCast_emod] at E2; exact (Int.ofNat.inj E2).symm
 have b1 : q < 18446744073709551616:=by rw [e1]; exact Nat.lt_of_le_of_lt (Nat.div_le_self _ _) hl
 have b2 : r < 18446744073709551616:=by rw [e2]; exact Nat.lt_of_lt_of_le (Nat.mod_lt _ h2) (by omega)
 have H1:=Lib.hid e1; have H2:=Lib.hid e2;clear e1 e2;have t1 : ((y : Int) == 0) = false:=by simp; omega
 go_enter func198,ntmps198
 go_wp2_with fail
 go_quiet (fail)
 go_wp2_with fail
 go_ret2
 exact ⟨_,by rw [← H1.out,← H2.out,← E2]; rfl,rfl⟩
theorem Kr {hi lo y : Nat} (h : hi < y) (hl : lo < 18446744073709551616) (hy : y < 18446744073709551616) : ∃ q r : Nat,
  (∀ w,Calls prog 198 #[.int .u64 hi,.int .u64 lo,.int .u64 y] w fun e w' => e = .returned (.tuple #[.int .u64 (q : Nat),.int .u64 (r : Nat)]) ∧ ∃ n,w' = w.drewN n) ∧
  q < 18446744073709551616 ∧ r < y ∧ Hid (q * y + r = hi * 18446744073709551616 + lo):=by
 refine ⟨(hi * 18446744073709551616 + lo) / y,(hi * 18446744073709551616 + lo) % y,fun w => ?_,?_,Nat.mod_lt _ (by omega),Lib.hid (by rw [Nat.mul_comm]; exact Nat.div_add_mod _ _)⟩
 ·rcases Nat.eq_zero_or_pos hi with rfl | h1
  ·have:=QM lo y h hl hy w;rw [Nat.zero_mul,Nat.zero_add];exact this.mono fun e w' ⟨n,he,hw⟩ => ⟨he,n,hw⟩
  ·exact (Bh hi lo y h1 h hl hy w).mono fun e w' ⟨n,he,hw⟩ => ⟨he,n,hw⟩
 ·rw [Nat.div_lt_iff_lt_mul (by omega)];have:=Nat.mul_le_mul_right 18446744073709551616 (show hi + 1 ≤ y by omega);rw [Nat.mul_comm 18446744073709551616 y];omega
structure MW (w wr : World) (A B P : Nat → Nat) : Prop where
 below : Below w.heap.size w wr
 size : wr.heap.size = w.heap.size + 1 + 1 + 1 + 1 + 1
 rowA : RowIs wr w.heap.size 4 A
 rowB : RowIs wr (w.heap.size + 1) 4 B
 rowH : ∃ H,RowIs wr (w.heap.size + 1 + 1) 4 H
 rowL : ∃ L,RowIs wr (w.heap.size + 1 + 1 + 1) 4 L
 rowP : RowIs wr (w.heap.size + 1 + 1 + 1 + 1) 8 P
 lt : ∀ k,P k < 18446744073709551616
theorem MW.set {w wr : World} {A B P : Nat → Nat} (h : MW w wr A B P) {k d : Nat} (hk : k < 8) (hd : d < 18446744073709551616) :
  MW w (wr.setCell ⟨w.heap.size + 1 + 1 + 1 + 1,k,none⟩ (.int .u64 (d : Nat))) A B (dN P k d) :=
 ⟨h.below.setCell (p:=⟨w.heap.size + 1 + 1 + 1 + 1,k,none⟩) (by simp; omega) _,by rw [World.size_setCell]; exact h.size,h.rowA.other (by omega) _,h.rowB.other (by omega) _,
  h.rowH.elim fun H x => ⟨H,x.other (by omega) _⟩,h.rowL.elim fun L x => ⟨L,x.other (by omega) _⟩,h.rowP.set hk,
  fun x => by unfold dN; split; exact hd; exact h.lt x⟩
theorem MW.drewN {w wr : World} {A B P : Nat → Nat} (h : MW w wr A B P) (n : Nat) : MW w (wr.drewN n) A B P :=
 ⟨h.below.trans (aH _ _ _),h.size,h.rowA,h.rowB,h.rowH,h.rowL,h.rowP,h.lt⟩
theorem RowIs.mk4 {w : World} {b : Nat} {c0 c1 c2 c3 : Nat} (h0 : w.cell? ⟨b,0,none⟩ = some (.int .u64 c0)) (h1 : w.cell? ⟨b,1,none⟩ = some (.int .u64 c1)) (h2 : w.cell? ⟨b,2,none⟩ = some (.int .u64 c2)) (h3 : w.cell? ⟨b,3,none⟩ = some (.int .u64 c3))
  (hf : ∀ k,w.frozen? ⟨b,k,none⟩ = false) : RowIs w b 4 (dL [c0,c1,c2,c3]):=by
 intro k hk;refine ⟨?_,hf k⟩
 match k,hk with
 | 0,_ => exact h0
 | 1,_ => exact h1
 | 2,_ => exact h2
 | 3,_ => exact h3
theorem lT {a0 a1 a2 a3 : Nat} (ha : aY a0 a1 a2 a3) (k : Nat) : dL [a0,a1,a2,a3] k < 18446744073709551616:=by
 obtain ⟨h0,h1,h2,h3⟩:=ha;unfold dL
 match k with
 | 0 => exact h0
 | 1 => exact h1
 | 2 => exact h2
 | 3 => exact h3
 | k + 4 => simp
theorem Ny (r0 r1 r2 r3 x : Nat) : aA r0 r1 r2 r3 * 18446744073709551616 + x = r3 * 115792089237316195423570985008687907853269984665640564039457584007913129639936 + aA x r0 r1 r2:=by unfold aA; omega
theorem AF (b0 b1 b2 b3 : Nat) (h : aY b0 b1 b2 b3) : ∃ t,aA b0 b1 b2 b3 = b3 * 6277101735386680763835789423207666416102355444464034512896 + t ∧ t < 6277101735386680763835789423207666416102355444464034512896:=by
 obtain ⟨h0,h1,h2,_⟩:=h;exact ⟨b0 + 18446744073709551616 * (b1 + 18446744073709551616 * b2),by unfold aA; omega,by omega⟩
theorem aDg {x r0 r1 r2 : Nat} (hx : x < 18446744073709551616) (h0 : r0 < 18446744073709551616) (h1 : r1 < 18446744073709551616) : ∃ t,aA x r0 r1 r2 = r2 * 6277101735386680763835789423207666416102355444464034512896 + t ∧ t < 6277101735386680763835789423207666416102355444464034512896 :=
 ⟨x + 18446744073709551616 * (r0 + 18446744073709551616 * r1),by unfold aA; omega,by omega⟩
theorem Jh {N b b3 t r g m : Nat} (hb : b = b3 * 6277101735386680763835789423207666416102355444464034512896 + t) (ht : t < 6277101735386680763835789423207666416102355444464034512896) (h3 : 9223372036854775808 ≤ b3) (hN : N = r * 6277101735386680763835789423207666416102355444464034512896 + m) (hm : m < 6277101735386680763835789423207666416102355444464034512896)
  (hg : g < 18446744073709551616) (h1 : g * b3 ≤ r) (h2 : r < g * b3 + b3) : N / b ≤ g ∧ g ≤ N / b + 2:=by
 have hp : 0 < b:=by omega
 constructor
 ·rw [← Nat.lt_succ_iff,Nat.div_lt_iff_lt_mul hp,Nat.succ_mul,hb,Nat.mul_add,← Nat.mul_assoc];omega
 ·have e:=Nat.div_add_mod N b;have hl:=Nat.mod_lt N hp;have h4:=qZ (show g ≤ 18446744073709551615 by omega) (show t ≤ 6277101735386680763835789423207666416102355444464034512895 by omega);have h5 : g * b < N + 2 * b:=by
   rw [hb,Nat.mul_add,← Nat.mul_assoc]; omega
  rcases Nat.lt_or_ge g (N / b + 3) with h | h
  ·omega
  ·have h6:=Nat.mul_le_mul_right b h;rw [Nat.add_mul,Nat.mul_comm (N / b) b] at h6;omega
theorem Ji {N b b3 t r2 m x R : Nat} (hb : b = b3 * 6277101735386680763835789423207666416102355444464034512896 + t) (ht : t < 6277101735386680763835789423207666416102355444464034512896) (h3 : 9223372036854775808 ≤ b3) (hN : N = b3 * 115792089237316195423570985008687907853269984665640564039457584007913129639936 + (r2 * 6277101735386680763835789423207666416102355444464034512896 + m)) (hR : N = R * 18446744073709551616 + x) (hx : x < 18446744073709551616) (hl : R < b) :
  N / b ≤ 18446744073709551615 ∧ 18446744073709551615 ≤ N / b + 2:=by
 have hp : 0 < b:=by omega
 constructor
 ·rw [← Nat.lt_succ_iff,Nat.div_lt_iff_lt_mul hp]; omega
 ·have e:=Nat.div_add_mod N b;have hl':=Nat.mod_lt N hp
  rcases Nat.lt_or_ge 18446744073709551615 (N / b + 3) with h | h
  ·omega
  ·have h6:=Nat.mul_le_mul_right b h;rw [Nat.add_mul,Nat.mul_comm (N / b) b] at h6;omega
def TI (b R k top s : Nat) : Prop:=k ≤ 2 ∧ (k = 0 → top = 0 ∧ s = R) ∧ (k = 1 → top * 115792089237316195423570985008687907853269984665640564039457584007913129639936 + s + b = 18446744073709551616 * 115792089237316195423570985008687907853269984665640564039457584007913129639936 + R ∧ 0 < top) ∧ (k = 2 → top * 115792089237316195423570985008687907853269984665640564039457584007913129639936 + s + b + b = 18446744073709551616 * 115792089237316195423570985008687907853269984665640564039457584007913129639936 + R ∧ 0 < top)
theorem ET {N b g r3 xr p o s c : Nat} (hb : b < 115792089237316195423570985008687907853269984665640564039457584007913129639936) (hp : 0 < b) (hN : N = r3 * 115792089237316195423570985008687907853269984665640564039457584007913129639936 + xr) (hxr : xr < 115792089237316195423570985008687907853269984665640564039457584007913129639936) (h1 : N / b ≤ g) (h2 : g ≤ N / b + 2) (hr : r3 < 18446744073709551616) (ho : o < 18446744073709551616)
  (e1 : p + 115792089237316195423570985008687907853269984665640564039457584007913129639936 * o = b * g) (hpp : p < 115792089237316195423570985008687907853269984665640564039457584007913129639936) (e2 : s + p = xr + 115792089237316195423570985008687907853269984665640564039457584007913129639936 * c) (hs : s < 115792089237316195423570985008687907853269984665640564039457584007913129639936) :
  ∃ top : Nat,IntKind.u64.wrap (IntKind.u64.wrap ((r3 : Int) - (o : Int)) - (c : Int)) = (top : Int) ∧ top < 18446744073709551616 ∧ TI b (N % b) (g - N / b) top s:=by
 have e:=Nat.div_add_mod N b;have hl:=Nat.mod_lt N hp;obtain ⟨k,hk⟩ : ∃ k,g = N / b + k:=⟨g - N / b,by omega⟩
 subst hk;rw [Nat.mul_add] at e1;generalize b * (N / b) = P at *;generalize N % b = R at *;generalize N / b = q at *;have hk : k = 0 ∨ k = 1 ∨ k = 2:=by omega
 rw [show q + k - q = k by omega];simp only [IntKind.wrap_u64];unfold TI
 rcases hk with rfl | rfl | rfl
 ·refine ⟨0,by omega,by omega,by omega,fun _ => ⟨rfl,by omega⟩,by omega,by omega⟩
 ·refine ⟨(r3 + 18446744073709551616 + 18446744073709551616 - o - c) % 18446744073709551616,by omega,by omega,by omega,by omega,fun _ => by omega,by omega⟩
 ·refine ⟨(r3 + 18446744073709551616 + 18446744073709551616 - o - c) % 18446744073709551616,by omega,by omega,by omega,by omega,by omega,fun _ => by omega⟩
theorem Cr {b R k top s : Nat} (h : TI b R k top s) (hk : 0 < k) : 0 < top:=by
 obtain ⟨h0,_,h2,h3⟩:=h;have : k = 1 ∨ k = 2:=by omega
 rcases this with rfl | rfl
 ·exact (h2 rfl).2
 ·exact (h3 rfl).2
theorem EU {b R k top s s' c : Nat} (hb : b < 115792089237316195423570985008687907853269984665640564039457584007913129639936) (hR : R < b) (h : TI b R (k + 1) top s) (ht : top < 18446744073709551616) (hs : s < 115792089237316195423570985008687907853269984665640564039457584007913129639936) (hs' : s' < 115792089237316195423570985008687907853269984665640564039457584007913129639936) (hc : c ≤ 1) (e : s' + 115792089237316195423570985008687907853269984665640564039457584007913129639936 * c = s + b) :
  ∃ top' : Nat,IntKind.u64.wrap ((top : Int) + (c : Int)) = (top' : Int) ∧ top' < 18446744073709551616 ∧ TI b R k top' s':=by
 obtain ⟨h0,_,h2,h3⟩:=h;have hk : k = 0 ∨ k = 1:=by omega
 simp only [IntKind.wrap_u64];unfold TI
 rcases hk with rfl | rfl
 ·have h2:=h2 rfl;exact ⟨0,by omega,by omega,by omega,fun _ => ⟨rfl,by omega⟩,by omega,by omega⟩
 ·obtain ⟨h3,h4⟩:=h3 rfl;have hv : top + c < 18446744073709551616:=by omega
  refine ⟨top + c,by omega,hv,by omega,(fun h => absurd h (by omega)),(fun _ => ⟨?_,by omega⟩),(fun h => absurd h (by omega))⟩;rw [Nat.add_mul];omega
def cH (P : Nat → Prop) (w : World) (e : Ending) (w' : World) : Prop :=
 ∃ s0 s1 s2 s3 : Nat,e = .returned (.agg #[.int .u64 s0,.int .u64 s1,.int .u64 s2,.int .u64 s3]) ∧ aY s0 s1 s2 s3 ∧ P (aA s0 s1 s2 s3) ∧ Below w.heap.size w w'
structure TW (w wr : World) (lb : Nat) (b0 b1 b2 b3 s0 s1 s2 s3 : Nat) : Prop where
 below : Below w.heap.size w wr
 size : lb < wr.heap.size
 lo : w.heap.size + 1 + 1 < lb
 rowB : Row4 wr (w.heap.size + 1) b0 b1 b2 b3
 rowO : Row4 wr (w.heap.size + 1 + 1) 0 0 0 0
 rowS : Row4 wr lb s0 s1 s2 s3
theorem QZ (w : World) (o1 o2 o3 : Obj) : Below w.heap.size w (((w.alloc o1).alloc o2).alloc o3) :=
 (((Below.refl _ _).alloc (Nat.le_refl _) o1).alloc (by simp) o2).alloc (by simp; omega) o3
set_option maxHeartbeats 1000000 in
theorem EV (r0 r1 r2 r3 x b0 b1 b2 b3 : Nat) (hr : aY r0 r1 r2 r3) (hx : x < 18446744073709551616) (hb : aY b0 b1 b2 b3) (h3 : 9223372036854775808 ≤ b3) (hlt : aA r0 r1 r2 r3 < aA b0 b1 b2 b3) (hg : r3 < b3) (w : World) :
  Calls prog 197 #[.agg #[.int .u64 r0,.int .u64 r1,.int .u64 r2,.int .u64 r3],.int .u64 x,.agg #[.int .u64 b0,.int .u64 b1,.int .u64 b2,.int .u64 b3]] w (cH (fun n => n = (aA r0 r1 r2 r3 * 18446744073709551616 + x) % aA b0 b1 b2 b3) w):=by
 obtain ⟨g,ρ,dg,bg,bρ,eg⟩:=Kr hg hr.2.2.1 hb.2.2.2;have cg : g < 18446744073709551616:=bg;have HF:=Lib.hid (show (aA r0 r1 r2 r3 * 18446744073709551616 + x) / aA b0 b1 b2 b3 ≤ g ∧ g ≤ (aA r0 r1 r2 r3 * 18446744073709551616 + x) / aA b0 b1 b2 b3 + 2 by
  obtain ⟨t,e1,ht⟩:=AF b0 b1 b2 b3 hb;obtain ⟨m,e2,hm⟩:=aDg (r2:=r2) hx hr.1 hr.2.1;have eg:=eg.out;exact Jh e1 ht h3 (r:=r3 * 18446744073709551616 + r2) (m:=m) (by rw [Ny,e2]; omega) hm bg (by omega) (by omega))
 clear eg bρ
 go_enter func197,ntmps197
 go_wp2_with fail;refine (dg _).mono ?_
 rintro e w' ⟨rfl,n,rfl⟩
 go_wp2_with fail;refine (EL b0 b1 b2 b3 g hb cg _).mono ?_
 rintro e w1 ⟨p0,p1,p2,p3,o,rfl,hp,ho,ep,hbl⟩
 have R1:=(((Row4.new w r0 r1 r2 r3 81).alloc (by simp) _).alloc (by simp; omega) _).drewN n |>.below hbl (by simp; omega)
 have B1:=(((Row4.new (w.alloc _) b0 b1 b2 b3 81).alloc (by simp) _).drewN n).below hbl (by simp);have O1:=((Row4.new ((w.alloc _).alloc _) 0 0 0 0 81).drewN n).below hbl (by simp);simp only [World.size_alloc] at B1 O1;have hz1 : w.heap.size + 1 + 1 < w1.heap.size:=by have:=hbl.size; simp at this; omega
 have hy1 : w.heap.size + 1 < w1.heap.size:=by omega
 have hx1 : w.heap.size < w1.heap.size:=by omega
 have Hbl:=Lib.hid hbl; have Hep:=Lib.hid ep;clear hbl ep;have R1':=R1;obtain ⟨x0,x1,x2,x3,xf⟩:=R1;go_wp2_with fail;refine (jL x r0 r1 r2 p0 p1 p2 p3 ⟨hx,hr.1,hr.2.1,hr.2.2.1⟩ hp _).mono ?_
 rintro e w2 ⟨s0,s1,s2,s3,c,rfl,hs,hc,es,hbl⟩
 have R2:=(R1'.alloc hx1 _).below hbl (by rw [World.size_alloc]; omega);have B2:=(B1.alloc hy1 _).below hbl (by rw [World.size_alloc]; omega);have O2:=(O1.alloc hz1 _).below hbl (by rw [World.size_alloc]; omega);have hz2 : w1.heap.size < w2.heap.size:=by have:=hbl.size; simp at this; omega
 have hw2 : w.heap.size + 1 + 1 < w2.heap.size:=by omega
 have hy2 : w.heap.size + 1 < w2.heap.size:=by omega
 have hx2 : w.heap.size < w2.heap.size:=by omega
 have Hbl2:=Lib.hid hbl; have Hes:=Lib.hid es;clear hbl es x0 x1 x2 x3 xf;obtain ⟨x0,x1,x2,x3,xf⟩:=R2;have vb:=aZ hb;obtain ⟨top,etop,btop,ti⟩:=ET (N:=aA r0 r1 r2 r3 * 18446744073709551616 + x) (r3:=r3) vb (by omega) (Ny r0 r1 r2 r3 x) (aZ ⟨hx,hr.1,hr.2.1,hr.2.2.1⟩) HF.out.1 HF.out.2 hr.2.2.2 ho Hep.out (aZ hp) Hes.out (aZ hs);have Hti:=Lib.hid ti;have HB2 : Below w.heap.size w (w2.alloc (.cells #[.int .u64 s0,.int .u64 s1,.int .u64 s2,.int .u64 s3] 81)) :=
  (((QZ w _ _ _).trans (aH _ _ n)).trans (Hbl.out.mono (by simp; omega)) |>.alloc (by omega) _ |>.trans (Hbl2.out.mono (by rw [World.size_alloc]; omega))).alloc (by omega) _
 have HH:=Lib.hid HB2;clear ti vb HB2 Hbl Hbl2 Hep Hes HF;go_wp2_with fail;clear etop x0 x1 x2 x3 xf
 go_loopg [12] (g - (aA r0 r1 r2 r3 * 18446744073709551616 + x) / aA b0 b1 b2 b3) (fun k t wr => ∃ top s0 s1 s2 s3,t = .int .u64 (top : Nat) ∧ top < 18446744073709551616 ∧ aY s0 s1 s2 s3 ∧ Hid (TI (aA b0 b1 b2 b3) ((aA r0 r1 r2 r3 * 18446744073709551616 + x) % aA b0 b1 b2 b3) k top (aA s0 s1 s2 s3)) ∧ TW w wr w2.heap.size b0 b1 b2 b3 s0 s1 s2 s3)
 case atStart => exact ⟨top,s0,s1,s2,s3,rfl,btop,hs,Hti,⟨HH.out,by simp,by omega,B2.alloc hy2 _,O2.alloc hw2 _,Row4.new _ _ _ _ _ _⟩⟩
 case round =>
  obtain ⟨top,s0,s1,s2,s3,rfl,btop,hs,ti,tw⟩:=hrel;obtain ⟨y0,y1,y2,y3,yf⟩:=tw.rowB;obtain ⟨z0,z1,z2,z3,zf⟩:=tw.rowS;obtain ⟨o0,o1,o2,o3,of⟩:=tw.rowO;have hsz:=tw.size;have hlo:=tw.lo
  rcases Nat.eq_zero_or_pos gk with rfl | hk
  ·have ht:=ti.out.2.1 rfl;have t0 : ((top : Int) != 0) = false:=by simp [ht.1]
   have HR:=Lib.hid ht.2;have HB:=Lib.hid tw.below;have HW:=Lib.hid tw;clear ti ht tw;go_wp2_with fail;refine bodyPost_ret (v:=.agg #[.int .u64 s0,.int .u64 s1,.int .u64 s2,.int .u64 s3]) (by simp [results,results197,go_sem, *]) rfl ?_;exact ⟨s0,s1,s2,s3,rfl,hs,HR.out,aK HB.out (by omega) _ _ _ _⟩
  ·obtain ⟨k,rfl⟩ : ∃ k,gk = k + 1:=⟨gk - 1,by omega⟩
   have hp:=Cr ti.out hk;have t0 : ((top : Int) != 0) = true:=by simp; omega
   have HW:=Lib.hid tw;clear tw;go_wp2_with fail;refine (AB s0 s1 s2 s3 b0 b1 b2 b3 hs hb _).mono ?_
   rintro e w3 ⟨n0,n1,n2,n3,c,rfl,hn,hc,en,hbl⟩
   have hz3 : wr.heap.size ≤ w3.heap.size:=hbl.size;obtain ⟨top',et,bt,ti'⟩:=EU (aZ hb) (Nat.mod_lt _ (by have:=aZ hb; omega)) ti.out btop (aZ hs) (aZ hn) hc en;have S3:=HW.out.rowS.below hbl hsz;have T3 : TW w (set4 w3 w2.heap.size n0 n1 n2 n3) w2.heap.size b0 b1 b2 b3 n0 n1 n2 n3 :=
    ⟨aK (HW.out.below.trans (hbl.mono HW.out.below.size)) (by omega) _ _ _ _,by unfold set4; simp only [World.size_setCell]; omega,hlo,
     (HW.out.rowB.below hbl (by omega)).set4_other (by omega) _ _ _ _,(HW.out.rowO.below hbl (by omega)).set4_other (by omega) _ _ _ _,S3.set4 _ _ _ _⟩
   have HT:=Lib.hid T3;have Hti:=Lib.hid ti';obtain ⟨v0,v1,v2,v3,vf⟩:=S3;clear hbl en T3 ti' ti;go_wp2_with fail
   go_roundg k
   case rel => exact ⟨top',n0,n1,n2,n3,rfl,bt,hn,Hti,HT.out⟩
   case measure => omega
set_option maxHeartbeats 1000000 in
theorem EW (r0 r1 r2 r3 x b0 b1 b2 b3 : Nat) (hr : aY r0 r1 r2 r3) (hx : x < 18446744073709551616) (hb : aY b0 b1 b2 b3) (h3 : 9223372036854775808 ≤ b3) (hlt : aA r0 r1 r2 r3 < aA b0 b1 b2 b3) (hg : ¬ r3 < b3) (w : World) :
  Calls prog 197 #[.agg #[.int .u64 r0,.int .u64 r1,.int .u64 r2,.int .u64 r3],.int .u64 x,.agg #[.int .u64 b0,.int .u64 b1,.int .u64 b2,.int .u64 b3]] w (cH (fun n => n = (aA r0 r1 r2 r3 * 18446744073709551616 + x) % aA b0 b1 b2 b3) w):=by
 have HF:=Lib.hid (show (aA r0 r1 r2 r3 * 18446744073709551616 + x) / aA b0 b1 b2 b3 ≤ 18446744073709551615 ∧ 18446744073709551615 ≤ (aA r0 r1 r2 r3 * 18446744073709551616 + x) / aA b0 b1 b2 b3 + 2 by
  obtain ⟨t,e1,ht⟩:=AF b0 b1 b2 b3 hb;obtain ⟨t',e1',ht'⟩:=AF r0 r1 r2 r3 hr;obtain ⟨m,e2,hm⟩:=aDg (r2:=r2) hx hr.1 hr.2.1;exact Ji e1 ht h3 (r2:=r2) (m:=m) (by rw [Ny,e2]; omega) rfl hx hlt)
 go_enter func197,ntmps197
 go_wp2_with fail;refine (EL b0 b1 b2 b3 18446744073709551615 hb (by omega) _).mono ?_
 rintro e w1 ⟨p0,p1,p2,p3,o,rfl,hp,ho,ep,hbl⟩
 have R1:=(((Row4.new w r0 r1 r2 r3 81).alloc (by simp) _).alloc (by simp; omega) _) |>.below hbl (by simp; omega)
 have B1:=(((Row4.new (w.alloc _) b0 b1 b2 b3 81).alloc (by simp) _)).below hbl (by simp);have O1:=((Row4.new ((w.alloc _).alloc _) 0 0 0 0 81)).below hbl (by simp);simp only [World.size_alloc] at B1 O1;have hz1 : w.heap.size + 1 + 1 < w1.heap.size:=by have:=hbl.size; simp at this; omega
 have hy1 : w.heap.size + 1 < w1.heap.size:=by omega
 have hx1 : w.heap.size < w1.heap.size:=by omega
 have Hbl:=Lib.hid hbl; have Hep:=Lib.hid ep;clear hbl ep;have R1':=R1;obtain ⟨x0,x1,x2,x3,xf⟩:=R1;go_wp2_with fail;refine (jL x r0 r1 r2 p0 p1 p2 p3 ⟨hx,hr.1,hr.2.1,hr.2.2.1⟩ hp _).mono ?_
 rintro e w2 ⟨s0,s1,s2,s3,c,rfl,hs,hc,es,hbl⟩
 have R2:=(R1'.alloc hx1 _).below hbl (by rw [World.size_alloc]; omega);have B2:=(B1.alloc hy1 _).below hbl (by rw [World.size_alloc]; omega);have O2:=(O1.alloc hz1 _).below hbl (by rw [World.size_alloc]; omega);have hz2 : w1.heap.size < w2.heap.size:=by have:=hbl.size; simp at this; omega
 have hw2 : w.heap.size + 1 + 1 < w2.heap.size:=by omega
 have hy2 : w.heap.size + 1 < w2.heap.size:=by omega
 have hx2 : w.heap.size < w2.heap.size:=by omega
 have Hbl2:=Lib.hid hbl; have Hes:=Lib.hid es;clear hbl es x0 x1 x2 x3 xf;obtain ⟨x0,x1,x2,x3,xf⟩:=R2;have vb:=aZ hb;obtain ⟨top,etop,btop,ti⟩:=ET (N:=aA r0 r1 r2 r3 * 18446744073709551616 + x) (r3:=r3) vb (by omega) (Ny r0 r1 r2 r3 x) (aZ ⟨hx,hr.1,hr.2.1,hr.2.2.1⟩) HF.out.1 HF.out.2 hr.2.2.2 ho Hep.out (aZ hp) Hes.out (aZ hs);have Hti:=Lib.hid ti;have HB2 : Below w.heap.size w (w2.alloc (.cells #[.int .u64 s0,.int .u64 s1,.int .u64 s2,.int .u64 s3] 81)) :=
  ((QZ w _ _ _).trans (Hbl.out.mono (by simp; omega)) |>.alloc (by omega) _ |>.trans (Hbl2.out.mono (by rw [World.size_alloc]; omega))).alloc (by omega) _
 have HH:=Lib.hid HB2;clear ti vb HB2 Hbl Hbl2 Hep Hes HF;go_wp2_with fail;clear etop x0 x1 x2 x3 xf
 go_loopg [12] (18446744073709551615 - (aA r0 r1 r2 r3 * 18446744073709551616 + x) / aA b0 b1 b2 b3) (fun k t wr => ∃ top s0 s1 s2 s3,t = .int .u64 (top : Nat) ∧ top < 18446744073709551616 ∧ aY s0 s1 s2 s3 ∧ Hid (TI (aA b0 b1 b2 b3) ((aA r0 r1 r2 r3 * 18446744073709551616 + x) % aA b0 b1 b2 b3) k top (aA s0 s1 s2 s3)) ∧ TW w wr w2.heap.size b0 b1 b2 b3 s0 s1 s2 s3)
 case atStart => exact ⟨top,s0,s1,s2,s3,rfl,btop,hs,Hti,⟨HH.out,by simp,by omega,B2.alloc hy2 _,O2.alloc hw2 _,Row4.new _ _ _ _ _ _⟩⟩
 case round =>
  obtain ⟨top,s0,s1,s2,s3,rfl,btop,hs,ti,tw⟩:=hrel;obtain ⟨y0,y1,y2,y3,yf⟩:=tw.rowB;obtain ⟨z0,z1,z2,z3,zf⟩:=tw.rowS;obtain ⟨o0,o1,o2,o3,of⟩:=tw.rowO;have hsz:=tw.size;have hlo:=tw.lo
  rcases Nat.eq_zero_or_pos gk with rfl | hk
  ·have ht:=ti.out.2.1 rfl;have t0 : ((top : Int) != 0) = false:=by simp [ht.1]
   have HR:=Lib.hid ht.2;have HB:=Lib.hid tw.below;have HW:=Lib.hid tw;clear ti ht tw;go_wp2_with fail;refine bodyPost_ret (v:=.agg #[.int .u64 s0,.int .u64 s1,.int .u64 s2,.int .u64 s3]) (by simp [results,results197,go_sem, *]) rfl ?_;exact ⟨s0,s1,s2,s3,rfl,hs,HR.out,aK HB.out (by omega) _ _ _ _⟩
  ·obtain ⟨k,rfl⟩ : ∃ k,gk = k + 1:=⟨gk - 1,by omega⟩
   have hp:=Cr ti.out hk;have t0 : ((top : Int) != 0) = true:=by simp; omega
   have HW:=Lib.hid tw;clear tw;go_wp2_with fail;refine (AB s0 s1 s2 s3 b0 b1 b2 b3 hs hb _).mono ?_
   rintro e w3 ⟨n0,n1,n2,n3,c,rfl,hn,hc,en,hbl⟩
   have hz3 : wr.heap.size ≤ w3.heap.size:=hbl.size;obtain ⟨top',et,bt,ti'⟩:=EU (aZ hb) (Nat.mod_lt _ (by have:=aZ hb; omega)) ti.out btop (aZ hs) (aZ hn) hc en;have S3:=HW.out.rowS.below hbl hsz;have T3 : TW w (set4 w3 w2.heap.size n0 n1 n2 n3) w2.heap.size b0 b1 b2 b3 n0 n1 n2 n3 :=
    ⟨aK (HW.out.below.trans (hbl.mono HW.out.below.size)) (by omega) _ _ _ _,by unfold set4; simp only [World.size_setCell]; omega,hlo,
     (HW.out.rowB.below hbl (by omega)).set4_other (by omega) _ _ _ _,(HW.out.rowO.below hbl (by omega)).set4_other (by omega) _ _ _ _,S3.set4 _ _ _ _⟩
   have HT:=Lib.hid T3;have Hti:=Lib.hid ti';obtain ⟨v0,v1,v2,v3,vf⟩:=S3;clear hbl en T3 ti' ti;go_wp2_with fail
   go_roundg k
   case rel => exact ⟨top',n0,n1,n2,n3,rfl,bt,hn,Hti,HT.out⟩
   case measure => omega
theorem uB (r0 r1 r2 r3 x b0 b1 b2 b3 : Nat) (hr : aY r0 r1 r2 r3) (hx : x < 18446744073709551616) (hb : aY b0 b1 b2 b3) (h3 : 9223372036854775808 ≤ b3) (hlt : aA r0 r1 r2 r3 < aA b0 b1 b2 b3) (w : World) :
  Calls prog 197 #[.agg #[.int .u64 r0,.int .u64 r1,.int .u64 r2,.int .u64 r3],.int .u64 x,.agg #[.int .u64 b0,.int .u64 b1,.int .u64 b2,.int .u64 b3]] w (cH (fun n => n = (aA r0 r1 r2 r3 * 18446744073709551616 + x) % aA b0 b1 b2 b3) w):=by
 by_cases hg : r3 < b3
 ·exact EV r0 r1 r2 r3 x b0 b1 b2 b3 hr hx hb h3 hlt hg w
 ·exact EW r0 r1 r2 r3 x b0 b1 b2 b3 hr hx hb h3 hlt hg w
theorem zQ {x c : Nat} (hx : x < 18446744073709551616) (hc : c ≤ 1) : ∃ d b : Nat,(∀ w,(callFunc 154 #[.int .u64 (x : Int),.int .u64 0,.int .u64 (c : Int)]).run prog w =
   .ok (.value (.tuple #[.int .u64 (d : Int),.int .u64 (b : Int)])) w) ∧ d < 18446744073709551616 ∧ b ≤ 1 ∧ Hid (d + 18446744073709551616 * b = x + c) :=
 ⟨_,_,qA x 0 c hc,DF _ _ _,DG hx (by omega) hc,Lib.hid (by have:=Ml x 0 c; omega)⟩
set_option maxHeartbeats 1000000 in
theorem sB {a b c d : Nat} (ha : a < 18446744073709551616) (hb : b < 18446744073709551616) (hc : c < 18446744073709551616) (hd : d < 18446744073709551616) : ∃ h l : Nat,
  (∀ w,Calls prog 170 #[.int .u64 a,.int .u64 b,.int .u64 c,.int .u64 d] w fun e w' => e = .returned (.tuple #[.int .u64 (h : Nat),.int .u64 (l : Nat)]) ∧ w' = w) ∧
  h < 18446744073709551616 ∧ l < 18446744073709551616 ∧ Hid (l + 18446744073709551616 * h = a * b + c + d):=by
 obtain ⟨h,l,r,hh,hl,e⟩:=KP ha hb;obtain ⟨l1,c1,r1,hl1,hc1,e1⟩:=jU hl hc;obtain ⟨h1,z1,r2,hh1,hz1,e2⟩:=zQ (show h < 18446744073709551616 by omega) hc1;obtain ⟨l2,c2,r3,hl2,hc2,e3⟩:=jU hl1 hd;obtain ⟨h2,z2,r4,hh2,hz2,e4⟩:=zQ hh1 hc2;have hab:=qZ (show a ≤ 18446744073709551615 by omega) (show b ≤ 18446744073709551615 by omega);refine ⟨h2,l2,fun w => ?_,hh2,hl2,Lib.hid (by have:=e.out; have:=e1.out; have:=e2.out; have:=e3.out; have:=e4.out; omega)⟩;clear e e1 e2 e3 e4 hab
 go_enter func170,ntmps170
 go_wp2_with fail;refine (r _).mono ?_
 rintro e w' ⟨rfl,rfl⟩
 go_wp2_with fail
 go_ret2
 exact ⟨rfl,rfl⟩
structure KIs (w : World) (b : Nat) (F : FC) : Prop where
 k0 : w.cell? ⟨b,0,none⟩ = some (.int .u64 F.m0)
 k1 : w.cell? ⟨b,1,none⟩ = some (.int .u64 F.m1)
 k2 : w.cell? ⟨b,2,none⟩ = some (.int .u64 F.m2)
 k3 : w.cell? ⟨b,3,none⟩ = some (.int .u64 F.m3)
 k4 : w.cell? ⟨b,4,none⟩ = some (.int .u64 F.inv)
 k5 : w.cell? ⟨b,5,none⟩ = some (.int .u64 F.s0)
 k6 : w.cell? ⟨b,6,none⟩ = some (.int .u64 F.s1)
 k7 : w.cell? ⟨b,7,none⟩ = some (.int .u64 F.s2)
 k8 : w.cell? ⟨b,8,none⟩ = some (.int .u64 F.s3)
 lt : b < w.heap.size
theorem KIs.below {w w' : World} {b : Nat} {F : FC} (h : KIs w b F) {B : Nat} (hb : Below B w w') (hB : b < B) : KIs w' b F :=
 ⟨by rw [hb.cell (p:=⟨b,0,none⟩) hB]; exact h.k0,by rw [hb.cell (p:=⟨b,1,none⟩) hB]; exact h.k1,by rw [hb.cell (p:=⟨b,2,none⟩) hB]; exact h.k2,by rw [hb.cell (p:=⟨b,3,none⟩) hB]; exact h.k3,
  by rw [hb.cell (p:=⟨b,4,none⟩) hB]; exact h.k4,by rw [hb.cell (p:=⟨b,5,none⟩) hB]; exact h.k5,by rw [hb.cell (p:=⟨b,6,none⟩) hB]; exact h.k6,by rw [hb.cell (p:=⟨b,7,none⟩) hB]; exact h.k7,by rw [hb.cell (p:=⟨b,8,none⟩) hB]; exact h.k8,Nat.lt_of_lt_of_le h.lt hb.size⟩
theorem KIs.same {w w' : World} {b : Nat} {F : FC} (h : KIs w b F) (hb : Below w.heap.size w w') : KIs w' b F:=h.below hb h.lt
theorem KIs.drewN {w : World} {b : Nat} {F : FC} (h : KIs w b F) (n : Nat) : KIs (w.drewN n) b F:=⟨h.k0,h.k1,h.k2,h.k3,h.k4,h.k5,h.k6,h.k7,h.k8,h.lt⟩
theorem KIs.other {w : World} {b d i : Nat} {F : FC} (h : KIs w b F) (hd : d ≠ b) (v : Value) : KIs (w.setCell ⟨d,i,none⟩ v) b F :=
 ⟨by rw [World.cell?_setCell_other (h:=fun he => hd (by simpa using congrArg Addr.block he)) ..]; exact h.k0,by rw [World.cell?_setCell_other (h:=fun he => hd (by simpa using congrArg Addr.block he)) ..]; exact h.k1,
  by rw [World.cell?_setCell_other (h:=fun he => hd (by simpa using congrArg Addr.block he)) ..]; exact h.k2,by rw [World.cell?_setCell_other (h:=fun he => hd (by simpa using congrArg Addr.block he)) ..]; exact h.k3,
  by rw [World.cell?_setCell_other (h:=fun he => hd (by simpa using congrArg Addr.block he)) ..]; exact h.k4,by rw [World.cell?_setCell_other (h:=fun he => hd (by simpa using congrArg Addr.block he)) ..]; exact h.k5,
  by rw [World.cell?_setCell_other (h:=fun he => hd (by simpa using congrArg Addr.block he)) ..]; exact h.k6,by rw [World.cell?_setCell_other (h:=fun he => hd (by simpa using congrArg Addr.block he)) ..]; exact h.k7,
  by rw [World.cell?_setCell_other (h:=fun he => hd (by simpa using congrArg Addr.block he)) ..]; exact h.k8,by rw [World.size_setCell]; exact h.lt⟩
theorem CO {a0 a1 a2 a3 b0 b1 b2 b3 : Nat} (ha : aY a0 a1 a2 a3) (hb : aY b0 b1 b2 b3) : ∃ d0 c0 d1 c1 d2 c2 d3 c3 : Nat,
  (∀ w,(callFunc 91 #[.int .u64 (a0 : Int),.int .u64 (b0 : Int),.int .u64 0]).run prog w = .ok (.value (.tuple #[.int .u64 (d0 : Int),.int .u64 (c0 : Int)])) w) ∧
  (∀ w,(callFunc 91 #[.int .u64 (a1 : Int),.int .u64 (b1 : Int),.int .u64 (c0 : Int)]).run prog w = .ok (.value (.tuple #[.int .u64 (d1 : Int),.int .u64 (c1 : Int)])) w) ∧
  (∀ w,(callFunc 91 #[.int .u64 (a2 : Int),.int .u64 (b2 : Int),.int .u64 (c1 : Int)]).run prog w = .ok (.value (.tuple #[.int .u64 (d2 : Int),.int .u64 (c2 : Int)])) w) ∧
  (∀ w,(callFunc 91 #[.int .u64 (a3 : Int),.int .u64 (b3 : Int),.int .u64 (c2 : Int)]).run prog w = .ok (.value (.tuple #[.int .u64 (d3 : Int),.int .u64 (c3 : Int)])) w) ∧
  aY d0 d1 d2 d3 ∧ c3 ≤ 1 ∧ Hid (aA d0 d1 d2 d3 + aA b0 b1 b2 b3 = aA a0 a1 a2 a3 + 115792089237316195423570985008687907853269984665640564039457584007913129639936 * c3):=by
 obtain ⟨d0,c0,r0,h0,k0,e0⟩:=zP ha.1 hb.1;obtain ⟨d1,c1,r1,h1,k1,e1⟩:=jT ha.2.1 hb.2.1 k0;obtain ⟨d2,c2,r2,h2,k2,e2⟩:=jT ha.2.2.1 hb.2.2.1 k1;obtain ⟨d3,c3,r3,h3,k3,e3⟩:=jT ha.2.2.2 hb.2.2.2 k2;exact ⟨d0,c0,d1,c1,d2,c2,d3,c3,r0,r1,r2,r3,⟨h0,h1,h2,h3⟩,k3,Lib.hid (by have:=e0.out; have:=e1.out; have:=e2.out; have:=e3.out; unfold aA; omega)⟩
theorem VI {a0 a1 a2 a3 b0 b1 b2 b3 : Nat} (ha : aY a0 a1 a2 a3) (hb : aY b0 b1 b2 b3) : ∃ d0 c0 d1 c1 d2 c2 d3 c3 : Nat,
  (∀ w,(callFunc 154 #[.int .u64 (a0 : Int),.int .u64 (b0 : Int),.int .u64 0]).run prog w = .ok (.value (.tuple #[.int .u64 (d0 : Int),.int .u64 (c0 : Int)])) w) ∧
  (∀ w,(callFunc 154 #[.int .u64 (a1 : Int),.int .u64 (b1 : Int),.int .u64 (c0 : Int)]).run prog w = .ok (.value (.tuple #[.int .u64 (d1 : Int),.int .u64 (c1 : Int)])) w) ∧
  (∀ w,(callFunc 154 #[.int .u64 (a2 : Int),.int .u64 (b2 : Int),.int .u64 (c1 : Int)]).run prog w = .ok (.value (.tuple #[.int .u64 (d2 : Int),.int .u64 (c2 : Int)])) w) ∧
  (∀ w,(callFunc 154 #[.int .u64 (a3 : Int),.int .u64 (b3 : Int),.int .u64 (c2 : Int)]).run prog w = .ok (.value (.tuple #[.int .u64 (d3 : Int),.int .u64 (c3 : Int)])) w) ∧
  aY d0 d1 d2 d3 ∧ c3 ≤ 1 ∧ Hid (aA d0 d1 d2 d3 + 115792089237316195423570985008687907853269984665640564039457584007913129639936 * c3 = aA a0 a1 a2 a3 + aA b0 b1 b2 b3):=by
 obtain ⟨d0,c0,r0,h0,k0,e0⟩:=jU ha.1 hb.1;obtain ⟨d1,c1,r1,h1,k1,e1⟩:=jV ha.2.1 hb.2.1 k0;obtain ⟨d2,c2,r2,h2,k2,e2⟩:=jV ha.2.2.1 hb.2.2.1 k1;obtain ⟨d3,c3,r3,h3,k3,e3⟩:=jV ha.2.2.2 hb.2.2.2 k2;exact ⟨d0,c0,d1,c1,d2,c2,d3,c3,r0,r1,r2,r3,⟨h0,h1,h2,h3⟩,k3,Lib.hid (by have:=e0.out; have:=e1.out; have:=e2.out; have:=e3.out; unfold aA; omega)⟩
def cW (V : Nat) (w : World) (e : Ending) (w' : World) : Prop :=
 ∃ s0 s1 s2 s3 : Nat,e = .returned (.agg #[.int .u64 s0,.int .u64 s1,.int .u64 s2,.int .u64 s3]) ∧ aY s0 s1 s2 s3 ∧ aA s0 s1 s2 s3 = V ∧ Below w.heap.size w w'
set_option maxHeartbeats 1000000 in
theorem vC (F : FC) (hF : F.Ok) (b t0 t1 t2 t3 : Nat) (ht : aY t0 t1 t2 t3) (hlt : aA t0 t1 t2 t3 < 2 * F.M) (w : World) (hk : KIs w b F) :
  Calls prog 155 #[.pointer (some ⟨b,0,none⟩),.int .u64 t0,.int .u64 t1,.int .u64 t2,.int .u64 t3] w (cW (aA t0 t1 t2 t3 % F.M) w):=by
 obtain ⟨d0,c0,d1,c1,d2,c2,d3,c3,r0,r1,r2,r3,hd,hc,e⟩:=CO ht hF.okm;have vd:=aZ hd;have vt:=aZ ht;have HV:=Lib.hid (Gn hlt);have HM:=Lib.hid (show F.M = aA F.m0 F.m1 F.m2 F.m3 from rfl);have hL:=hk.lt;have k0:=hk.k0; have k1:=hk.k1; have k2:=hk.k2; have k3:=hk.k3;clear hk hF hlt;have hc' : c3 = 0 ∨ c3 = 1:=by omega
 rcases hc' with rfl | rfl
 ·go_enter func155,ntmps155
  go_wp2_with fail;refine bodyPost_ret (v:=.agg #[.int .u64 d0,.int .u64 d1,.int .u64 d2,.int .u64 d3]) (by simp [results,results155,go_sem]) rfl ?_;refine ⟨_,_,_,_,rfl,hd,?_,?_⟩
  ·rw [HV.out,if_neg (by have:=e.out; have:=HM.out; omega)]; have:=e.out; have:=HM.out; omega
  ·repeat (first | exact Below.refl _ _ | refine Below.drew ?_ | refine Below.alloc ?_ (by first | (simp; done) | (simp; omega)) _ | refine Below.setCell ?_ (by simp) _)
 ·go_enter func155,ntmps155
  go_wp2_with fail;refine bodyPost_ret (v:=.agg #[.int .u64 t0,.int .u64 t1,.int .u64 t2,.int .u64 t3]) (by simp [results,results155,go_sem]) rfl ?_;refine ⟨_,_,_,_,rfl,ht,?_,?_⟩
  ·rw [HV.out,if_pos (by have:=e.out; have:=HM.out; omega)]
  ·repeat (first | exact Below.refl _ _ | refine Below.drew ?_ | refine Below.alloc ?_ (by first | (simp; done) | (simp; omega)) _ | refine Below.setCell ?_ (by simp) _)
theorem Km (F : FC) (hF : F.Ok) {x y0 y1 y2 y3 t0 t1 t2 t3 : Nat} {X : Nat → Nat} {k : Nat} (hk : k < 4) (hx : x < 18446744073709551616) (hX : X k = x) (hy : aY y0 y1 y2 y3) (hY : aA y0 y1 y2 y3 < F.M) (ht : aY t0 t1 t2 t3) (g : SB F.M X (aA y0 y1 y2 y3) k (aA t0 t1 t2 t3)) :
  ∃ o0 l0 cl c0 z o1 l1 c1 n0 o2 l2 c2 n1 o3 l3 c3 n2 n3 : Nat,
  (∀ w,Calls prog 170 #[.int .u64 x,.int .u64 y0,.int .u64 t0,.int .u64 0] w fun e w' => e = .returned (.tuple #[.int .u64 (o0 : Nat),.int .u64 (l0 : Nat)]) ∧ w' = w) ∧
  IntKind.u64.wrap ((l0 : Int) * (F.inv : Int)) = (cl : Int) ∧
  (∀ w,Calls prog 170 #[.int .u64 cl,.int .u64 F.m0,.int .u64 l0,.int .u64 0] w fun e w' => e = .returned (.tuple #[.int .u64 (c0 : Nat),.int .u64 (z : Nat)]) ∧ w' = w) ∧
  (∀ w,Calls prog 170 #[.int .u64 x,.int .u64 y1,.int .u64 t1,.int .u64 o0] w fun e w' => e = .returned (.tuple #[.int .u64 (o1 : Nat),.int .u64 (l1 : Nat)]) ∧ w' = w) ∧
  (∀ w,Calls prog 170 #[.int .u64 cl,.int .u64 F.m1,.int .u64 l1,.int .u64 c0] w fun e w' => e = .returned (.tuple #[.int .u64 (c1 : Nat),.int .u64 (n0 : Nat)]) ∧ w' = w) ∧
  (∀ w,Calls prog 170 #[.int .u64 x,.int .u64 y2,.int .u64 t2,.int .u64 o1] w fun e w' => e = .returned (.tuple #[.int .u64 (o2 : Nat),.int .u64 (l2 : Nat)]) ∧ w' = w) ∧
  (∀ w,Calls prog 170 #[.int .u64 cl,.int .u64 F.m2,.int .u64 l2,.int .u64 c1] w fun e w' => e = .returned (.tuple #[.int .u64 (c2 : Nat),.int .u64 (n1 : Nat)]) ∧ w' = w) ∧
  (∀ w,Calls prog 170 #[.int .u64 x,.int .u64 y3,.int .u64 t3,.int .u64 o2] w fun e w' => e = .returned (.tuple #[.int .u64 (o3 : Nat),.int .u64 (l3 : Nat)]) ∧ w' = w) ∧
  (∀ w,Calls prog 170 #[.int .u64 cl,.int .u64 F.m3,.int .u64 l3,.int .u64 c2] w fun e w' => e = .returned (.tuple #[.int .u64 (c3 : Nat),.int .u64 (n2 : Nat)]) ∧ w' = w) ∧
  (o3 : Int) + (c3 : Int) = (n3 : Int) ∧ o3 + c3 < 18446744073709551616 ∧ aY n0 n1 n2 n3 ∧ Hid (SB F.M X (aA y0 y1 y2 y3) (k + 1) (aA n0 n1 n2 n3)):=by
 obtain ⟨o0,l0,r0,bo0,bl0,e0⟩:=sB hx hy.1 ht.1 (show 0 < 18446744073709551616 by omega);obtain ⟨cl,hcl⟩ : ∃ cl,cl = l0 * F.inv % 18446744073709551616:=⟨_,rfl⟩
 have bcl : cl < 18446744073709551616:=by omega
 obtain ⟨c0,z,s0,bc0,bz,f0⟩:=sB bcl hF.okm.1 bl0 (show 0 < 18446744073709551616 by omega);obtain ⟨o1,l1,r1,bo1,tN,e1⟩:=sB hx hy.2.1 ht.2.1 bo0;obtain ⟨c1,n0,s1,bc1,bn0,f1⟩:=sB bcl hF.okm.2.1 tN bc0;obtain ⟨o2,l2,r2,bo2,jI,e2⟩:=sB hx hy.2.2.1 ht.2.2.1 bo1;obtain ⟨c2,n1,s2,bc2,bn1,f2⟩:=sB bcl hF.okm.2.2.1 jI bc1;obtain ⟨o3,l3,r3,bo3,bl3,e3⟩:=sB hx hy.2.2.2 ht.2.2.2 bo2;obtain ⟨c3,n2,s3,bc3,bn2,f3⟩:=sB bcl hF.okm.2.2.2 bl3 bc2;have hz : z = 0:=by
  have h:=QR (l:=l0) hF.turn;rw [← hcl] at h;have:=f0.out;omega
 subst hz;have ha:=GU (e0.out) (f0.out) e1.out f1.out e2.out f2.out e3.out f3.out;have hg:=Au (X:=X) hk g (by rw [hX]; exact hx) hY bcl (N:=aA n0 n1 n2 (o3 + c3)) (by rw [hX]; exact ha);have hn3 : o3 + c3 < 18446744073709551616:=Cd (B:=0) (Nat.lt_trans hg.1 hF.two);refine ⟨o0,l0,cl,c0,0,o1,l1,c1,n0,o2,l2,c2,n1,o3,l3,c3,n2,o3 + c3,r0,?_,s0,r1,s1,r2,s2,r3,s3,?_,hn3,⟨bn0,bn1,bn2,hn3⟩,Lib.hid hg⟩
 ·rw [hcl,← Int.natCast_mul]; exact fT _
 ·exact (Int.natCast_add _ _).symm
theorem PW (x0 x1 x2 x3 k : Nat) (hk : k < 4) (w : World) : (Instr.index 127 (.agg #[.int .u64 x0,.int .u64 x1,.int .u64 x2,.int .u64 x3]) (.int .i64 k)).run prog w = .ok (.int .u64 (dL [x0,x1,x2,x3] k : Nat)) w:=by
 have h0 : ∀ w,(Instr.index 127 (.agg #[.int .u64 x0,.int .u64 x1,.int .u64 x2,.int .u64 x3]) (.int .i64 0)).run prog w = .ok (.int .u64 x0) w:=fun _ => by kernel_rfl
 have h1 : ∀ w,(Instr.index 127 (.agg #[.int .u64 x0,.int .u64 x1,.int .u64 x2,.int .u64 x3]) (.int .i64 1)).run prog w = .ok (.int .u64 x1) w:=fun _ => by kernel_rfl
 have h2 : ∀ w,(Instr.index 127 (.agg #[.int .u64 x0,.int .u64 x1,.int .u64 x2,.int .u64 x3]) (.int .i64 2)).run prog w = .ok (.int .u64 x2) w:=fun _ => by kernel_rfl
 have h3 : ∀ w,(Instr.index 127 (.agg #[.int .u64 x0,.int .u64 x1,.int .u64 x2,.int .u64 x3]) (.int .i64 3)).run prog w = .ok (.int .u64 x3) w:=fun _ => by kernel_rfl
 have : k = 0 ∨ k = 1 ∨ k = 2 ∨ k = 3:=by omega
 rcases this with rfl | rfl | rfl | rfl
 ·exact h0 w
 ·exact h1 w
 ·exact h2 w
 ·exact h3 w
set_option maxHeartbeats 4000000 in
theorem bR (F : FC) (hF : F.Ok) (b x0 x1 x2 x3 y0 y1 y2 y3 : Nat) (hx : aY x0 x1 x2 x3) (hy : aY y0 y1 y2 y3) (hY : aA y0 y1 y2 y3 < F.M) (w : World) (hk : KIs w b F) :
  Calls prog 150 #[.pointer (some ⟨b,0,none⟩),.agg #[.int .u64 x0,.int .u64 x1,.int .u64 x2,.int .u64 x3],.agg #[.int .u64 y0,.int .u64 y1,.int .u64 y2,.int .u64 y3]] w (cW (aA x0 x1 x2 x3 * aA y0 y1 y2 y3 * F.Ri % F.M) w):=by
 obtain ⟨X,eX⟩ : ∃ X,X = dL [x0,x1,x2,x3]:=⟨_,rfl⟩
 have HX:=Lib.hid eX;have hXlt:=lT hx;have HXlt:=Lib.hid hXlt;have HY:=Lib.hid hY;have HF:=Lib.hid hF;have HK:=Lib.hid hk;have HI:=Lib.hid (PW x0 x1 x2 x3);have hL:=hk.lt;have hL1 : b < w.heap.size + 1:=by omega
 have hL2 : b < w.heap.size + 1 + 1:=by omega
 have k0:=hk.k0; have k1:=hk.k1; have k2:=hk.k2; have k3:=hk.k3; have k4:=hk.k4;have bi:=hF.inv;have HG:=Lib.hid (As (Y:=aA y0 y1 y2 y3) X (show 0 < F.M by have:=hF.gt; omega));clear eX hXlt hY hF hk
 go_enter func150,ntmps150
 go_wp2_with fail
 go_loop [8,9,10,11,23] (fun v0 v1 v2 v3 i => ∃ k t0 t1 t2 t3 : Nat,k ≤ 4 ∧ i = .int .i64 k ∧ v0 = .int .u64 t0 ∧ v1 = .int .u64 t1 ∧ v2 = .int .u64 t2 ∧ v3 = .int .u64 t3 ∧ aY t0 t1 t2 t3 ∧ Hid (SB F.M X (aA y0 y1 y2 y3) k (aA t0 t1 t2 t3))) (fun _ _ _ _ i => 4 - (intOf i).toNat)
 case atStart => exact ⟨0,0,0,0,0,by omega,rfl,rfl,rfl,rfl,rfl,⟨by omega,by omega,by omega,by omega⟩,HG⟩
 case round =>
  obtain ⟨k,t0,t1,t2,t3,hk,rfl,rfl,rfl,rfl,rfl,ht,g⟩:=hrel
  by_cases hlt : k < 4
  ·obtain ⟨x,ex⟩ : ∃ x,x = dL [x0,x1,x2,x3] k:=⟨_,rfl⟩
   have hi:=HI.out k hlt;rw [← ex] at hi;have bx : x < 18446744073709551616:=by rw [ex]; exact HXlt.out k
   obtain ⟨o0,l0,cl,c0,z,o1,l1,c1,n0,o2,l2,c2,n1,o3,l3,c3,n2,n3,r0,q,s0,r1,s1,r2,s2,r3,s3,p,hp,hn,hg⟩:=Km F HF.out hlt bx (by rw [ex,HX.out]) hy HY.out ht g.out;clear ex g;go_wp2_with (first | (with_reducible refine (r0 _).mono ?_; rintro e w' ⟨rfl,rfl⟩) | (with_reducible refine (s0 _).mono ?_; rintro e w' ⟨rfl,rfl⟩) | (with_reducible refine (r1 _).mono ?_; rintro e w' ⟨rfl,rfl⟩) | (with_reducible refine (s1 _).mono ?_; rintro e w' ⟨rfl,rfl⟩) | (with_reducible refine (r2 _).mono ?_; rintro e w' ⟨rfl,rfl⟩) | (with_reducible refine (s2 _).mono ?_; rintro e w' ⟨rfl,rfl⟩) | (with_reducible refine (r3 _).mono ?_; rintro e w' ⟨rfl,rfl⟩) | (with_reducible refine (s3 _).mono ?_; rintro e w' ⟨rfl,rfl⟩))
   go_round
   case rel => exact ⟨k + 1,n0,n1,n2,n3,by omega,by go_num,rfl,rfl,rfl,rfl,hn,hg⟩
   case measure => simp [intOf]; omega
  ·obtain rfl : k = 4:=by omega
   obtain ⟨ge,gv⟩:=Jj HF.out (x0:=x0) (x1:=x1) (x2:=x2) (x3:=x3) (by rw [HX.out]; rfl) (by rw [HX.out]; rfl) (by rw [HX.out]; rfl) (by rw [HX.out]; rfl) g.out;have HGV:=Lib.hid gv;clear gv g;go_wp2_with fail;refine (vC F HF.out b t0 t1 t2 t3 ht ge _ (HK.out.same ?_)).mono ?_
   ·repeat (first | exact Below.refl _ _ | refine Below.drew ?_ | refine Below.alloc ?_ (by first | (simp; done) | (simp; omega)) _)
   rintro e w1 ⟨s0,s1,s2,s3,rfl,hs,hv,hbl⟩
   have HV:=Lib.hid hv;obtain ⟨hc,hf⟩:=sG hbl;have hz : w.heap.size + 1 + 1 < w1.heap.size:=by have:=hbl.size; simp at this; omega
   have HBL:=Lib.hid hbl;clear hv hbl;go_wp2_with fail;refine bodyPost_ret (v:=.agg #[.int .u64 s0,.int .u64 s1,.int .u64 s2,.int .u64 s3]) (by simp [results,results150,go_sem, *]) rfl ?_;refine ⟨_,_,_,_,rfl,hs,HV.out.trans HGV.out,?_⟩;refine aK (Below.trans ?_ (HBL.out.mono (by simp; omega))) (by omega) _ _ _ _
   repeat (first | exact Below.refl _ _ | refine Below.drew ?_ | refine Below.alloc ?_ (by first | (simp; done) | (simp; omega)) _)
def oY (V M : Nat) : Bool:=decide (V < M)
theorem aAb {V M c D : Nat} (hD : D < 115792089237316195423570985008687907853269984665640564039457584007913129639936) (hc : c ≤ 1) (e : D + M = V + 115792089237316195423570985008687907853269984665640564039457584007913129639936 * c) (hM : M < 115792089237316195423570985008687907853269984665640564039457584007913129639936) (hV : V < 115792089237316195423570985008687907853269984665640564039457584007913129639936) : ((c : Int) == 1) = oY V M:=by
 have : c = 0 ∨ c = 1:=by omega
 unfold oY
 rcases this with rfl | rfl
 ·rw [decide_eq_false (by omega)]; rfl
 ·rw [decide_eq_true (by omega)]; rfl
theorem uS {a b : Bool} (h : a = b) : Ending.returned (.bool a) = .returned (.bool b):=by rw [h]
set_option maxHeartbeats 1000000 in
theorem bW (F : FC) (hF : F.Ok) (b a0 a1 a2 a3 : Nat) (ha : aY a0 a1 a2 a3) (w : World) (hk : KIs w b F) :
  Calls prog 119 #[.pointer (some ⟨b,0,none⟩),.agg #[.int .u64 a0,.int .u64 a1,.int .u64 a2,.int .u64 a3]] w fun e w' => e = .returned (.bool (oY (aA a0 a1 a2 a3) F.M)) ∧ Below w.heap.size w w':=by
 obtain ⟨d0,c0,d1,c1,d2,c2,d3,c3,r0,r1,r2,r3,hd,hc,e⟩:=CO ha hF.okm;have HB:=Lib.hid (aAb (aZ hd) hc e.out (aZ hF.okm) (aZ ha));have hL:=hk.lt;have hL' : b ≠ w.heap.size:=by omega
 have k0:=hk.k0; have k1:=hk.k1; have k2:=hk.k2; have k3:=hk.k3;clear hk hF e
 go_enter func119,ntmps119
 go_wp2_with fail
 go_quiet (fail)
 go_wp2_with fail
 go_quiet (fail)
 go_wp2_with fail
 go_quiet (fail)
 go_wp2_with fail
 go_quiet (fail)
 go_wp2_with fail;go_ret;exact ⟨uS HB.out,by repeat (first | exact Below.refl _ _ | refine Below.drew ?_ | exact aH _ _ _ | refine Below.alloc ?_ (by first | (simp; done) | (simp; omega)) _ | refine Below.trans ?_ (aH _ _ _))⟩
set_option maxHeartbeats 1000000 in
theorem uZ (F : FC) (hF : F.Ok) (b a0 a1 a2 a3 b0 b1 b2 b3 : Nat) (ha : aY a0 a1 a2 a3) (hb : aY b0 b1 b2 b3) (la : aA a0 a1 a2 a3 < F.M) (lb : aA b0 b1 b2 b3 < F.M) (w : World) (hk : KIs w b F) :
  Calls prog 125 #[.pointer (some ⟨b,0,none⟩),.agg #[.int .u64 a0,.int .u64 a1,.int .u64 a2,.int .u64 a3],.agg #[.int .u64 b0,.int .u64 b1,.int .u64 b2,.int .u64 b3]] w (cW ((aA a0 a1 a2 a3 + aA b0 b1 b2 b3) % F.M) w):=by
 obtain ⟨d0,c0,d1,c1,d2,c2,d3,c3,r0,r1,r2,r3,hd,hc,e⟩:=VI ha hb;have e' : aA d0 d1 d2 d3 = aA a0 a1 a2 a3 + aA b0 b1 b2 b3:=by have:=e.out; have:=hF.two; omega
 rw [← e'];have hlt : aA d0 d1 d2 d3 < 2 * F.M:=by omega
 have HK:=Lib.hid hk;have hL:=hk.lt;clear e e' hk
 go_enter func125,ntmps125
 go_wp2_with fail;refine (vC F hF b d0 d1 d2 d3 hd hlt _ (HK.out.same ?_)).mono ?_
 ·repeat (first | exact Below.refl _ _ | refine Below.drew ?_ | refine Below.alloc ?_ (by first | (simp; done) | (simp; omega)) _)
 rintro e w1 ⟨s0,s1,s2,s3,rfl,hs,hv,hbl⟩
 have HV:=Lib.hid hv;obtain ⟨hc,hf⟩:=sG hbl;have hz : w.heap.size + 1 + 1 < w1.heap.size:=by have:=hbl.size; simp at this; omega
 have HBL:=Lib.hid hbl;clear hv hbl;go_wp2_with fail;refine bodyPost_ret (v:=.agg #[.int .u64 s0,.int .u64 s1,.int .u64 s2,.int .u64 s3]) (by simp [results,results125,go_sem, *]) rfl ?_;refine ⟨_,_,_,_,rfl,hs,HV.out,?_⟩;refine aK (Below.trans ?_ (HBL.out.mono (by simp; omega))) (by omega) _ _ _ _
 repeat (first | exact Below.refl _ _ | refine Below.drew ?_ | refine Below.alloc ?_ (by first | (simp; done) | (simp; omega)) _)
theorem Am {A B D M c : Nat} (ha : A < M) (hb : B < M) (e : D + B = A + 115792089237316195423570985008687907853269984665640564039457584007913129639936 * c) (hc : c ≤ 1) (hD : D < 115792089237316195423570985008687907853269984665640564039457584007913129639936) (hM : 2 * M < 115792089237316195423570985008687907853269984665640564039457584007913129639936) :
  (c = 0 → D = (A + M - B) % M) ∧ (c = 1 → ∀ E c',E + 115792089237316195423570985008687907853269984665640564039457584007913129639936 * c' = D + M → c' ≤ 1 → E < 115792089237316195423570985008687907853269984665640564039457584007913129639936 → E = (A + M - B) % M):=by
 refine ⟨fun h => ?_,fun h E c' e' hc' hE => ?_⟩
 ·subst h;rw [show A + M - B = (A - B) + M by omega,Nat.add_mod_right,Nat.mod_eq_of_lt (by omega)]; omega
 ·subst h;have : c' = 0 ∨ c' = 1:=by omega
  rw [Nat.mod_eq_of_lt (by omega)]; omega
set_option maxHeartbeats 1000000 in
theorem jD (F : FC) (hF : F.Ok) (b a0 a1 a2 a3 b0 b1 b2 b3 : Nat) (ha : aY a0 a1 a2 a3) (hb : aY b0 b1 b2 b3) (la : aA a0 a1 a2 a3 < F.M) (lb : aA b0 b1 b2 b3 < F.M) (w : World) (hk : KIs w b F) :
  Calls prog 128 #[.pointer (some ⟨b,0,none⟩),.agg #[.int .u64 a0,.int .u64 a1,.int .u64 a2,.int .u64 a3],.agg #[.int .u64 b0,.int .u64 b1,.int .u64 b2,.int .u64 b3]] w (cW ((aA a0 a1 a2 a3 + F.M - aA b0 b1 b2 b3) % F.M) w):=by
 obtain ⟨d0,c0,d1,c1,d2,c2,d3,c3,r0,r1,r2,r3,hd,hc,e⟩:=CO ha hb;have hv:=Am la lb e.out hc (aZ hd) hF.two;have hL:=hk.lt;have hL1 : b < w.heap.size + 1:=by omega
 have hL2 : b < w.heap.size + 1 + 1:=by omega
 have k0:=hk.k0; have k1:=hk.k1; have k2:=hk.k2; have k3:=hk.k3;have HM:=Lib.hid (show F.M = aA F.m0 F.m1 F.m2 F.m3 from rfl);clear la lb e hk;have hc' : c3 = 0 ∨ c3 = 1:=by omega
 rcases hc' with rfl | rfl
 ·have HV:=Lib.hid (hv.1 rfl);clear hv hF
  go_enter func128,ntmps128
  go_wp2_with fail;refine bodyPost_ret (v:=.agg #[.int .u64 d0,.int .u64 d1,.int .u64 d2,.int .u64 d3]) (by simp [results,results128,go_sem]) rfl ?_;refine ⟨_,_,_,_,rfl,hd,HV.out,?_⟩
  repeat (first | exact Below.refl _ _ | refine Below.drew ?_ | refine Below.alloc ?_ (by first | (simp; done) | (simp; omega)) _ | refine Below.setCell ?_ (by simp) _)
 ·obtain ⟨n0,g0,n1,g1,n2,g2,n3,g3,q0,q1,q2,q3,hn,hg,f⟩:=VI hd hF.okm;have HV:=Lib.hid (hv.2 rfl _ _ (by rw [HM.out]; exact f.out) hg (aZ hn));clear hv f hF
  go_enter func128,ntmps128
  go_wp2_with fail;refine bodyPost_ret (v:=.agg #[.int .u64 n0,.int .u64 n1,.int .u64 n2,.int .u64 n3]) (by simp [results,results128,go_sem]) rfl ?_;refine ⟨_,_,_,_,rfl,hn,HV.out,?_⟩
  repeat (first | exact Below.refl _ _ | refine Below.drew ?_ | refine Below.alloc ?_ (by first | (simp; done) | (simp; omega)) _ | refine Below.setCell ?_ (by simp) _)
end Go.Proofs.YtfnkbmlmgnadmaaGreat
