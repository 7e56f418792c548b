/- Eo07 -/
import Derived.Test.YtpjlhhpjpnacmaaGreatDoorEo06
import Derived.Test.YtpjlhhpjpnacmaaGreatDoorProg
set_option maxRecDepth 100000
set_option linter.unusedVariables false
set_option linter.unusedSimpArgs false
set_option linter.unnecessarySimpa false
noncomputable section
namespace Go.Proofs.YtpjlhhpjpnacmaaGreatDoor.Ex
open Go.Proofs.Tryz
open Go.RowKit
def Mr (P:Program) (T:Tab5) (base:Nat) (w:World):Prop:=∀f cs pre j r l,T f cs=some (pre,j,r,l)→bC pre→(∀args w,(callFunc f args).run P w=.ok (.enter f args) w) ∧
 ∀(args:List Value),cT w cs args→∀b o,args[j]?=some (.pointer (some ⟨b,o,none⟩))→(∀q,w.frozen? ⟨b,q,none⟩=false)→base≤b→Calls P f args.toArray w (fun e w'=>e=.returned r.den∧WrC w w' b∧w'.rangeAt b 0 (aA l))
theorem WJ {P:Program} {ld st:Nat→Option (List At)} {idx:Nat→Option Nat} {gen:Nat→Option Value} {T5:Tab5} {base:Nat} {w0:World} (h5:∀w',Below base w0 w'→Mr P T5 base w'):bO P (Xk P ld st idx gen T5) base w0 :=
 ⟨(aW P).1,fun w' hb=>⟨fun _ _ _ h=>h.elim,fun _ _ _ _ h=>(by cases h),fun _ _ _ _ h=>(by cases h),fun _ _ _ _ _ h=>(by cases h),fun f cs pre j r l hg hp=>h5 w' hb f cs pre j r l hg hp,fun _ _ _ _ _ _ _ h=>(by cases h)⟩⟩
def yY (f:Nat) (g:List CA→Option (List Prop×Nat×RV×List At)):Tab5:=jY.add f g
theorem GR {P:Program} {f:Nat} {fn:Func} {base:Nat} {w:World} (hf:P.funcs[f]?=some fn) (hn:(fn.name == "runtime.NumGoroutine")=false) (hb:fn.body.isNone=false) {g:List CA→Option (List Prop×Nat×RV×List At)}
  (h:∀cs pre j r l,g cs=some (pre,j,r,l)→bC pre→∀(args:List Value),cT w cs args→∀b o,args[j]?=some (.pointer (some ⟨b,o,none⟩))→(∀q,w.frozen? ⟨b,q,none⟩=false)→base≤b →
   Calls P f args.toArray w (fun e w'=>e=.returned r.den∧WrC w w' b∧w'.rangeAt b 0 (aA l))):Mr P (yY f g) base w:=by
 intro f' cs pre j r l hg hp;unfold yY Tab5.add at hg;cases hb':Nat.beq f' f<;>rw[hb']at hg
 ·cases hg
 ·cases Nat.eq_of_beq_eq_true hb';exact⟨bQ hf hn hb,h cs pre j r l hg hp⟩
def Ry (l0:List At) (v0:Value) (r:RV) (l1:List At):List CA→Option (List Prop×Nat×RV×List At)
 | [.p l 0,.v (.im v)]=>some ([l=l0,v=v0],0,r,l1)
 | _=>none
theorem UN {s t:St} {C v:Nat} (hs:s.ok) (hC:C<4611686018427387904) (hw:wP C s 0=some (v,t)) {base:Nat} {w:World} (hD:Dbj w) (hB:2<base):Mr prog (yY 221 (Ry s.row (iI C) (.one (.im (u6 v))) t.row)) base w :=
 GR func221 (by kernel_rfl) (by kernel_rfl) fun cs pre j r l hg hp args ha b o hj hz hle=>by
  unfold Ry at hg;split at hg
  ·cases hg;obtain⟨rfl,rfl,_⟩:=hp
   match args,ha with
   | [x,y],ha =>
    obtain⟨⟨b',rfl,h1,h2⟩,h3,_⟩:=ha;cases hj;have h3:y=iI C:=h3;subst h3;exact UO hs hC hw hD (Nat.lt_of_lt_of_le hB hle) ⟨h1,h2,hz⟩
   | [],ha=>exact ha.elim
   | [_],ha=>exact ha.2.elim
   | _::_::_::_,ha=>exact ha.2.2.elim
  ·cases hg
noncomputable abbrev coF:Func:=f215
def wC:Code:=(f215.body).getD .skip
def Ol:Code:=iR (iR (iR (cB wC)))
def wB:Code:=iR (iR (cB (cA (cB Ol))))
theorem Kx:wC=.seq (cA wC) (.block 0 (.loop (.block 1 (.seq (cA Ol) (.seq (.seq (cA (cA (cB Ol))) (.block 2 (.loop wB))) (cB (cB Ol))))))):=by kernel_rfl
theorem aDh:coF.ntmps=21:=by kernel_rfl
def rC (a b c d:Nat):List At:=[.c (u6 a),.c (u6 b),.c (u6 c),.c (u6 d)]
def zC:List At:=[.f ⟨0,dC⟩]
def cP0 (N sb:Nat) (s:St):List Fact:=[.slot 0 (.pt 0 0),.row 0 true s.row,.at 0 sb,.at 21 N,.slot 2 (.pt 2 0),.row 2 true zC]
def cP1 (N sb:Nat) (s:St) (r:List At):List Fact:=[.slot 0 (.pt 0 0),.row 0 true s.row,.at 0 sb,.at 21 N,.slot 2 (.pt 2 0),.row 2 true zC,.slot 3 (.pt 3 0),.row 3 true r]
def GW (N sb:Nat) (s:St) (r:List At) (i:Nat):List Fact:=.slot 8 (.im (iI i))::cP1 N sb s r
def qC (idx:Nat→Option Nat) (ld st:Nat→Option (List At)) (T5:Tab5):EqT:=Xk prog ld st idx (fun _=>none) T5
def Db (s t:St) (C v:Nat):Tab5:=yY 221 (Ry s.row (iI C) (.one (.im (u6 v))) t.row)
theorem aDc (N sb:Nat) (s:St):aX prog (qC (fun _=>none) (fun _=>none) (fun _=>none) jY) 21 (fun _=>tC T0 fun _=>none) 60 (cA wC) (MD 21 sb N 0 s.row []) (cP0 N sb s)=some ([],.nrm,cP0 N sb s):=by kernel_rfl
theorem aDb (N sb v:Nat) (s t:St):aX prog (qC (fun _=>none) (assoc [(7,rC 0 0 0 v)]) (fun _=>none) (Db s t 62 v)) 21 (fun _=>tC T0 fun _=>none) 60 (cA Ol) (cP0 N sb s) (cP1 N sb t (rC 0 0 0 v))=some ([s.row=s.row,iI 62=iI 62,aA (rC 0 0 0 v)=aA (rC 0 0 0 v)],.nrm,cP1 N sb t (rC 0 0 0 v)):=by kernel_rfl
theorem aDa (N sb:Nat) (s:St) (r:List At):aX prog (qC (fun _=>none) (fun _=>none) (fun _=>none) jY) 21 (fun _=>tC T0 fun _=>none) 60 (cA (cA (cB Ol))) (cP1 N sb s r) (GW N sb s r 0)=some ([],.nrm,GW N sb s r 0):=by kernel_rfl
theorem aDf (N sb v a b c d:Nat) (s t:St):aX prog (qC (fun _=>none) (fun _=>none) (fun _=>none) (Db s t 64 v)) 21 (fun _=>tC T0 fun _=>none) 60 wB (GW N sb s (rC a b c d) 0) (GW N sb t (rC a b v d) 1)=some ([s.row=s.row,iI 64=iI 64],.nrm,GW N sb t (rC a b v d) 1):=by kernel_rfl
theorem aDe (N sb v a b c d:Nat) (s t:St):aX prog (qC (fun _=>none) (fun _=>none) (fun _=>none) (Db s t 64 v)) 21 (fun _=>tC T0 fun _=>none) 60 wB (GW N sb s (rC a b c d) 1) (GW N sb t (rC a v c d) 2)=some ([s.row=s.row,iI 64=iI 64],.nrm,GW N sb t (rC a v c d) 2):=by kernel_rfl
theorem aDd (N sb v a b c d:Nat) (s t:St):aX prog (qC (fun _=>none) (fun _=>none) (fun _=>none) (Db s t 64 v)) 21 (fun _=>tC T0 fun _=>none) 60 wB (GW N sb s (rC a b c d) 2) (GW N sb t (rC v b c d) 3)=some ([s.row=s.row,iI 64=iI 64],.nrm,GW N sb t (rC v b c d) 3):=by kernel_rfl
theorem aHc (N sb:Nat) (s:St) (r:List At):aX prog (qC (fun _=>none) (fun _=>none) (fun _=>none) jY) 21 (fun _=>tC T0 fun _=>none) 60 wB (GW N sb s r 3) (GW N sb s r 3)=some ([],.ex 2,GW N sb s r 3):=by kernel_rfl
def gBl (x:Nat) (z:Bool):gL
 | [.s l 1 1]=>some ([aA l=aA [At.q x],x<aH,decide (x<RM)=z],.one (.im (.bool z)))
 | _=>none
def Xb (x:Nat) (z:Bool):Tab:=T0.add 118 (gBl x z)
theorem aDg (N sb a b c d x:Nat) (s:St):aX prog (qC (fun _=>none) (fun _=>none) (fun _=>none) jY) 21 (fun _=>tC (Xb x true) fun _=>none) 60 (cB (cB Ol)) (GW N sb s (rC a b c d) 3) [.slot 2 (.pt 2 0),.row 2 true (rC a b c d),.row 0 true s.row,.at 0 sb,.at 21 N]=some ([aA (rC a b c d)=aA [At.q x],x<aH,decide (x<RM)=true],.rt,[.slot 2 (.pt 2 0),.row 2 true (rC a b c d),.row 0 true s.row,.at 0 sb,.at 21 N]):=by kernel_rfl
theorem aDi (N sb a b c d x:Nat) (s:St):aX prog (qC (fun _=>none) (fun _=>none) (fun _=>none) jY) 21 (fun _=>tC (Xb x false) fun _=>none) 60 (cB (cB Ol)) (GW N sb s (rC a b c d) 3) (cP0 N sb s)=some ([aA (rC a b c d)=aA [At.q x],x<aH,decide (x<RM)=false],.nrm,cP0 N sb s):=by kernel_rfl
theorem Ui {w:World} (x:Nat) (z:Bool):∀cs pre r,gBl x z cs=some (pre,r)→bC pre→∀(args:List Value),cT w cs args→bM prog 118 r args w:=by
 intro cs pre r hg hp args ha;unfold gBl at hg;split at hg
 ·rename_i l;cases hg;obtain⟨h1,h2,h3,_⟩:=hp
  match args,ha with
  | [v],ha =>
   have hv:LV w v 1 (fun _=>x):=LV.ofS (N:=1) (f:=fun _=>x) ha.1 h1 rfl (Nat.le_refl _) (fun _ _=>h2);have:=yS hv (by decide);have e:decide (oI 1 fun _=>x)=z:=by
    rw[←h3];have:oI 1 (fun _=>x)↔x<RM:=⟨fun h=>h 0 (by decide),fun h _ _=>h⟩;exact decide_eq_decide.2 this
   rw[e]at this;exact this
  | [],ha=>exact ha.elim
  | _::_::_,ha=>exact ha.2.elim
 ·cases hg
theorem PG (x:Nat) (z:Bool) {base:Nat} {w0:World}:TabOkW prog (Xb x z) base w0 :=
 TabOkW.add ((bU _).w _ _) func118 (by kernel_rfl) (by kernel_rfl) (fun w _=>Ui x z)
theorem aFx {a b c d:Nat} (h:cC a b c d):aA (rC a b c d)=aA [At.q (aC a b c d)]∧aC a b c d<aH:=by
 have hx:aC a b c d<aH:=by
  obtain⟨h1,h2,h3,h4⟩:=h;unfold aC;show _<115792089237316195423570985008687907853269984665640564039457584007913129639936;omega
 obtain⟨e0,e1,e2,e3⟩:=jF h hx rfl;refine⟨?_,hx⟩;show [u6 a,u6 b,u6 c,u6 d]=w4 (aC a b c d)++[];unfold w4;rw[←e0,←e1,←e2,←e3];rfl
theorem Bl {n x:Nat} {s t:St} (hs:s.ok) (hc:xG n s=some (x,t)) {w0:World} {sb:Nat} (hD:Dbj w0) (hg:2<sb) (hO:Own w0 sb s.row) :
  t.ok∧x<RM∧Calls prog 215 (ptV sb 0::[]).toArray w0 (Wr sb w0 (.one (.fl [.q x])) t.row):=by
 have hcs:t.ok∧x<RM:=by
  clear hD hg hO
  induction n generalizing s with
  | zero=>cases hc
  | succ n ih =>
   unfold xG at hc;split at hc
   ·rename_i y u hu;obtain⟨a,b,c,d,s1,s2,s3,h1,h2,h3,h4,rfl⟩:=sQ hu;have k1:=fP _ hs (by decide) h1;have k2:=fP _ k1.1 (by decide) h2;have k3:=fP _ k2.1 (by decide) h3;have k4:=fP _ k3.1 (by decide) h4;cases hb:Nat.blt (aC a b c d) RM<;>rw[hb]at hc
    ·exact ih k4.1 hc
    ·cases hc;exact⟨k4.1,by simpa using hb⟩
   ·cases hc
 refine⟨hcs.1,hcs.2,?_⟩;have hT:∀n d:Nat,TabOkW prog T0 sb w0:=fun _ _=>(bU _).w _ _
 have hq:∀idx ld st,bO prog (qC idx ld st jY) sb w0:=fun _ _ _=>mG (jJ _) _ _
 have hqw:∀{s t:St} {C v:Nat} idx ld st,s.ok→C<4611686018427387904→wP C s 0=some (v,t)→bO prog (qC idx ld st (Db s t C v)) sb w0:=fun _ _ _ h1 h2 h3=>WJ fun w' hb=>UN h1 h2 h3 (hD.on hg hb) hg
 have hnt:f215.ntmps=21:=aDh;refine sP (ts:=[]) func215 (c:=wC) rfl hO (Nat.le_of_ble_eq_true (by kernel_rfl)) fun a w hA => ?_
 rw[hnt]at hA;rw[Kx];refine wp_seq (aB aI hT (hq _ _ _) (aDc w0.heap.size sb s) trivial hA fun a1 v1 hA1 => ?_);refine wp_block ?_;refine dS (n:=n) ?_;clear hO hA a w
 induction n generalizing s a1 v1 with
 | zero=>cases hc
 | succ n ih =>
  unfold xG at hc;split at hc
  ·rename_i y u hu;obtain⟨w0',w1',w2',w3',s1,s2,s3,h1,h2,h3,h4,rfl⟩:=sQ hu;have k1:=fP _ hs (by decide) h1;have k2:=fP _ k1.1 (by decide) h2;have k3:=fP _ k2.1 (by decide) h3;have k4:=fP _ k3.1 (by decide) h4;obtain⟨hfl,hlt⟩:=aFx (a:=w0') (b:=w1') (c:=w2') (d:=w3') ⟨k4.2,k3.2,k2.2,k1.2⟩;unfold Un;refine wp_block ?_;refine wp_seq (aB aI hT (hqw _ _ _ hs (by decide) h1) (aDb w0.heap.size sb w3' s s1) ⟨rfl,rfl,rfl,trivial⟩ hA1 fun a w hA => ?_);refine wp_seq (wp_seq (aB aI hT (hq _ _ _) (aDa w0.heap.size sb s1 _) trivial hA fun a w hA => ?_));refine wp_block (dS (n:=4) ?_);unfold Un;refine aB aI hT (hqw _ _ _ k1.1 (by decide) h2) (aDf w0.heap.size sb w2' 0 0 0 w3' s1 s2) ⟨rfl,rfl,trivial⟩ hA fun a w hA => ?_
   simp only[EA.out,Exit.then];unfold Un;refine aB aI hT (hqw _ _ _ k2.1 (by decide) h3) (aDe w0.heap.size sb w1' 0 0 w2' w3' s2 s3) ⟨rfl,rfl,trivial⟩ hA fun a w hA => ?_
   simp only[EA.out,Exit.then];unfold Un;refine aB aI hT (hqw _ _ _ k3.1 (by decide) h4) (aDd w0.heap.size sb w0' 0 w1' w2' w3' s3 u) ⟨rfl,rfl,trivial⟩ hA fun a w hA => ?_
   simp only[EA.out,Exit.then];unfold Un;refine aB aI hT (hq _ _ _) (aHc w0.heap.size sb u (rC w0' w1' w2' w3')) trivial hA fun a w hA => ?_
   simp only[EA.out,Exit.then,Exit.inBlock,if_true];cases hb:Nat.blt (aC w0' w1' w2' w3') RM<;>rw[hb]at hc
   ·have hnb:¬aC w0' w1' w2' w3'<RM:=fun h=>by
     have:Nat.blt (aC w0' w1' w2' w3') RM=true:=by simpa using h
     rw[hb]at this; cases this
    refine aB aI (fun _ _=>PG _ _) (hq _ _ _) (aDi w0.heap.size sb w0' w1' w2' w3' (aC w0' w1' w2' w3') u) ⟨hfl,hlt,decide_eq_false hnb,trivial⟩ hA fun a w hA => ?_
    simp only[EA.out,Exit.then,Exit.inBlock];exact ih k4.1 hc _ _ hA
   ·cases hc;have hyb:aC w0' w1' w2' w3'<RM:=by simpa using hb
    refine aB aI (fun _ _=>PG _ _) (hq _ _ _) (aDg w0.heap.size sb w0' w1' w2' w3' (aC w0' w1' w2' w3') t) ⟨hfl,hlt,decide_eq_true hyb,trivial⟩ hA fun a w hA => ?_
    simp only[EA.out,Exit.then,Exit.inBlock];refine cK (l:=[.fl (rC w0' w1' w2' w3')]) (r:=.one (.fl (rC w0' w1' w2' w3'))) (by kernel_rfl) (by kernel_rfl) hA ⟨?_,hA.wrc (by simp) (by simp) (by simp)⟩;show Ending.returned (.agg (aA (rC w0' w1' w2' w3')).toArray)=Ending.returned (.agg (aA [At.q _]).toArray);rw[hfl]
  ·cases hc
theorem ZM (n:Int):bits .and .i64 n 1=n%2:=by
 have h1:(BitVec.ofInt 64 1).toNat=2^1-1:=by decide
 have key:(BitVec.ofInt 64 n &&& BitVec.ofInt 64 1).toNat=(n%((2^64:Nat):Int)).toNat%2^1:=by
  rw[BitVec.toNat_and,BitVec.toNat_ofInt,h1,Nat.and_two_pow_sub_one_eq_mod]
 show IntKind.i64.wrap ((BitVec.ofInt 64 n &&& BitVec.ofInt 64 1).toNat:Nat)=n%2;rw[key,IntKind.wrap_i64];omega
theorem Ff (t:Nat) (x y:Operand) (a:Nat):gK .and t x y (iI a) (iI 1) (iI (a%2)):=fun w=>by
 have h:=ZM (a:Int);simp[eqGuard,binOp,go_sem,iI,h]
theorem Ql (t:Nat) (x y:Operand) {a k:Nat} (ha:a<4611686018427387904) (hk:k≤62):gK .shr t x y (iI a) (iI k) (iI (a/2^k)):=fun w=>by
 have h:IntKind.i64.wrap ((a/2^k:Nat):Int)=((a/2^k:Nat):Int):=jU (Nat.lt_of_le_of_lt (Nat.div_le_self _ _) (by omega));simp[eqGuard,binOp,go_sem,iI,Nat.min_eq_left (show k≤64 by omega)]
theorem RQ {P:Program} {w:World} {R:Ending→World→Prop} {f:FuncId} {fn:Func} (hf:P.funcs[f]?=some fn) {c:Code} (hb:fn.body=some c) {b2 b3:Nat} {l2 l3:List At} {v0 v1:Value} (h2:Own w b2 l2) (h3:Own w b3 l3) (hlt:b2<b3) (hn:4≤fn.ntmps)
  (h:∀a w',Holds fn.ntmps b2 w [.slot 0 (.im v0),.slot 1 (.im v1),.slot 2 (.pt 2 0),.row 2 true l2,.slot 3 (.pt 3 0),.row 3 true l3,.at 2 b2,.at 3 b3,.at fn.ntmps (b2+1)] a w'→c.wp P (bodyPost P fn R) a w'):Calls P f [v0,v1,ptV b2 0,ptV b3 0].toArray w R:=by
 refine calls_of_wp hf hb (h _ _ ?_);have hg:∀j u,[v0,v1,ptV b2 0,ptV b3 0][j]?=some u→([v0,v1,ptV b2 0,ptV b3 0].toArray++Array.replicate (fn.ntmps-[v0,v1,ptV b2 0,ptV b3 0].toArray.size) undef)[j]?=some u:=fun j u hj=>by
  have hlt:=(List.getElem?_eq_some_iff.1 hj).1;rw[Array.getElem?_append_left (by simpa using hlt)];simpa using hj
 have z2:(fun k=>if k=fn.ntmps then ((b2+1,0,0):Bk)else if k=3 then (b3,0,0)else (b2,0,0)) 2=(b2,0,0):=by
  show (if 2=fn.ntmps then _ else _)=_;rw[if_neg (by omega),if_neg (by decide)]
 have z3:(fun k=>if k=fn.ntmps then ((b2+1,0,0):Bk)else if k=3 then (b3,0,0)else (b2,0,0)) 3=(b3,0,0):=by
  show (if 3=fn.ntmps then _ else _)=_;rw[if_neg (by omega),if_pos rfl]
 have zn:(fun k=>if k=fn.ntmps then ((b2+1,0,0):Bk)else if k=3 then (b3,0,0)else (b2,0,0)) fn.ntmps=(b2+1,0,0):=if_pos rfl;generalize (fun k=>if k=fn.ntmps then ((b2+1,0,0):Bk)else if k=3 then (b3,0,0)else (b2,0,0))=β at z2 z3 zn;have hrow:∀k o l,Fact.row k o l∈([.slot 0 (.im v0),.slot 1 (.im v1),.slot 2 (.pt 2 0),.row 2 true l2,.slot 3 (.pt 3 0),.row 3 true l3,.at 2 b2,.at 3 b3,.at fn.ntmps (b2+1)]:List Fact)→k=2∨k=3:=fun k o l h=>by
  simp only[List.mem_cons,reduceCtorEq,Fact.row.injEq,false_or,List.not_mem_nil,or_false]at h
  rcases h with h|h
  ·exact Or.inl h.1
  ·exact Or.inr h.1
 refine⟨rfl,by simp; omega,Below.refl _ _,Nat.le_of_lt h2.lt,β,fun φ hφ => ?_,fun k k' o' l1 l2 e1 e2 hne => ?_,fun k l1 e1 => ?_,by rw[zn]; exact h2.lt,fun p q1 q2=>(by rw[zn]at q2; simp only at q2; omega),Shape.refl _⟩
 ·simp only[List.mem_cons,List.not_mem_nil,or_false]at hφ
  rcases hφ with rfl|rfl|rfl|rfl|rfl|rfl|rfl|rfl|rfl
  ·exact hg 0 _ rfl
  ·exact hg 1 _ rfl
  ·refine (hg 2 _ rfl).trans ?_;simp[AV.den,z2,ptV]
  ·refine⟨?_,?_,fun _=>⟨?_,?_,?_⟩,fun h=>by cases h⟩<;>rw[z2]
   ·exact h2.lt
   ·exact h2.row
   ·exact Nat.le_refl _
   ·exact h2.free
  ·refine (hg 3 _ rfl).trans ?_;simp[AV.den,z3,ptV]
  ·refine⟨?_,?_,fun _=>⟨?_,?_,?_⟩,fun h=>by cases h⟩<;>rw[z3]
   ·exact h3.lt
   ·exact h3.row
   ·exact Nat.le_of_lt hlt
   ·exact h3.free
  ·exact⟨by rw[z2],by rw[z2]⟩
  ·exact⟨by rw[z3],by rw[z3]⟩
  ·exact⟨by rw[zn],by rw[zn]⟩
 ·rcases hrow _ _ _ e1 with rfl|rfl<;>rcases hrow _ _ _ e2 with rfl|rfl
  ·exact (hne rfl).elim
  ·rw[z2,z3]; simp only; omega
  ·rw[z2,z3]; simp only; omega
  ·exact (hne rfl).elim
 ·rcases hrow _ _ _ e1 with rfl|rfl
  ·rw[z2]; exact Or.inl rfl
  ·rw[z3,zn]; exact Or.inr hlt
theorem Holds.own {nt base:Nat} {w0:World} {A:List Fact} {a:Act} {w:World} (h:Holds nt base w0 A a w) {k b:Nat} {l:List At} (h1:Fact.row k true l∈A) (h2:Fact.at k b∈A):Own w b l:=by
 obtain⟨β,g1,_⟩:=h.facts;obtain⟨e1,e2,e3,_⟩:=g1 _ h1;obtain⟨_,e5,e6⟩:=e3 rfl;have e7:=g1 _ h2;simp only[Fact.ok]at e7;rw[e5,e7.1]at e2;exact⟨by rw[←e7.1]; exact e1,e2,fun j=>by rw[←e7.1]; exact e6 j⟩
noncomputable abbrev laF:Func:=f219
def vB:Code:=(f219.body).getD .skip
def vA:Code:=iR (iR (cB vB))
theorem Ia:vB=.seq (cA vB) (.block 0 (.loop vA)):=by kernel_rfl
theorem aBc:laF.ntmps=33:=by kernel_rfl
def lA (n c p b2 b3:Nat) (s:St):List Fact:=[.slot 0 (.im (iI n)),.slot 1 (.im (iI c)),.slot 2 (.pt 2 0),.row 2 true s.row,.slot 3 (.pt 3 0),.row 3 true [.c (iI p)],.at 2 b2,.at 3 b3,.at 33 (b2+1)]
def lF (n c i p b2 b3:Nat) (s:St):List Fact:=.slot 7 (.im (iI c)) :: .slot 8 (.im (iI i))::lA n c p b2 b3 s
def YV (c i p:Nat) (z:Bool):Nat→Option Value:=assoc [(9,.bool z),(12,iI (p/64)),(18,iI (c-1)),(20,iI (c-1-i)),(25,iI (p%64)),(31,iI (p+1)),(32,iI (i+1))]
def Nu (n c i p x:Nat):Nat→Option Value:=assoc [(21,iI (n/2^(c-1-i))),(22,iI (EU n c i)),(23,u6 (EU n c i)),(26,u6 (qN n c i p)),(27,u6 (x ||| qN n c i p))]
def qL (idx:Nat→Option Nat) (gen:Nat→Option Value):EqT:=Xk prog (fun _=>none) (fun _=>none) idx gen jY
theorem aAZ (n c p b2 b3:Nat) (s:St):aX prog (qL (fun _=>none) (fun _=>none)) 33 (fun _=>tC T0 fun _=>none) 60 (cA vB) (lA n c p b2 b3 s) (lF n c 0 p b2 b3 s)=some ([],.nrm,lF n c 0 p b2 b3 s):=by kernel_rfl
theorem aFW (n c i p b2 b3:Nat) (s:St):aX prog (qL (fun _=>none) (fun _=>none)) 33 (fun _=>tC T0 (YV c i p false)) 60 vA (lF n c i p b2 b3 s) (lF n c i p b2 b3 s)=some ([aJ .lss .i64 (Int.ofNat i) (Int.ofNat c)=some (.bool false)],.ex 0,lF n c i p b2 b3 s):=by kernel_rfl
def laC (n c i p x j:Nat):List Prop:=[aJ .lss .i64 (Int.ofNat i) (Int.ofNat c)=some (.bool true),aJ .quo .i64 (Int.ofNat p) 64=some (iI (p/64)),Int.ofNat (p/64)=Int.ofNat j,j<2,aJ .sub .i64 (Int.ofNat c) 1=some (iI (c-1)),aJ .sub .i64 (Int.ofNat (c-1)) (Int.ofNat i)=some (iI (c-1-i)),gK .shr 3 (.tmp 16) (.tmp 20) (iI n) (iI (c-1-i)) (iI (n/2^(c-1-i))),gK .and 3 (.tmp 21) (.const (iI 1)) (iI (n/2^(c-1-i))) (iI 1) (iI (EU n c i)),∀w:World,(convert 3 22 (iI (EU n c i))).run prog w=.ok (u6 (EU n c i)) w,aJ .rem .i64 (Int.ofNat p) 64=some (iI (p%64)),gK .shl 22 (.tmp 23) (.tmp 25) (u6 (EU n c i)) (iI (p%64)) (u6 (qN n c i p)),gK .or 22 (.tmp 15) (.tmp 26) (u6 x) (u6 (qN n c i p)) (u6 (x ||| qN n c i p)),Int.ofNat (p/64)=Int.ofNat j,j<2,aJ .add .i64 (Int.ofNat p) 1=some (iI (p+1)),aJ .add .i64 (Int.ofNat i) 1=some (iI (i+1))]
theorem aBb (n c i p b2 b3 lo hi fr gv:Nat):aX prog (qL (assoc [(14,0),(29,0)]) (Nu n c i p lo)) 33 (fun _=>tC T0 (YV c i p true)) 60 vA (lF n c i p b2 b3 ⟨lo,hi,fr,gv⟩) (lF n c (i+1) (p+1) b2 b3 ⟨lo ||| qN n c i p,hi,fr,gv⟩)=some (laC n c i p lo 0,.nrm,lF n c (i+1) (p+1) b2 b3 ⟨lo ||| qN n c i p,hi,fr,gv⟩):=by kernel_rfl
theorem aBa (n c i p b2 b3 lo hi fr gv:Nat):aX prog (qL (assoc [(14,1),(29,1)]) (Nu n c i p hi)) 33 (fun _=>tC T0 (YV c i p true)) 60 vA (lF n c i p b2 b3 ⟨lo,hi,fr,gv⟩) (lF n c (i+1) (p+1) b2 b3 ⟨lo,hi ||| qN n c i p,fr,gv⟩)=some (laC n c i p hi 1,.nrm,lF n c (i+1) (p+1) b2 b3 ⟨lo,hi ||| qN n c i p,fr,gv⟩):=by kernel_rfl
theorem Hi {p:Nat} (h:p<128):aJ .quo .i64 (Int.ofNat p) 64=some (iI (p/64)):=by
 show (if (64:Int)=0 then none else some (Value.int .i64 (IntKind.i64.wrap ((p:Int).tdiv 64))))=_;rw[if_neg (by decide)];have h1:(p:Int).tdiv 64=((p/64:Nat):Int):=by rw[Int.tdiv_eq_ediv_of_nonneg (by omega)]; rfl
 rw[h1,jU (by omega)];rfl
theorem Hg {p:Nat}:aJ .rem .i64 (Int.ofNat p) 64=some (iI (p%64)):=by
 show (if (64:Int)=0 then none else some (Value.int .i64 ((p:Int).tmod 64)))=_;rw[if_neg (by decide)];have h1:(p:Int).tmod 64=((p%64:Nat):Int):=by rw[Int.tmod_eq_emod_of_nonneg (by omega)]; rfl
 rw[h1];rfl
theorem Hz (n c i:Nat):EU n c i<2:=Nat.mod_lt _ (by decide)
theorem YW {n c i p x:Nat} (hn:n<4611686018427387904) (hc:c≤62) (hi:i<c) (hp:p<128) (hx:x<eH):bC (laC n c i p x (p/64)):=by
 have h2:p/64<2:=by omega
 exact⟨eO hi,Hi hp,rfl,h2,mL (i:=c) (k:=1) (by omega) (by omega),mL (i:=c-1) (k:=i) (by omega) (by omega),Ql _ _ _ hn (by omega),Ff _ _ _ _,BE (by have:=Hz n c i; omega),Hg,VW _ _ _ _ (by omega),VX _ _ _ hx (AM _ _ _ _),rfl,h2,fU (k:=1) (by omega),fU (k:=1) (by omega),trivial⟩
theorem YU {n c p:Nat} {s:St} (hs:s.ok) (hn:n<4611686018427387904) (hc:c≤62) (hp:p+c≤128) {w0:World} {b2 b3:Nat} (h2:Own w0 b2 s.row) (h3:Own w0 b3 [.c (iI p)]) (hlt:b2<b3) :
  Calls prog 219 [iI n,iI c,ptV b2 0,ptV b3 0].toArray w0 fun e w'=>e=.returned (.tuple #[])∧Below b2 w0 w'∧Own w' b2 (sJ n c c 0 p s).row∧Own w' b3 [.c (iI (p+c))]∧Shape w0 w':=by
 have hT:∀n d:Nat,TabOkW prog T0 b2 w0:=fun _ _=>(bU _).w _ _
 have hq:∀idx gen,bO prog (qL idx gen) b2 w0:=fun _ _=>mG (jJ _) _ _
 have hnt:f219.ntmps=33:=aBc;refine RQ func219 (c:=vB) rfl h2 h3 hlt (Nat.le_of_ble_eq_true (by kernel_rfl)) fun a w hA => ?_
 rw[hnt]at hA;rw[Ia];refine wp_seq (aB aI hT (hq _ _) (aAZ n c p b2 b3 s) trivial hA fun a1 w1 hA1 => ?_);refine wp_block (dS (n:=c+1) ?_);have key:∀m i q (s:St) a w,i+m=c→q+m=p+c→s.ok→Holds 33 b2 w0 (lF n c i q b2 b3 s) a w→Un prog vA (Exit.inBlock 0 (bodyPost prog f219 fun e w'=>e=.returned (.tuple #[])∧Below b2 w0 w'∧Own w' b2 (sJ n c m i q s).row∧Own w' b3 [.c (iI (p+c))]∧Shape w0 w')) (m+1) a w:=by
  intro m
  induction m with
  | zero =>
   intro i q s a w hi hq' hs hA;unfold Un;refine aB aI hT (hq _ _) (aFW n c i q b2 b3 s) ⟨dD (by omega),trivial⟩ hA fun a w hA => ?_
   simp only[EA.out,Exit.then,Exit.inBlock,if_true];have hqe:q=p+c:=by omega
   subst hqe;exact⟨hA.defers,.tuple #[],by simp[results,show f219.results = #[] by kernel_rfl],rfl,hA.below,hA.own (k:=2) (by simp[lF,lA,sJ]) (by simp[lF,lA]),hA.own (k:=3) (by simp[lF,lA]) (by simp[lF,lA]),hA.shape⟩
  | succ m ih =>
   intro i q s a w hi hq' hs hA;have h1:=hs.lay1 n c i q;have key2:=ih (i+1) (q+1) (lay1 n c i q s);obtain⟨lo,hi',fr,gv⟩:=s;unfold Un
   by_cases e:q/64=0
   ·have hC:=YW (x:=lo) hn hc (i:=i) (by omega) (p:=q) (by omega) hs.lo;rw[e]at hC;refine aB aI hT (hq _ _) (aBb n c i q b2 b3 lo hi' fr gv) hC hA fun a w hA => ?_
    simp only[EA.out,Exit.then];have hl:lay1 n c i q ⟨lo,hi',fr,gv⟩=⟨lo ||| qN n c i q,hi',fr,gv⟩:=if_pos e;have:=key2 a w (by omega) (by omega) h1 (by rw[hl]; exact hA);exact this
   ·have hC:=YW (x:=hi') hn hc (i:=i) (by omega) (p:=q) (by omega) hs.hi;rw[show q/64=1 by omega]at hC;refine aB aI hT (hq _ _) (aBa n c i q b2 b3 lo hi' fr gv) hC hA fun a w hA => ?_
    simp only[EA.out,Exit.then];have hl:lay1 n c i q ⟨lo,hi',fr,gv⟩=⟨lo,hi' ||| qN n c i q,fr,gv⟩:=if_neg e;have:=key2 a w (by omega) (by omega) h1 (by rw[hl]; exact hA);exact this
 exact key c 0 p s a1 w1 (by omega) rfl hs hA1
theorem Own.wr {w w':World} {b c:Nat} {l:List At} (h:Own w b l) (hW:WrC w w' c) (hne:b≠c):Own w' b l :=
 ⟨Nat.lt_of_lt_of_le h.lt hW.below.size,fun j v hj=>((hW.mem ⟨b,0+j,none⟩ h.lt hne).1).trans (h.row j v hj),fun j=>((hW.mem ⟨b,j,none⟩ h.lt hne).2).trans (h.free j)⟩
theorem Own.eq {w:World} {b:Nat} {l l':List At} (h:Own w b l) (e:aA l=aA l'):Own w b l':=⟨h.lt,by rw[←e]; exact h.row,h.free⟩
theorem Own.below {w w':World} {b c:Nat} {l:List At} (h:Own w b l) (hb:Below c w w') (hlt:b<c):Own w' b l :=
 ⟨Nat.lt_of_lt_of_le h.lt hb.size,fun j v hj=>(hb.cell (p:=⟨b,0+j,none⟩) hlt).trans (h.row j v hj),fun j=>(hb.frozen (p:=⟨b,j,none⟩) hlt).trans (h.free j)⟩
theorem oldOf.below {w w':World} {b c o:Nat} {l:List At} (h:oldOf w b o l) (hb:Below c w w') (hlt:b<c):oldOf w' b o l :=
 ⟨Nat.lt_of_lt_of_le h.1 hb.size,fun j v hj=>(hb.cell (p:=⟨b,o+j,none⟩) hlt).trans (h.2 j v hj)⟩
theorem Holds.ptS {nt base:Nat} {w0:World} {A:List Fact} {a:Act} {w:World} (h:Holds nt base w0 A a w) {s k b o:Nat} (h1:Fact.slot s (.pt k o)∈A) (h2:Fact.at k b∈A):a.tmps[s]?=some (Go.Proofs.YtpjlhhpjpnacmaaGreatDoor.Ex.ptV b o):=by
 obtain⟨β,g1,_⟩:=h.facts;have e1:=g1 _ h1;have e2:=g1 _ h2;simp only[Fact.ok]at e1 e2;rw[e1];simp[AV.den,e2,Go.Proofs.YtpjlhhpjpnacmaaGreatDoor.Ex.ptV]
theorem Holds.geq {nt base:Nat} {w0:World} {A:List Fact} {a:Act} {w:World} (h:Holds nt base w0 A a w) {k b:Nat} {l:List At} (h1:Fact.row k true l∈A) (h2:Fact.at k b∈A):base≤b:=by
 obtain⟨β,g1,_⟩:=h.facts;obtain⟨_,_,e3,_⟩:=g1 _ h1;have e7:=g1 _ h2;simp only[Fact.ok]at e7;rw[←e7.1];exact (e3 rfl).1
def rR (wd fl pt:Nat):List At:=[.c (iI wd),.c (iI fl),.c (iI pt)]
def BR (sb pb:Nat):Value:=.func (.func 219) #[] #[ptV sb 0,ptV pb 0]
noncomputable abbrev bgF:Func:=f214
def BK:Code:=(f214.body).getD .skip
theorem aDT:bgF.ntmps=32:=by kernel_rfl
def nCB (c:Code):Nat→Code
 | 0=>c
 | n+1=>nCB (cB c) n
def mB (i:Nat):Code:=cA (nCB BK i)
def Wp:Code:=nCB BK 11
def LZ:Code:=iR (iR (cB (cA Wp)))
theorem Ma:BK=.seq (mB 0) (.seq (mB 1) (.seq (mB 2) (.seq (mB 3) (.seq (.region 4 (aD (mB 4)) false) (.seq (.region 5 (aD (mB 5)) false) (.seq (.region 6 (aD (mB 6)) false) (.seq (.region 7 (aD (mB 7)) false) (.seq (.region 8 (aD (mB 8)) false) (.seq (.region 9 (aD (mB 9)) false) (.seq (.region 10 (aD (mB 10)) false) (.seq (.seq (cA (cA Wp)) (.block 0 (.loop LZ))) (.seq (.region 15 (aD (cA (cB Wp))) false) .ret)))))))))))):=by kernel_rfl
def nD (b1 b2 sb pb:Nat):List Fact:=[.slot 1 (.im (ptV b1 0)),.slot 2 (.im (ptV b2 0)),.slot 3 (.im (ptV sb 0)),.slot 4 (.im (ptV pb 0)),.slot 5 (.im (BR sb pb))]
theorem aDS (wd fl pt:Nat):aX prog (qG prog) 32 (fun _=>tC T0 fun _=>none) 60 (mB 0) (fD 0 [.v (.fl (rR wd fl pt))]) [.slot 1 (.pt 1 0),.row 1 true (rR wd fl pt),.slot 2 (.pt 2 0),.row 2 true zC]=some ([],.nrm,[.slot 1 (.pt 1 0),.row 1 true (rR wd fl pt),.slot 2 (.pt 2 0),.row 2 true zC]):=by kernel_rfl
theorem aDR (b1 b2:Nat):aX prog (qG prog) 32 (fun _=>tC T0 fun _=>none) 60 (mB 1) [.slot 1 (.im (ptV b1 0)),.slot 2 (.im (ptV b2 0))] [.slot 1 (.im (ptV b1 0)),.slot 2 (.im (ptV b2 0)),.slot 3 (.pt 3 0),.row 3 true zC]=some ([],.nrm,[.slot 1 (.im (ptV b1 0)),.slot 2 (.im (ptV b2 0)),.slot 3 (.pt 3 0),.row 3 true zC]):=by kernel_rfl
theorem aDQ (b1 b2 sb:Nat):aX prog (qG prog) 32 (fun _=>tC T0 fun _=>none) 60 (mB 2) [.slot 1 (.im (ptV b1 0)),.slot 2 (.im (ptV b2 0)),.slot 3 (.im (ptV sb 0))] [.slot 1 (.im (ptV b1 0)),.slot 2 (.im (ptV b2 0)),.slot 3 (.im (ptV sb 0)),.slot 4 (.pt 4 0),.row 4 true [.c (iI 0)]]=some ([],.nrm,[.slot 1 (.im (ptV b1 0)),.slot 2 (.im (ptV b2 0)),.slot 3 (.im (ptV sb 0)),.slot 4 (.pt 4 0),.row 4 true [.c (iI 0)]]):=by kernel_rfl
theorem aDP (b1 b2 sb pb:Nat):aX prog (qG prog) 32 (fun _=>tC T0 fun _=>none) 60 (mB 3) [.slot 1 (.im (ptV b1 0)),.slot 2 (.im (ptV b2 0)),.slot 3 (.im (ptV sb 0)),.slot 4 (.im (ptV pb 0))] (nD b1 b2 sb pb)=some ([],.nrm,nD b1 b2 sb pb):=by kernel_rfl
theorem aDZ (b1 b2 sb pb:Nat):cO prog (qG prog) 32 (tC T0 fun _=>none) ((aD (mB 4)).extract 0 1) (nD b1 b2 sb pb) (.slot 7 (.im (BR sb pb))::nD b1 b2 sb pb)=some ([],.slot 7 (.im (BR sb pb))::nD b1 b2 sb pb):=by kernel_rfl
theorem aDY (b1 b2 sb pb:Nat):cO prog (qG prog) 32 (tC T0 fun _=>none) ((aD (mB 5)).extract 0 1) (nD b1 b2 sb pb) (.slot 9 (.im (BR sb pb))::nD b1 b2 sb pb)=some ([],.slot 9 (.im (BR sb pb))::nD b1 b2 sb pb):=by kernel_rfl
theorem aDX (b1 b2 sb pb:Nat):cO prog (qG prog) 32 (tC T0 fun _=>none) ((aD (mB 6)).extract 0 1) (nD b1 b2 sb pb) (.slot 11 (.im (BR sb pb))::nD b1 b2 sb pb)=some ([],.slot 11 (.im (BR sb pb))::nD b1 b2 sb pb):=by kernel_rfl
theorem Wo (b1 b2 sb pb:Nat):cO prog (qG prog) 32 (tC T0 fun _=>none) ((aD (mB 10)).extract 0 1) (nD b1 b2 sb pb) (.slot 25 (.im (BR sb pb))::nD b1 b2 sb pb)=some ([],.slot 25 (.im (BR sb pb))::nD b1 b2 sb pb):=by kernel_rfl
theorem aDW (w:World) (b1 b2 sb pb x:Nat):cO prog { qG prog with x:=xO w (fun _=>none) (fun _=>none) (assoc [(15,iI x)]) } 32 (tC T0 fun _=>none) ((aD (mB 7)).extract 0 3) (nD b1 b2 sb pb) (.slot 13 (.im (BR sb pb)) :: .slot 15 (.im (iI x))::nD b1 b2 sb pb)=some ([oldOf w b1 0 [.c (iI x)]],.slot 13 (.im (BR sb pb)) :: .slot 15 (.im (iI x))::nD b1 b2 sb pb):=by kernel_rfl
theorem aDV (w:World) (b1 b2 sb pb x:Nat):cO prog { qG prog with x:=xO w (fun _=>none) (fun _=>none) (assoc [(19,iI x)]) } 32 (tC T0 fun _=>none) ((aD (mB 8)).extract 0 3) (nD b1 b2 sb pb) (.slot 17 (.im (BR sb pb)) :: .slot 19 (.im (iI x))::nD b1 b2 sb pb)=some ([oldOf w b1 1 [.c (iI x)]],.slot 17 (.im (BR sb pb)) :: .slot 19 (.im (iI x))::nD b1 b2 sb pb):=by kernel_rfl
theorem aDU (w:World) (b1 b2 sb pb x:Nat):cO prog { qG prog with x:=xO w (fun _=>none) (fun _=>none) (assoc [(23,iI x)]) } 32 (tC T0 fun _=>none) ((aD (mB 9)).extract 0 3) (nD b1 b2 sb pb) (.slot 21 (.im (BR sb pb)) :: .slot 23 (.im (iI x))::nD b1 b2 sb pb)=some ([oldOf w b1 2 [.c (iI x)]],.slot 21 (.im (BR sb pb)) :: .slot 23 (.im (iI x))::nD b1 b2 sb pb):=by kernel_rfl
def Dp (N b1 b2 sb:Nat) (s:St):List Fact:=[.slot 3 (.pt 3 0),.row 3 true s.row,.at 3 sb,.at 32 N,.slot 1 (.im (ptV b1 0)),.slot 2 (.im (ptV b2 0))]
def GK (N b1 b2 sb i:Nat) (s:St):List Fact:=.slot 27 (.im (iI i))::Dp N b1 b2 sb s
theorem aEc (N b1 b2 sb:Nat) (s:St):aX prog (qW (fun _=>none) jY) 32 (fun _=>tC T0 fun _=>none) 60 (cA (cA Wp)) (Dp N b1 b2 sb s) (GK N b1 b2 sb 0 s)=some ([],.nrm,GK N b1 b2 sb 0 s):=by kernel_rfl
theorem aEb (N b1 b2 sb i:Nat) (s:St):aX prog (qW (fun _=>none) (Xe s)) 32 (fun _=>tC T0 (assoc [(28,.bool true),(30,iI (i+1))])) 60 LZ (GK N b1 b2 sb i s) (GK N b1 b2 sb (i+1) s.grow)=some ([aJ .lss .i64 (Int.ofNat i) 10=some (.bool true),s.row=s.row,0=0,aJ .add .i64 (Int.ofNat i) 1=some (iI (i+1))],.nrm,GK N b1 b2 sb (i+1) s.grow):=by kernel_rfl
theorem aEa (N b1 b2 sb i:Nat) (s:St):aX prog (qW (fun _=>none) jY) 32 (fun _=>tC T0 (assoc [(28,.bool false)])) 60 LZ (GK N b1 b2 sb i s) (GK N b1 b2 sb i s)=some ([aJ .lss .i64 (Int.ofNat i) 10=some (.bool false)],.ex 0,GK N b1 b2 sb i s):=by kernel_rfl
theorem aHf (w:World) (b1 b2 sb:Nat) (s:St):cO prog { qG prog with x:=xO w (fun _=>none) (assoc [(31,s.row)]) (fun _=>none) } 32 (tC T0 fun _=>none) ((aD (cA (cB Wp))).extract 0 1) [.slot 1 (.im (ptV b1 0)),.slot 2 (.im (ptV b2 0)),.slot 3 (.im (ptV sb 0))] [.slot 31 (.fl s.row),.slot 2 (.im (ptV b2 0))]=some ([oldOf w sb 0 s.row,dJ s.row=4],[.slot 31 (.fl s.row),.slot 2 (.im (ptV b2 0))]):=by kernel_rfl
structure BgS (r:List At) (B b1 b2 sb pb:Nat) (s:St) (p:Nat) (w0:World) (a:Act) (w:World):Prop where
 defers:a.defers=[]
 size:a.tmps.size=32
 t1:a.tmps[1]?=some (ptV b1 0)
 t2:a.tmps[2]?=some (ptV b2 0)
 t3:a.tmps[3]?=some (ptV sb 0)
 t4:a.tmps[4]?=some (ptV pb 0)
 t5:a.tmps[5]?=some (BR sb pb)
 own3:Own w sb s.row
 own4:Own w pb [.c (iI p)]
 box:oldOf w b1 0 r
 res:Own w b2 zC
 below:Below B w0 w
 l1:b1<sb
 l2:b2<sb
 l4:sb<pb
 lB:B≤b2
section
variable {r:List At} {B b1 b2 sb pb p:Nat} {s:St} {w0 w:World} {a:Act}
theorem BgS.holds (h:BgS r B b1 b2 sb pb s p w0 a w):Holds 32 w.heap.size w (nD b1 b2 sb pb) a w :=
 aP (ts:=[(1,ptV b1 0),(2,ptV b2 0),(3,ptV sb 0),(4,ptV pb 0),(5,BR sb pb)]) h.defers h.size fun x hx=>by
  simp only[List.mem_cons,List.not_mem_nil,or_false]at hx
  rcases hx with rfl|rfl|rfl|rfl|rfl
  ·exact h.t1
  ·exact h.t2
  ·exact h.t3
  ·exact h.t4
  ·exact h.t5
theorem BgS.up (h:BgS r B b1 b2 sb pb s p w0 a w) {A:List Fact} {a':Act} {w':World} (hA:Holds 32 w.heap.size w A a' w') (hs:∀φ∈nD b1 b2 sb pb,φ∈A):BgS r B b1 b2 sb pb s p w0 a' w' :=
 have hB:B≤w.heap.size:=Nat.le_of_lt (Nat.lt_of_le_of_lt h.lB h.res.lt)
 ⟨hA.defers,hA.size,hA.slot (hs _ (by simp[nD])),hA.slot (hs _ (by simp[nD])),hA.slot (hs _ (by simp[nD])),hA.slot (hs _ (by simp[nD])),hA.slot (hs _ (by simp[nD])),h.own3.on hA.below,h.own4.on hA.below,h.box.on hA.below,h.res.on hA.below,h.below.trans (hA.below.mono hB),h.l1,h.l2,h.l4,h.lB⟩
theorem BgS.call (h:BgS r B b1 b2 sb pb s p w0 a w) (hs:s.ok) {n c:Nat} (hn:n<4611686018427387904) (hc:c≤62) (hp:p+c≤128) {o:Oper} {d1 d2:Nat} {xs:Array Operand} {ts:Array TypeId} (ho:o.op=.call ⟨.value (.tmp d1),xs,ts⟩) (hx:a.tmps[d1]?=some (BR sb pb)) (hv:xs.map a.eval = #[iI n,iI c]) (hd:o.dst=some d2) (hd2:5<d2) {K:Act→World→Prop} {Q:Exit→Act→World→Prop}
  (hK:∀a' w',BgS r B b1 b2 sb pb (sJ n c c 0 p s) (p+c) w0 a' w'→K a' w'):o.wp prog a w K Q:=by
 refine BW (cap:=#[ptV sb 0,ptV pb 0]) (vs:=#[iI n,iI c]) ho (by rw[cL hx]; rfl) hv (fun args=>bQ func219 (by kernel_rfl) (by kernel_rfl) args _) (YU hs hn hc hp h.own3 h.own4 h.l4) ?_
 rintro e w' ⟨rfl,hb,h3,h4,BS⟩
 refine⟨_,rfl,?_⟩;rw[hd];have hp:∀(q:Nat) v,q≤5→a.tmps[q]?=some v→(a.put (some d2) (.tuple #[])).tmps[q]?=some v:=fun q v hq h=>aS h (by omega)
 exact hK _ _ ⟨h.defers,by rw[aF]; exact h.size,hp _ _ (by omega) h.t1,hp _ _ (by omega) h.t2,hp _ _ (by omega) h.t3,hp _ _ (by omega) h.t4,hp _ _ (by omega) h.t5,h3,h4,h.box.below hb h.l1,h.res.below hb h.l2,h.below.trans (hb.mono (Nat.le_of_lt (Nat.lt_of_le_of_lt h.lB h.l2))),h.l1,h.l2,h.l4,h.lB⟩
end
theorem Qg:(prog.info? 264).map (·.size)=some 4:=by kernel_rfl
theorem UH:aA zC=aA St0.row:=by kernel_rfl
theorem Ch {wd fl pt:Nat} (h1:wd<4611686018427387904) (h2:fl<4611686018427387904) (h3:pt<4611686018427387904) (w0:World):Calls prog 214 [.agg (aA (rR wd fl pt)).toArray].toArray w0 fun e w'=>e=.returned (.agg (aA (GX wd fl pt).row).toArray)∧Below w0.heap.size w0 w':=by
 have hT:∀base w,∀n d:Nat,TabOkW prog T0 base w:=fun _ _ _ _=>(bU _).w _ _
 have hT1:∀base w,∀d:Nat,TabOkW prog T0 base w:=fun _ _ _=>(bU _).w _ _
 have hG:∀base w,bO prog (qG prog) base w:=fun _ _=>(aW _).w _ _
 have hnt:f214.ntmps=32:=aDT;refine cH func214 (cs:=[.v (.fl (rR wd fl pt))]) (args:=[.agg (aA (rR wd fl pt)).toArray]) (c:=BK) rfl ⟨rfl,trivial⟩ (Nat.le_of_ble_eq_true (by kernel_rfl)) fun a w hA => ?_
 rw[hnt]at hA;rw[Ma];refine wp_seq (aB aI (hT _ _) (hG _ _) (aDS wd fl pt) trivial hA fun a w hA => ?_);obtain⟨b1,hA⟩:=hA.at (k:=1) (l:=rR wd fl pt) (by simp);obtain⟨b2,hA⟩:=hA.at (k:=2) (l:=zC) (by simp);have m1:oldOf w b1 0 (rR wd fl pt):=hA.old (k:=1) (by simp) (by simp);have m2:Own w b2 zC:=hA.own (k:=2) (by simp) (by simp);have hB2:w0.heap.size≤b2:=hA.geq (k:=2) (l:=zC) (by simp) (by simp);have hbl:=hA.below;have hs0:w0.heap.size≤w.heap.size:=hbl.size;have hS:=aP (nt:=32) (w:=w) (a:=a) (ts:=[(1,ptV b1 0),(2,ptV b2 0)]) hA.defers hA.size (fun x hx=>by
  simp only[List.mem_cons,List.not_mem_nil,or_false]at hx
  rcases hx with rfl|rfl
  ·exact hA.ptS (s:=1) (k:=1) (o:=0) (by simp) (by simp)
  ·exact hA.ptS (s:=2) (k:=2) (o:=0) (by simp) (by simp))
 clear hA;refine wp_seq (aB aI (hT _ _) (hG _ _) (aDR b1 b2) trivial hS fun a w' hA => ?_);clear hS;obtain⟨sb,hA⟩:=hA.at (k:=3) (l:=zC) (by simp);have hsb:w.heap.size≤sb:=hA.geq (k:=3) (l:=zC) (by simp) (by simp);have l1:b1<sb:=Nat.lt_of_lt_of_le m1.1 hsb;have l2:b2<sb:=Nat.lt_of_lt_of_le m2.lt hsb;have m1:=m1.on hA.below;have m2:=m2.on hA.below;have m3:Own w' sb zC:=hA.own (k:=3) (by simp) (by simp);have hbl:=hbl.trans (hA.below.mono hs0);have hs0:w0.heap.size≤w'.heap.size:=hbl.size;have hS:=aP (nt:=32) (w:=w') (a:=a) (ts:=[(1,ptV b1 0),(2,ptV b2 0),(3,ptV sb 0)]) hA.defers hA.size (fun x hx=>by
  simp only[List.mem_cons,List.not_mem_nil,or_false]at hx
  rcases hx with rfl|rfl|rfl
  ·exact hA.slot (by simp)
  ·exact hA.slot (by simp)
  ·exact hA.ptS (s:=3) (k:=3) (o:=0) (by simp) (by simp))
 clear hA;refine wp_seq (aB aI (hT _ _) (hG _ _) (aDQ b1 b2 sb) trivial hS fun a w2 hA => ?_);clear hS;obtain⟨pb,hA⟩:=hA.at (k:=4) (l:=[.c (iI 0)]) (by simp);have hpb:w'.heap.size≤pb:=hA.geq (k:=4) (l:=[.c (iI 0)]) (by simp) (by simp);have l4:sb<pb:=Nat.lt_of_lt_of_le m3.lt hpb;have m1:=m1.on hA.below;have m2:=m2.on hA.below;have m3:=m3.on hA.below;have m4:Own w2 pb [.c (iI 0)]:=hA.own (k:=4) (by simp) (by simp);have hbl:=hbl.trans (hA.below.mono hs0);have hs0:w0.heap.size≤w2.heap.size:=hbl.size;have hS:=aP (nt:=32) (w:=w2) (a:=a) (ts:=[(1,ptV b1 0),(2,ptV b2 0),(3,ptV sb 0),(4,ptV pb 0)]) hA.defers hA.size (fun x hx=>by
  simp only[List.mem_cons,List.not_mem_nil,or_false]at hx
  rcases hx with rfl|rfl|rfl|rfl
  ·exact hA.slot (by simp)
  ·exact hA.slot (by simp)
  ·exact hA.slot (by simp)
  ·exact hA.ptS (s:=4) (k:=4) (o:=0) (by simp) (by simp))
 clear hA;refine wp_seq (aB aI (hT _ _) (hG _ _) (aDP b1 b2 sb pb) trivial hS fun a w3 hA => ?_);have hI:BgS (rR wd fl pt) w0.heap.size b1 b2 sb pb St0 0 w0 a w3:=⟨hA.defers,hA.size,hA.slot (by simp[nD]),hA.slot (by simp[nD]),hA.slot (by simp[nD]),hA.slot (by simp[nD]),hA.slot (by simp[nD]),(m3.on hA.below).eq UH,m4.on hA.below,m1.on hA.below,m2.on hA.below,hbl.trans (hA.below.mono hs0),l1,l2,l4,hB2⟩;clear hA hS m1 m2 m3 m4 hbl hs0 l1 l2 l4 hB2 hsb hpb;refine wp_seq (bI (l:=List.range' 0 ((aD (mB 4)).extract 0 1).size++(1::[])) (by kernel_rfl) ?_);refine aG (c:=tC T0 _) (hT1 _ _) (hG _ _) (aDZ b1 b2 sb pb) trivial (by kernel_rfl) hI.holds fun a w3' hA => ?_
 obtain⟨o,ho,⟨ts,hop⟩,hd,hg⟩:∃x,(aD (mB 4))[1]?=some x∧(∃ts,x.op=.call ⟨.value (.tmp 7),#[.const (iI 1),.const (iI 2)],ts⟩)∧x.dst=some 8∧x.guard=none:=⟨_,rfl,⟨_,rfl⟩,rfl,rfl⟩
 refine aZ ho hg ((hI.up hA fun φ h=>List.mem_cons_of_mem _ h).call (n:=1) (c:=2) MM (by decide) (by decide) (by decide) hop (hA.slot (by simp)) (by simp[Act.eval]) hd (by decide) fun a w hI => ?_);clear hA hop ho hd hg;have k1:=fE 1 2 2 0 0 MM;show (Code.seq _ _).wp _ _ _ _;refine wp_seq (bI (l:=List.range' 0 ((aD (mB 5)).extract 0 1).size++(1::[])) (by kernel_rfl) ?_);refine aG (c:=tC T0 _) (hT1 _ _) (hG _ _) (aDY b1 b2 sb pb) trivial (by kernel_rfl) hI.holds fun a w3' hA => ?_
 obtain⟨o,ho,⟨ts,hop⟩,hd,hg⟩:∃x,(aD (mB 5))[1]?=some x∧(∃ts,x.op=.call ⟨.value (.tmp 9),#[.const (iI 0),.const (iI 4)],ts⟩)∧x.dst=some 10∧x.guard=none:=⟨_,rfl,⟨_,rfl⟩,rfl,rfl⟩
 refine aZ ho hg ((hI.up hA fun φ h=>List.mem_cons_of_mem _ h).call (n:=0) (c:=4) k1 (by decide) (by decide) (by decide) hop (hA.slot (by simp)) (by simp[Act.eval]) hd (by decide) fun a w hI => ?_);clear hA hop ho hd hg;have k2:=fE 0 4 4 0 2 k1;show (Code.seq _ _).wp _ _ _ _;refine wp_seq (bI (l:=List.range' 0 ((aD (mB 6)).extract 0 1).size++(1::[])) (by kernel_rfl) ?_);refine aG (c:=tC T0 _) (hT1 _ _) (hG _ _) (aDX b1 b2 sb pb) trivial (by kernel_rfl) hI.holds fun a w3' hA => ?_
 obtain⟨o,ho,⟨ts,hop⟩,hd,hg⟩:∃x,(aD (mB 6))[1]?=some x∧(∃ts,x.op=.call ⟨.value (.tmp 11),#[.const (iI 254),.const (iI 12)],ts⟩)∧x.dst=some 12∧x.guard=none:=⟨_,rfl,⟨_,rfl⟩,rfl,rfl⟩
 refine aZ ho hg ((hI.up hA fun φ h=>List.mem_cons_of_mem _ h).call (n:=254) (c:=12) k2 (by decide) (by decide) (by decide) hop (hA.slot (by simp)) (by simp[Act.eval]) hd (by decide) fun a w hI => ?_);clear hA hop ho hd hg;have k3:=fE 254 12 12 0 6 k2;show (Code.seq _ _).wp _ _ _ _;refine wp_seq (bI (l:=List.range' 0 ((aD (mB 7)).extract 0 3).size++(3::[])) (by kernel_rfl) ?_);refine aG (c:=tC T0 _) (hT1 _ _) (dN w _ _ _) (aDW w b1 b2 sb pb wd) ⟨⟨hI.box.1,eE (i:=0) (n:=1) hI.box.2 rfl⟩,trivial⟩ (by kernel_rfl) hI.holds fun a w3' hA => ?_
 obtain⟨o,ho,⟨ts,hop⟩,hd,hg⟩:∃x,(aD (mB 7))[3]?=some x∧(∃ts,x.op=.call ⟨.value (.tmp 13),#[.tmp 15,.const (iI 12)],ts⟩)∧x.dst=some 16∧x.guard=none:=⟨_,rfl,⟨_,rfl⟩,rfl,rfl⟩
 refine aZ ho hg ((hI.up hA fun φ h=>List.mem_cons_of_mem _ (List.mem_cons_of_mem _ h)).call (n:=wd) (c:=12) k3 h1 (by decide) (by decide) hop (hA.slot (by simp)) (by have:=cL (hA.slot (s:=15) (v:=iI wd) (by simp)); simp[this,show a.eval (.const (iI 12))=iI 12 from rfl]) hd (by decide) fun a w hI => ?_);clear hA hop ho hd hg;have k4:=fE wd 12 12 0 18 k3;show (Code.seq _ _).wp _ _ _ _;refine wp_seq (bI (l:=List.range' 0 ((aD (mB 8)).extract 0 3).size++(3::[])) (by kernel_rfl) ?_);refine aG (c:=tC T0 _) (hT1 _ _) (dN w _ _ _) (aDV w b1 b2 sb pb fl) ⟨⟨hI.box.1,eE (i:=1) (n:=1) hI.box.2 rfl⟩,trivial⟩ (by kernel_rfl) hI.holds fun a w3' hA => ?_
 obtain⟨o,ho,⟨ts,hop⟩,hd,hg⟩:∃x,(aD (mB 8))[3]?=some x∧(∃ts,x.op=.call ⟨.value (.tmp 17),#[.tmp 19,.const (iI 10)],ts⟩)∧x.dst=some 20∧x.guard=none:=⟨_,rfl,⟨_,rfl⟩,rfl,rfl⟩
 refine aZ ho hg ((hI.up hA fun φ h=>List.mem_cons_of_mem _ (List.mem_cons_of_mem _ h)).call (n:=fl) (c:=10) k4 h2 (by decide) (by decide) hop (hA.slot (by simp)) (by have:=cL (hA.slot (s:=19) (v:=iI fl) (by simp)); simp[this,show a.eval (.const (iI 10))=iI 10 from rfl]) hd (by decide) fun a w hI => ?_);clear hA hop ho hd hg;have k5:=fE fl 10 10 0 30 k4;show (Code.seq _ _).wp _ _ _ _;refine wp_seq (bI (l:=List.range' 0 ((aD (mB 9)).extract 0 3).size++(3::[])) (by kernel_rfl) ?_);refine aG (c:=tC T0 _) (hT1 _ _) (dN w _ _ _) (aDU w b1 b2 sb pb pt) ⟨⟨hI.box.1,eE (i:=2) (n:=1) hI.box.2 rfl⟩,trivial⟩ (by kernel_rfl) hI.holds fun a w3' hA => ?_
 obtain⟨o,ho,⟨ts,hop⟩,hd,hg⟩:∃x,(aD (mB 9))[3]?=some x∧(∃ts,x.op=.call ⟨.value (.tmp 21),#[.tmp 23,.const (iI 10)],ts⟩)∧x.dst=some 24∧x.guard=none:=⟨_,rfl,⟨_,rfl⟩,rfl,rfl⟩
 refine aZ ho hg ((hI.up hA fun φ h=>List.mem_cons_of_mem _ (List.mem_cons_of_mem _ h)).call (n:=pt) (c:=10) k5 h3 (by decide) (by decide) hop (hA.slot (by simp)) (by have:=cL (hA.slot (s:=23) (v:=iI pt) (by simp)); simp[this,show a.eval (.const (iI 10))=iI 10 from rfl]) hd (by decide) fun a w hI => ?_);clear hA hop ho hd hg;have k6:=fE pt 10 10 0 40 k5;show (Code.seq _ _).wp _ _ _ _;refine wp_seq (bI (l:=List.range' 0 ((aD (mB 10)).extract 0 1).size++(1::[])) (by kernel_rfl) ?_);refine aG (c:=tC T0 _) (hT1 _ _) (hG _ _) (Wo b1 b2 sb pb) trivial (by kernel_rfl) hI.holds fun a w3' hA => ?_
 obtain⟨o,ho,⟨ts,hop⟩,hd,hg⟩:∃x,(aD (mB 10))[1]?=some x∧(∃ts,x.op=.call ⟨.value (.tmp 25),#[.const (iI 1073741823),.const (iI 30)],ts⟩)∧x.dst=some 26∧x.guard=none:=⟨_,rfl,⟨_,rfl⟩,rfl,rfl⟩
 refine aZ ho hg ((hI.up hA fun φ h=>List.mem_cons_of_mem _ h).call (n:=1073741823) (c:=30) k6 (by decide) (by decide) (by decide) hop (hA.slot (by simp)) (by simp[Act.eval]) hd (by decide) fun a w hI => ?_);clear hA hop ho hd hg k1 k2 k3 k4 k5 k6;have hok:=Ci wd fl pt;change BgS (rR wd fl pt) w0.heap.size b1 b2 sb pb (bgL wd fl pt) _ w0 a w at hI;unfold GX;generalize bgL wd fl pt=s at *;show (Code.seq _ _).wp _ _ _ _;have hO:Holds 32 sb w (Dp w.heap.size b1 b2 sb s) a w:=hI.own3.holds (k:=3) (ts:=[(1,ptV b1 0),(2,ptV b2 0)]) hI.defers hI.size rfl hI.t3 (fun x hx=>by
  simp only[List.mem_cons,List.not_mem_nil,or_false]at hx
  rcases hx with rfl|rfl
  ·exact hI.t1
  ·exact hI.t2)
 have hq:∀gen,bO prog (qW gen jY) sb w:=fun gen=>mG (jJ _) _ _
 refine wp_seq (wp_seq (aB aI (hT _ _) (hq _) (aEc w.heap.size b1 b2 sb s) trivial hO fun a w1 hA => ?_));refine wp_block ?_;refine jD aI (fun i=>GK w.heap.size b1 b2 sb i (Dl i s)) 10 (fun i hi=>⟨_,_,_,_,mG (PI (KJ i hok)) _ _,hT _ _,aEb w.heap.size b1 b2 sb i (Dl i s),eO (n:=10) hi,rfl,rfl,fU (k:=1) (by omega),trivial⟩) (.ex 0) (by simp) (GK w.heap.size b1 b2 sb 10 (Dl 10 s)) ⟨_,_,_,_,hq _,hT _ _,aEa w.heap.size b1 b2 sb 10 (Dl 10 s),dD (i:=10) (n:=10) (Nat.le_refl _),trivial⟩ hA fun a w1 hA => ?_
 simp only[EA.out,Exit.then,Exit.inBlock,if_true];have hW:=hA.wrcK (k:=3) (l:=(Dl 10 s).row) (by simp[GK,Dp]) (by simp[GK,Dp]) (by simp[GK,Dp]);have hO3:Own w1 sb (Dl 10 s).row:=hW.1.own hI.own3.lt hW.2;have hO2:Own w1 b2 zC:=hI.res.wr hW.1 (Nat.ne_of_lt hI.l2);have hlB:w0.heap.size≤sb:=Nat.le_of_lt (Nat.lt_of_le_of_lt hI.lB hI.l2);have hbl:Below w0.heap.size w0 w1:=hI.below.trans (hW.1.below.mono hlB);have hS:=aP (nt:=32) (w:=w1) (a:=a) (ts:=[(1,ptV b1 0),(2,ptV b2 0),(3,ptV sb 0)]) hA.defers hA.size (fun x hx=>by
  simp only[List.mem_cons,List.not_mem_nil,or_false]at hx
  rcases hx with rfl|rfl|rfl
  ·exact hA.slot (by simp[GK,Dp])
  ·exact hA.slot (by simp[GK,Dp])
  ·exact hA.ptS (s:=3) (k:=3) (o:=0) (by simp[GK,Dp]) (by simp[GK,Dp]))
 clear hA hO hW;have hl2:=hI.lB;clear hI;generalize Dl 10 s=t at *;refine wp_seq (bI (l:=List.range' 0 ((aD (cA (cB Wp))).extract 0 1).size++(1::[])) (by kernel_rfl) ?_);refine aG (c:=tC T0 _) (hT1 _ _) (dN w1 _ _ _) (aHf w1 b1 b2 sb t) ⟨hO3.old rfl,rfl,trivial⟩ (by kernel_rfl) hS fun a w2 hA => ?_
 obtain⟨o,ho,hop,hd,hg⟩:∃x,(aD (cA (cB Wp)))[1]?=some x∧x.op=.store 264 (.tmp 2) (.tmp 31)∧x.dst=none∧x.guard=none:=⟨_,rfl,rfl,rfl,rfl⟩
 have hO2:=(hO2.on hA.below).eq UH;have hp:put St0.row 0 t.row=some t.row:=rfl;obtain⟨hO5,hW5⟩:=hO2.set hp;refine aZ ho hg (eV (v:=.agg (aA t.row).toArray) (vs:=aA t.row) hop hd (cL (hA.slot (s:=2) (by simp))) (cL (hA.slotF (s:=31) (by simp))) rfl rfl Qg (hO2.there (o:=0) (n:=4) (Nat.le_of_ble_eq_true rfl)) ?_);have hH:=hO5.holds (k:=2) (nt:=32) (a:=a) (ts:=[]) hA.defers hA.size rfl (hA.slot (by simp)) (fun x hx=>by cases hx);refine wp_ret (cK (l:=[.fl t.row]) (r:=.one (.fl t.row)) (by kernel_rfl) (by kernel_rfl) hH ⟨rfl,?_⟩);exact hbl.trans ((hA.below.mono hbl.size).trans (hW5.below.mono hl2))
def Um {α:Type} (n:Nat) (k:Nat→α):α:=Nat.rec (motive:=fun _=>α) (k 0) (fun m _=>k (Nat.succ m)) n
theorem KO {α:Type} (n:Nat) (k:Nat→α):Um n k=k n:=by cases n<;>rfl
def Io:Nat→Nat→Nat→Nat→Nat→Option St
 | 0,lo,hi,fr,gv=>bif Nat.beq gv 0 then none else some ⟨lo,hi,fr,gv⟩
 | n+1,lo,hi,fr,gv=>bif Nat.beq gv 0 then Um (sO lo hi) fun f=>Um (nW lo hi 16) fun l=>Um (f &&& 21845) fun g=>Io n l f f g else some ⟨lo,hi,fr,gv⟩
theorem OH:∀(n:Nat) (lo hi fr gv:Nat),Io n lo hi fr gv=ZL n ⟨lo,hi,fr,gv⟩
 | 0,lo,hi,fr,gv=>rfl
 | n+1,lo,hi,fr,gv=>by
  unfold Io ZL;simp only[KO,OH n];rfl
def Wm (fr gv:Nat):Nat:=fr/(2*(gv &&& (18446744073709551616-gv))) &&& 1
theorem Lz {s:St} (h:s.ok) (hn:s.gv≠0):Wm s.fr s.gv=s.bit:=by
 unfold Wm St.bit;have e:=(Lib.lowest_bit 64 s.gv hn h.gv).1;rw[show (2:Nat)^64=18446744073709551616 by decide]at e;rw[e,Nat.pow_succ,Nat.mul_comm 2]
def GZ:Nat→Nat→Nat→Nat→Nat→Nat→Option (Nat×St)
 | 0,lo,hi,fr,gv,a=>some (a,⟨lo,hi,fr,gv⟩)
 | n+1,lo,hi,fr,gv,a=>match Io 40 lo hi fr gv with
  | some ⟨l,h,f,g⟩=>Um (g &&& (g-1)) fun g'=>Um (Mg a (Wm f g)) fun a'=>GZ n l h f g' a'
  | none=>none
theorem pK:∀(n:Nat) (lo hi fr gv a:Nat),(⟨lo,hi,fr,gv⟩:St).ok→GZ n lo hi fr gv a=wP n ⟨lo,hi,fr,gv⟩ a
 | 0,lo,hi,fr,gv,a,_=>rfl
 | n+1,lo,hi,fr,gv,a,h=>by
  unfold GZ wP;rw[OH];cases hi':ZL 40 ⟨lo,hi,fr,gv⟩with
  | none=>rfl
  | some t =>
   have ht:=KD h hi';obtain⟨_,_,hne,_⟩:=qQ 40 _ t hi';obtain⟨l,h',f,g⟩:=t;simp only[KO];rw[Lz ht hne];exact pK n _ _ _ _ _ ht.next
def Cc (s:St):Option (Nat×St):=match GZ 62 s.lo s.hi s.fr s.gv 0 with
 | some (d,⟨l1,h1,f1,g1⟩)=>(match GZ 64 l1 h1 f1 g1 0 with
  | some (c,⟨l2,h2,f2,g2⟩)=>(match GZ 64 l2 h2 f2 g2 0 with
   | some (b,⟨l3,h3,f3,g3⟩)=>(match GZ 64 l3 h3 f3 g3 0 with
    | some (a,s4)=>Um (aC a b c d) fun x=>some (x,s4)
    | none=>none)
   | none=>none)
  | none=>none)
 | none=>none
theorem Cb {s:St} (h:s.ok):Cc s=GG s:=by
 unfold Cc GG;rw[pK _ _ _ _ _ _ h];cases h1:wP 62 ⟨s.lo,s.hi,s.fr,s.gv⟩ 0 with
 | none=>rfl
 | some x =>
  obtain⟨d,s1⟩:=x;have k1:=(fP _ h (by decide) h1).1;simp only;rw[pK _ _ _ _ _ _ k1];cases h2:wP 64 ⟨s1.lo,s1.hi,s1.fr,s1.gv⟩ 0 with
  | none=>rfl
  | some x =>
   obtain⟨c,s2⟩:=x;have k2:=(fP _ k1 (by decide) h2).1;simp only;rw[pK _ _ _ _ _ _ k2];cases h3:wP 64 ⟨s2.lo,s2.hi,s2.fr,s2.gv⟩ 0 with
   | none=>rfl
   | some x =>
    obtain⟨b,s3⟩:=x;have k3:=(fP _ k2 (by decide) h3).1;simp only;rw[pK _ _ _ _ _ _ k3];cases h4:wP 64 ⟨s3.lo,s3.hi,s3.fr,s3.gv⟩ 0 with
    | none=>rfl
    | some x=>simp only[KO]
def Kv:Nat→St→Option (Nat×St)
 | 0,_=>none
 | n+1,s=>match Cc s with
  | some (x,t)=>bif Nat.blt x RM then some (x,t)else Kv n t
  | none=>none
theorem BJ {s t:St} {x:Nat} (hs:s.ok) (h:GG s=some (x,t)):t.ok:=by
 obtain⟨a,b,c,d,s1,s2,s3,h1,h2,h3,h4,_⟩:=sQ h;exact (fP _ (fP _ (fP _ (fP _ hs (by decide) h1).1 (by decide) h2).1 (by decide) h3).1 (by decide) h4).1
theorem OT:∀(n:Nat) {s:St},s.ok→Kv n s=xG n s
 | 0,s,_=>rfl
 | n+1,s,h=>by
  unfold Kv xG;rw[Cb h];cases hc:GG s with
  | none=>rfl
  | some x =>
   obtain⟨x,t⟩:=x;simp only;rw[OT n (BJ h hc)]
def vZ:Nat→St→Option (List Nat)
 | 0,_=>some []
 | n+1,s=>match Kv 100 s with
  | some (x,t)=>(match vZ n t with|some l=>some (x::l)|none=>none)
  | none=>none
theorem BC {n:Nat} {s t:St} {x:Nat} (hs:s.ok) (h:xG n s=some (x,t)):t.ok∧x<RM:=by
 induction n generalizing s with
 | zero=>cases h
 | succ n ih =>
  unfold xG at h;cases hc:GG s with
  | none=>rw[hc]at h; cases h
  | some y =>
   obtain⟨y,u⟩:=y;rw[hc]at h;simp only at h;cases hb:Nat.blt y RM<;>rw[hb]at h
   ·exact ih (BJ hs hc) h
   ·cases h;exact⟨BJ hs hc,by simpa using hb⟩
theorem GA:∀(n:Nat) {s:St},s.ok→vZ n s=LI n s
 | 0,s,_=>rfl
 | n+1,s,h=>by
  unfold vZ LI;rw[OT 100 h];cases hc:xG 100 s with
  | none=>rfl
  | some x =>
   obtain⟨x,t⟩:=x;simp only;rw[GA n (BC h hc).1];cases LI n t<;>rfl
def BV (w:World) (v:Value) (N:Nat) (f:Nat→Nat):Prop:=∃p m,v=.slice p N m∧N≤m∧(∀j,f j<256)∧(0<N→∃g o,p=some ⟨g,o,none⟩∧BM w g o N f)
theorem BV.on {w w':World} {v:Value} {N:Nat} {f:Nat→Nat} (h:BV w v N f) (hb:Below w.heap.size w w'):BV w' v N f:=by
 obtain⟨p,m,h1,h2,h3,h4⟩:=h;exact⟨p,m,h1,h2,h3,fun h=>by
  obtain⟨g,o,e,h5⟩:=h4 h;exact⟨g,o,e,h5.on hb⟩⟩
theorem ElM.congr {w:World} {a b n C:Nat} {g g':Nat→Nat} (h:ElM w a b n C g) (he:∀j,j<n→g j=g' j):ElM w a b n C g' :=
 by
 have e:=fL (f:=g) (g:=g') n 0 fun j hj=>(by rw[Nat.zero_add]; exact he j hj)
 exact⟨h.box,h.app,h.lt,by rw[←e]; exact h.row,h.ne⟩
theorem aGE (W:World) (b3 bl n C:Nat):aX prog { qG prog with x:=xO W (fun _=>none) (fun _=>none) (assoc [(25,aK bl 0 n C)]) } 26 (fun _=>tC T0 fun _=>none) 1 (.region 6 (aD (cA (cB Kn))) false) [.slot 3 (.im (ptV b3 0))] [.slot 2 (.im (aK bl 0 n C))]=some ([oldOf W b3 0 [.c (aK bl 0 n C)]],.nrm,[.slot 2 (.im (aK bl 0 n C))]):=by kernel_rfl
structure EJ (n0:Nat) (w0:World) (b3 bl C D:Nat) (f:Nat→Nat) (N:Nat) (rec:Loop) (r i:Nat) (W:World):Prop where
 below:Below n0 w0 W
 el:ElM W b3 bl (1+i) C (TR f N)
 n3:b3≠r
 nb:bl≠r
 hD:W.heap[D]?=some (.deferred (some []))
 hl:W.heap[D+1]?=some (.loop rec)
theorem EJ.wrc {n0:Nat} {w0:World} {b3 bl C D:Nat} {f:Nat→Nat} {N:Nat} {rec:Loop} {r i:Nat} {W W':World} (h:EJ n0 w0 b3 bl C D f N rec r i W) (hn:n0≤r) (hW:WrC W W' r):EJ n0 w0 b3 bl C D f N rec r i W' :=
 ⟨h.below.trans (hW.below.mono hn),h.el.wrc hW h.n3 h.nb,h.n3,h.nb,hW.shape.2.same _ _ h.hD rfl,hW.shape.2.same _ _ h.hl rfl⟩
theorem EJ.on {n0:Nat} {w0:World} {b3 bl C D:Nat} {f:Nat→Nat} {N:Nat} {rec:Loop} {r i:Nat} {W W':World} (h:EJ n0 w0 b3 bl C D f N rec r i W) (hn:n0≤W.heap.size) (hW:Below W.heap.size W W'):EJ n0 w0 b3 bl C D f N rec r i W' :=
 ⟨h.below.trans (hW.mono hn),h.el.on hW,h.n3,h.nb,(Shape.below hW).2.same _ _ h.hD rfl,(Shape.below hW).2.same _ _ h.hl rfl⟩
theorem Km {n0:Nat} {w0:World} {b3 bl C D g o N r i m:Nat} {f:Nat→Nat} {rec:Loop} {W:World} {v':Value} {a0:Act} (hn0:n0≤D) (hn3:n0≤b3) (hnb:n0≤bl) (hJ:EJ n0 w0 b3 bl C D f N rec r i W) (hO:Own W r [.c v']) (hB:BM W g o N f) (hi:31*i<N) (hC:1+i+1≤C)
  (hr:rec.state=.ready) (hp:rec.pending=none) (hps:rec.params = #[19]) (ht:rec.tmps=a0.tmps) (hsz:a0.tmps.size=26) (h3:a0.tmps[3]?=some (ptV b3 0)) (has:rec.assign=.region 4 (aD (Qs Xw)) false) (hbo:rec.body=.block 1 (.region 5 (aD SB) true)) :
  RoundIn Fence.wide 0 prog (D+1) rec.fn ((rec.params.zip #[aK g (o+31*i) (lT N i) m]).foldl (fun t (p,v)=>t.setIfInBounds p v) rec.tmps) rec.assign rec.body W fun e W'=>e=.returned (.bool true)∧EJ n0 w0 b3 bl C D f N rec r (i+1) W'∧Own W' r [.c v']:=by
 have htm:(rec.params.zip #[aK g (o+31*i) (lT N i) m]).foldl (fun t (p,v)=>t.setIfInBounds p v) rec.tmps=(a0.put (some 19) (aK g (o+31*i) (lT N i) m)).tmps:=by
  rw[hps,ht]; simp[Act.put]
 rw[htm,has,hbo];have hnW:n0≤W.heap.size:=Nat.le_trans hnb (Nat.le_of_lt hJ.el.lt);have hH:Holds 26 W.heap.size W [.slot 19 (.im (aK g (o+31*i) (lT N i) m)),.slot 3 (.im (ptV b3 0))] { tmps:=(a0.put (some 19) (aK g (o+31*i) (lT N i) m)).tmps,defers:=[] } W :=
  aP (ts:=[(19,aK g (o+31*i) (lT N i) m),(3,ptV b3 0)]) rfl (by show (a0.put (some 19) _).tmps.size=26; rw[aF,hsz]) (fun x hx=>by
   simp only[List.mem_cons,List.not_mem_nil,or_false]at hx
   rcases hx with rfl|rfl
   ·exact aT _ _ _ (by rw[hsz]; decide)
   ·exact aS h3 (by simp))
 have hT:∀base w,∀d:Nat,TabOkW prog T0 base w:=fun _ _ _=>(bU _).w _ _
 refine CW (K0:=fun a w=>Holds 26 W.heap.size W [.slot 4 (.im (aK g (o+31*i) (lT N i) m)),.slot 3 (.im (ptV b3 0))] a w) (IW (c:=tC T0 _) aI (hT _ _) ((aW _).w _ _) (aGF (aK g (o+31*i) (lT N i) m) b3) trivial (by kernel_rfl) hH fun a w hA=>⟨rfl,hA⟩) fun a1 w1 hA1 => ?_
 have hb1:=hA1.below;have hJ1:=hJ.on hnW hb1;have hO1:Own w1 r [.c v']:=⟨Nat.lt_of_lt_of_le hO.lt hb1.size,bG hb1 hO.lt hO.row,fun j=>(hb1.frozen (p:=⟨r,j,none⟩) hO.lt).trans (hO.free j)⟩;refine⟨rec,hJ1.hl,hr,?_⟩;have hl1:=hJ1.hl;have hlt1:D+1<w1.heap.size:=(Array.getElem?_eq_some_iff.1 hl1).1;generalize hw2:w1.putObj (D+1) (.loop { rec with state:=.busy })=w2;have hl2:w2.heap[D+1]?=some (.loop { rec with state:=.busy }):=by rw[←hw2]; exact World.putObj_heap_same hlt1
 have hE2:ElM w2 b3 bl (1+i) C (TR f N):=by rw[←hw2]; exact hJ1.el.putL hl1
 have hO2:Own w2 r [.c v']:=by rw[←hw2]; exact hO1.putL hl1
 have hB2:Below n0 w0 w2:=by rw[←hw2]; exact gD hJ1.below (by omega) _
 have hD2:w2.heap[D]?=some (.deferred (some [])):=by rw[←hw2]; exact (World.putObj_heap_other (by omega)).trans hJ1.hD
 have hBM1:=hB.on hb1;have hgl:g≠D+1:=fun e=>by
  have:=hBM1.2.2 0 (by omega);rw[e]at this;simp[World.cell?,hl1]at this
 have hBM2:BM w2 g (o+31*i) (lT N i) (fun j=>f (31*i+j)):=by
  refine⟨by rw[←hw2,World.putObj_size]; exact hBM1.1,fun j=>hBM1.2.1 _,fun j hj => ?_⟩;have hj2:31*i+j<N:=by unfold lT at hj; omega
  rw[←hw2,(kJ hl1 (p:=⟨g,o+31*i+j,none⟩) hgl).1,Nat.add_assoc];exact hBM1.2.2 _ hj2
 refine wpIn_block ?_;refine wV (K:=fun _ W3=>Only2 b3 bl w2 W3∧ElM W3 b3 bl (1+i+1) C (fun q=>if q<1+i then TR f N q else hN (fun j=>f (31*i+j)) (lT N i))) (boxS b3 bl (1+i) C) 5 (by kernel_rfl) (aGK hE2 hC (hA1.slot (by simp)) (hA1.slot (s:=4) (v:=aK g (o+31*i) (lT N i) m) (by simp)) hBM2 (by unfold lT; omega) (by unfold lT; omega) hA1.size fun a' w' h1 h2=>⟨h1,h2⟩) fun a3 w3 hK => ?_
 obtain⟨hO3,hE3⟩:=hK;have hl3:=hO3.shape.2.same _ _ hl2 rfl;have hlt3:D+1<w3.heap.size:=(Array.getElem?_eq_some_iff.1 hl3).1;have hE3:ElM w3 b3 bl (1+(i+1)) C (TR f N):=by
  rw[show 1+(i+1)=1+i+1 by omega];refine hE3.congr fun j hj => ?_
  by_cases h:j<1+i
  ·rw[if_pos h]
  ·rw[if_neg h];have:j=1+i:=by omega
   subst this;unfold TR;rw[if_neg (by omega),show 1+i-1=i by omega]
 refine⟨rfl,_,hl3,rfl,⟨?_,hE3.putL hl3,hJ.n3,hJ.nb,?_,?_⟩,(hO3.own hO2 hJ.n3.symm hJ.nb.symm).putL hl3⟩
 ·exact gD (hB2.trans (hO3.below n0 hn3 hnb)) (by omega) _
 ·exact (World.putObj_heap_other (by omega)).trans (hO3.shape.2.same _ _ hD2 rfl)
 ·rw[World.putObj_heap_same hlt3];obtain⟨s,pe,fn,tm,pa,sg,bo,de⟩:=rec;cases hr; cases hp;rfl
theorem pW {fn:Func} {a:Act} {w:World} {s:Nat} {v:Value} (h:fn.results = #[.tmp s]) (hs:a.tmps[s]?=some v):(results fn a.tmps).run prog w=.ok v w:=by
 simp[results,h,hs]
theorem Ak {w0:World} {v:Value} {N:Nat} {f:Nat→Nat} (hv:BV w0 v N f) (hN:N≤140737488355328):Calls prog 90 #[v] w0 (fun e w'=>FS.ok ⟨bV (el (TR f N)) 0 (1+(N+30)/31),1+(N+30)/31,27,4,true,[],[]⟩ w0 e w'):=by
 obtain⟨p,m,rfl,hm,hf,hmem⟩:=hv;have hG:∀base w,bO prog (qG prog) base w:=fun _ _=>(aW _).w _ _
 have hT:∀base w,∀n d:Nat,TabOkW prog T0 base w:=fun _ _ _ _=>(bU _).w _ _
 have hnt:=aGN;refine (callsIn_wide (n:=0)).1 (callsIn_of_wp_marks (F:=Fence.wide) func90 (c:=tG) rfl trivial ?_);refine wpIn_wide.2 ?_;have hA:Holds eF.ntmps w0.heap.size w0 (fD 0 [.v (.im (.slice p N m))]) _ w0:=jP (nt:=eF.ntmps) (cs:=[.v (.im (.slice p N m))]) (args:=[.slice p N m]) (w:=w0) ⟨rfl,trivial⟩ (Nat.le_of_ble_eq_true (by kernel_rfl));rw[hnt]at hA;generalize ha0:({ tmps:=[Value.slice p N m].toArray++Array.replicate (26-[Value.slice p N m].toArray.size) undef,defers:=[] }:Act)=a0 at hA;show tG.wp prog _ { tmps:=[Value.slice p N m].toArray++Array.replicate (eF.ntmps-[Value.slice p N m].toArray.size) undef,defers:=[] } w0;rw[hnt,ha0,Ve];clear ha0;refine wp_seq (aB aI (hT _ _) (hG _ _) (aGI _) trivial hA fun a w hA => ?_);refine wp_seq (bI (l:=List.range' 0 ((aD Xx).extract 0 4).size++(4::(List.range' 5 ((aD Xx).extract 5 7).size++[]))) (by kernel_rfl) ?_);refine aG (c:=tC T0 _) (hT _ _ 0) (hG _ _) (aGH p N m) ⟨XO (k:=31) (by omega) (by omega),fU (i:=2) (by omega),trivial⟩ (by kernel_rfl) hA fun a w hA => ?_
 obtain⟨o4,ho4,hop4,hd4,hg4⟩:∃x,(aD Xx)[4]?=some x∧x.op=.makeSlice 56 (.const (iI 0)) (.tmp 8)∧x.dst=some 9∧x.guard=none:=⟨_,rfl,rfl,rfl,rfl⟩
 have h8:=hA.slot (s:=8) (v:=iI (2+N/31)) (by simp);have h0:=hA.slot (s:=0) (v:=.slice p N m) (by simp);obtain⟨w1,hmk,hb1,happ,hs1⟩:=Hq (C:=2+N/31) (by omega) w;have hrun:(execOp a.eval o4).run prog w=.ok (.value (aK w.heap.size 0 0 (2+N/31))) w1:=by
  have e0:a.eval (.const (iI 0))=iI 0:=rfl;simp[execOp,hop4,e0,qZ h8,hmk]
 refine aZ ho4 hg4 (bZ hrun ?_);rw[hd4];have hB1:Below w0.heap.size w0 w1:=hA.below.trans (hb1.mono hA.below.size);have hn0:w0.heap.size≤w.heap.size:=hA.below.size;generalize hbl:w.heap.size=bl at *;have hA1:Holds 26 w1.heap.size w1 [.slot 9 (.im (aK bl 0 0 (2+N/31))),.slot 0 (.im (.slice p N m))] (a.put (some 9) (aK bl 0 0 (2+N/31))) w1 :=
  aP (ts:=[(9,aK bl 0 0 (2+N/31)),(0,.slice p N m)]) hA.defers (by rw[aF]; exact hA.size) (fun x hx=>by
   simp only[List.mem_cons,List.not_mem_nil,or_false]at hx
   rcases hx with rfl|rfl
   ·exact aT _ _ _ (by rw[hA.size]; decide)
   ·exact aS h0 (by simp))
 clear hA;refine aG (c:=tC T0 _) (hT _ _ 0) (hG _ _) (aCq (.slice p N m) bl (2+N/31)) trivial (by kernel_rfl) hA1 fun a2 w2 hA2 => ?_
 obtain⟨b3,hA2⟩:=hA2.at (k:=3) (l:=[.c (aK bl 0 0 (2+N/31))]) (by simp);have hE:ElM w2 b3 bl 0 (2+N/31) (fun _=>0)∧w1.heap.size≤b3:=by
  obtain⟨β,g1,_,_,gt⟩:=hA2.facts;obtain⟨q1,q3,q2,_⟩:=g1 (.row 3 true [.c (aK bl 0 0 (2+N/31))]) (by simp);have e:=g1 (.at 3 b3) (by simp);simp only[Fact.ok]at e;obtain⟨rfl,e2⟩:=e;rw[e2]at q3;refine⟨⟨⟨q1,q3,(q2 rfl).2.2⟩,happ.shape gt.shape,?_,fun j v hj=>by simp[bV,aA]at hj,?_⟩,(q2 rfl).1⟩
  ·have:=gt.shape.2.size; omega
  ·have:=(q2 rfl).1; omega
 obtain⟨hE,hb3⟩:=hE;have hB2:Below w0.heap.size w0 w2:=hB1.trans (hA2.below.mono (by omega));have h02:=hA2.slot (s:=0) (v:=.slice p N m) (by simp);have h32:a2.tmps[3]?=some (ptV b3 0):=by
  obtain⟨β,g1,_⟩:=hA2.facts;have e1:=g1 (.slot 3 (.pt 3 0)) (by simp);have e2:=g1 (.at 3 b3) (by simp);simp only[Fact.ok]at e1 e2;rw[e1];simp[AV.den,e2,Go.Proofs.YtpjlhhpjpnacmaaGreatDoor.Ex.ptV]
 have hd2:=hA2.defers;have hsz2:=hA2.size;clear hA1 hA2;show (Code.seq _ _).wp _ _ _ _;refine wp_seq (Code.wp_mono (Q:=gJ fun a' w'=>a'.defers=[]∧a'.tmps.size=26∧a'.tmps[0]?=some (.slice p N m)∧a'.tmps[3]?=some (ptV b3 0)∧Only2 b3 bl w2 w'∧ElM w' b3 bl 1 (2+N/31) (TR f N)) (fun e a3 w3 h => ?_) (cM (boxS b3 bl 0 (2+N/31)) 7 aI (aGL (p:=p) (m:=m) (N:=N) hE (by omega) (by omega) h02 h32 hsz2 fun a' w' e1 e2 e3 e4 e5 e6=>⟨e1.trans hd2,e2,e3,e4,e5,e6.congr fun j hj=>by
  have:j=0:=by omega
  subst this; rfl⟩)))
 obtain⟨rfl,hd3,hsz3,h03,h33,hO3,hE3⟩:=h;show (Code.seq _ _).wp _ _ _ _;have hB3:Below w0.heap.size w0 w3:=hB2.trans (hO3.below _ (by omega) (by omega));have hA3:Holds 26 w3.heap.size w3 [.slot 0 (.im (.slice p N m)),.slot 3 (.im (ptV b3 0))] a3 w3:=aP (ts:=[(0,.slice p N m),(3,ptV b3 0)]) hd3 hsz3 (fun x hx=>by
   simp only[List.mem_cons,List.not_mem_nil,or_false]at hx
   rcases hx with rfl|rfl
   ·exact h03
   ·exact h33)
 refine wp_seq (wp_seq (bI (l:=List.range' 0 ((aD e3C).extract 0 1).size++(1::[])) (by kernel_rfl) ?_));refine aG (c:=tC T0 _) (hT _ _ 0) (hG _ _) (aGG (.slice p N m) b3) trivial (by kernel_rfl) hA3 fun a4 w4 hA4 => ?_
 obtain⟨o1,ho1,⟨ts1,hop1⟩,hd1,hg1⟩:∃x,(aD e3C)[1]?=some x∧(∃ts,x.op=.call ⟨.value (.func 144),#[.tmp 17],ts⟩)∧x.dst=some 18∧x.guard=none:=⟨_,rfl,⟨_,rfl⟩,rfl,rfl⟩
 refine aZ ho1 hg1 (cF hop1 (vs:=[.slice p N m]) (List.cons_eq_cons.2 ⟨qZ (hA4.slot (s:=17) (by simp)),rfl⟩) (fun args=>bQ func144 (by kernel_rfl) (by kernel_rfl) args _) (XA w4 p N m) fun e w5 hr => ?_);obtain⟨bb,rfl,hb5,hbox⟩:=hr;refine⟨_,rfl,?_⟩;rw[hd1];have hb4:=hA4.below;have hE5:=(hE3.on hb4).on hb5;have hB5:Below w0.heap.size w0 w5:=(hB3.trans (hb4.mono hB3.size)).trans (hb5.mono (Nat.le_trans hB3.size hb4.size));have h35:=aS (d:=18) (u:=Di bb) (hA4.slot (s:=3) (v:=ptV b3 0) (by simp)) (by decide);have h18:=aT a4 18 (Di bb) (by rw[hA4.size]; decide);have hd5:(a4.put (some 18) (Di bb)).defers=[]:=hA4.defers;have hsz5:(a4.put (some 18) (Di bb)).tmps.size=26:=by rw[aF]; exact hA4.size
 generalize a4.put (some 18) (Di bb)=a5 at *;clear hA3 hA4;show (Code.block 0 _).wp _ _ _ _;refine wp_block ?_;have hn5:w0.heap.size≤w5.heap.size:=hB5.size;refine xK (gf:=187) (lb:=#[ptV bb 0]) (qZ h18) (fun args w=>bQ func187 (by kernel_rfl) (by kernel_rfl) args w) fun fn => ?_
 generalize hrec:({ state:=.ready,pending:=none,fn,tmps:=a5.tmps,params:=#[19],assign:=.region 4 (aD (Qs Xw)) false,body:=.block 1 (.region 5 (aD SB) true),defers:=w5.heap.size }:Loop)=rec;have r1:rec.state=.ready:=by rw[←hrec]
 have r2:rec.pending=none:=by rw[←hrec]
 have r3:rec.params = #[19]:=by rw[←hrec]
 have r4:rec.tmps=a5.tmps:=by rw[←hrec]
 have r5:rec.assign=.region 4 (aD (Qs Xw)) false:=by rw[←hrec]
 have r6:rec.body=.block 1 (.region 5 (aD SB) true):=by rw[←hrec]
 clear hrec;obtain⟨W1,hW1⟩:∃W1,(w5.alloc (.deferred (some []))).alloc (.loop rec)=W1:=⟨_,rfl⟩
 rw[hW1];have hb6:Below w5.heap.size w5 W1:=by rw[←hW1]; exact ((Below.refl _ w5).alloc (Nat.le_refl _) _).alloc (by simp) _
 have hD1:W1.heap[w5.heap.size]?=some (.deferred (some [])):=by
  rw[←hW1]; exact (Below.heap_alloc _ _ _ (by simp)).trans (World.alloc_heap_new w5 _)
 have hL1:W1.heap[w5.heap.size+1]?=some (.loop rec):=by
  rw[←hW1]; have:=World.alloc_heap_new (w5.alloc (.deferred (some []))) (.loop rec); rwa [World.size_alloc]at this
 have hz1:W1.heap.size=w5.heap.size+2:=by rw[←hW1]; simp
 clear hW1;have hrest:TL (match p with|some a=>a.block|none=>0) (match p with|some a=>a.off|none=>0) N 0 (.slice p (N-31*0) m):=⟨p,m,rfl,by omega,fun h=>by
  obtain⟨g,o,rfl,_⟩:=hmem (by omega);rfl⟩
 have hJ1:∀r,W1.heap.size≤r→EJ w0.heap.size w0 b3 bl (2+N/31) w5.heap.size f N rec r 0 W1:=fun r hr =>
  ⟨hB5.trans (hb6.mono hn5),hE5.on hb6,by have:=(hE5.box.lt); omega,by have:=hE5.lt; omega,hD1,hL1⟩
 refine Calls.mono (ZH (l:=w5.heap.size+1) (bb:=bb) (W1:=W1) hrest (oldOf.go hb6 (Nat.le_refl _) hbox) (fun r i W=>EJ w0.heap.size w0 b3 bl (2+N/31) w5.heap.size f N rec r i W)
  (fun r W h1 h2 _ _=>(hJ1 r h1).on (by omega) h2) (fun r i W W' h1 h2 h3=>h2.wrc (by omega) h3) (fun r i W v' mm h1 h2 h3 h4 h5=>⟨rec,h3.hl,by rw[r3]; rfl,?_⟩)) ?_
 ·obtain⟨g,o,rfl,hBM⟩:=hmem (by omega);exact Km (a0:=a5) (by omega) (by omega) (by omega) h3 h4 ⟨Nat.lt_of_lt_of_le hBM.1 (Nat.le_trans hn5 (by have:=h3.below.size; have:=(Array.getElem?_eq_some_iff.1 h3.hl).1; omega)),hBM.2.1,fun j hj=>(h3.below.cell (p:=⟨g,o+j,none⟩) hBM.1).trans (hBM.2.2 j hj)⟩ h2 (by omega) r1 r2 r3 r4 hsz5 h35 r5 r6
 ·rintro e W' ⟨⟨u,rfl⟩,r,hJ⟩
  refine⟨u,rec,rfl,hJ.hl,by rw[r1]; simp,r2,?_⟩;generalize hrx:({ rec with state:=.exhausted }:Loop)=rx;have hlt:w5.heap.size+1<W'.heap.size:=(Array.getElem?_eq_some_iff.1 hJ.hl).1;have hB7:=gD (o:=.loop rx) hJ.below (l:=w5.heap.size+1) (by omega);have hE7:=hJ.el.putL (o:=.loop rx) hJ.hl;have hD7:(W'.putObj (w5.heap.size+1) (.loop rx)).heap[w5.heap.size]?=some (.deferred (some [])):=(World.putObj_heap_other (by omega)).trans hJ.hD;generalize W'.putObj (w5.heap.size+1) (.loop rx)=w7 at *;show (Code.seq _ _).wp _ _ _ _;rw[hd5];have hA7:Holds 26 w7.heap.size w7 [.slot 3 (.im (ptV b3 0))] a5 w7:=aP (ts:=[(3,ptV b3 0)]) hd5 hsz5 (fun x hx=>by
   simp only[List.mem_cons,List.not_mem_nil,or_false]at hx
   rcases hx with rfl
   exact h35)
  refine wp_seq (WE (c:=tC T0 _) aI (hT _ _ 0) (dN w7 _ _ _) (aGE w7 b3 bl _ _) ⟨⟨hE7.box.lt,hE7.box.row⟩,trivial⟩ (by kernel_rfl) hA7 fun a8 w8 hA8 => ?_);refine wp_ret ?_;have hb8:=hA8.below;have hE8:=hE7.on hb8;have hD8:=(Shape.below hb8).2.same _ _ hD7 rfl;have hB8:Below w0.heap.size w0 w8:=hB7.trans (hb8.mono hB7.size);have hDlt:w5.heap.size<w8.heap.size:=(Array.getElem?_eq_some_iff.1 hD8).1;refine⟨by simp,.inl ⟨w5.heap.size,_,rfl,run_takeDeferred hD8,?_⟩⟩;have hbD:bl≠w5.heap.size:=fun e=>by
   obtain⟨cur,h1,_⟩:=hE8.app;rw[e,hD8]at h1; cases h1
  refine⟨_,pW (s:=2) (by kernel_rfl) (hA8.slot (s:=2) (v:=aK bl 0 (1+(N+30)/31) (2+N/31)) (by simp)),bl,2+N/31,rfl,gD hB8 (by omega) _,hn0,by rw[World.putObj_size]; exact hE8.lt,fun j v hj => ?_,fun j => ?_,fun _ => ?_⟩
  ·exact (World.cell?_of_block (World.putObj_heap_other hbD)).trans (hE8.row j v hj)
  ·exact (World.frozen?_of_block (World.putObj_heap_other hbD)).trans (hE8.app.free j)
  ·obtain⟨cur,h1,h2,h3,h4⟩:=hE8.app;exact⟨cur,(World.putObj_heap_other hbD).trans h1,h2,h3,h4⟩
def gBg (wd fl pt:Nat):gL
 | [.v (.fl l)]=>some ([aA l=aA (rR wd fl pt)],.one (.fl (GX wd fl pt).row))
 | _=>none
theorem Uk {wd fl pt:Nat} (h1:wd<4611686018427387904) (h2:fl<4611686018427387904) (h3:pt<4611686018427387904):∀cs pre r,gBg wd fl pt cs=some (pre,r)→bC pre→∀(args:List Value) (w:World),cT w cs args→bM prog 214 r args w:=by
 intro cs pre r hg hp args w ha;unfold gBg at hg;split at hg
 ·rename_i l;cases hg
  match args,ha with
  | [u],ha =>
   have e:u=.agg (aA l).toArray:=ha.1;rw[hp.1]at e;subst e;exact Ch h1 h2 h3 w
  | [],ha=>exact ha.elim
  | _::_::_,ha=>exact ha.2.elim
 ·cases hg
def aEy (wd fl pt:Nat):Tab:=T0.add 214 (gBg wd fl pt)
theorem Mp {wd fl pt:Nat} (h1:wd<4611686018427387904) (h2:fl<4611686018427387904) (h3:pt<4611686018427387904):TabOk prog (aEy wd fl pt):=(bU _).add func214 (by kernel_rfl) (by kernel_rfl) (Uk h1 h2 h3)
theorem Bj {n x:Nat} {s t:St} (hs:s.ok) (hc:xG n s=some (x,t)) {base:Nat} {w:World} (hD:Dbj w) (hB:2<base):Mr prog (yY 215 (Xm s.row 0 (.one (.fl [.q x])) t.row)) base w :=
 GR func215 (by kernel_rfl) (by kernel_rfl) fun cs pre j r l hg hp args ha b o hj hz hle=>by
  unfold Xm at hg;split at hg
  ·cases hg;obtain⟨rfl,rfl,_⟩:=hp
   match args,ha with
   | [v],ha =>
    obtain⟨⟨b',rfl,h1,h2⟩,_⟩:=ha;cases hj;exact (Bl hs hc hD (Nat.lt_of_lt_of_le hB hle) ⟨h1,h2,hz⟩).2.2
   | [],ha=>exact ha.elim
   | _::_::_,ha=>exact ha.2.elim
  ·cases hg
noncomputable abbrev cnF:Func:=f213
def pD:Code:=(f213.body).getD .skip
def fT:Code:=iR (iR (cB (cB pD)))
def TX:Code:=iR (cA (cB (cB fT)))
theorem Kz:pD=.seq (cA pD) (.seq (cA (cB pD)) (.block 0 (.loop fT))):=by kernel_rfl
theorem Ky:fT=.seq (cA fT) (.seq (cA (cB fT)) (.seq (.block 1 (.seq (cA TX) (.seq (.region 4 (aD (cA (cB TX))) false) (.cond (.tmp 16) .ret .skip)))) (cB (cB (cB fT))))):=by kernel_rfl
theorem aDq:cnF.ntmps=18:=by kernel_rfl
theorem aDn (w:World) (l bb cb wd fl pt:Nat):aX prog { qG prog with x:=xO w (fun _=>none) (assoc [(6,rR wd fl pt)]) (fun _=>none) } 18 (fun _=>tC (aEy wd fl pt) fun _=>none) 60 (cA pD) (fD 0 [.v (.im (yV l)),.v (.im (ptV bb 0)),.v (.im (ptV cb 0))]) [.slot 4 (.pt 4 0),.row 4 true (GX wd fl pt).row,.slot 0 (.im (yV l)),.slot 2 (.im (ptV cb 0))]=some ([oldOf w bb 0 (rR wd fl pt),dJ (rR wd fl pt)=3,aA (rR wd fl pt)=aA (rR wd fl pt)],.nrm,[.slot 4 (.pt 4 0),.row 4 true (GX wd fl pt).row,.slot 0 (.im (yV l)),.slot 2 (.im (ptV cb 0))]):=by kernel_rfl
theorem aDm (w:World) (l r cb C:Nat) (s:St):aX prog { qG prog with x:=xO w (fun _=>none) (fun _=>none) (assoc [(8,iI C)]) } 18 (fun _=>tC T0 fun _=>none) 60 (cA (cB pD)) [.at 4 r,.slot 4 (.pt 4 0),.row 4 true s.row,.slot 0 (.im (yV l)),.slot 2 (.im (ptV cb 0))] [.at 4 r,.slot 4 (.pt 4 0),.row 4 true s.row,.slot 0 (.im (yV l)),.slot 8 (.im (iI C)),.slot 9 (.im (iI 0))]=some ([oldOf w cb 0 [.c (iI C)]],.nrm,[.at 4 r,.slot 4 (.pt 4 0),.row 4 true s.row,.slot 0 (.im (yV l)),.slot 8 (.im (iI C)),.slot 9 (.im (iI 0))]):=by kernel_rfl
def mX (l r N C i:Nat) (s:St):List Fact:=[.slot 4 (.pt 4 0),.row 4 true s.row,.at 4 r,.at 18 N,.slot 0 (.im (yV l)),.slot 8 (.im (iI C)),.slot 9 (.im (iI i))]
theorem aDs (l r N C i:Nat) (s:St):aX prog (qW (fun _=>none) jY) 18 (fun _=>tC T0 (assoc [(10,.bool true)])) 60 (cA fT) (mX l r N C i s) (.slot 10 (.im (.bool true))::mX l r N C i s)=some ([aJ .lss .i64 (Int.ofNat i) (Int.ofNat C)=some (.bool true)],.nrm,.slot 10 (.im (.bool true))::mX l r N C i s):=by kernel_rfl
theorem Vs (l r N C i:Nat) (s:St):aX prog (qW (fun _=>none) jY) 18 (fun _=>tC T0 fun _=>none) 60 (cA (cB fT)) (.slot 10 (.im (.bool true))::mX l r N C i s) (mX l r N C i s)=some ([],.nrm,mX l r N C i s):=by kernel_rfl
theorem aHd (l r N C i:Nat) (s:St):aX prog (qW (fun _=>none) jY) 18 (fun _=>tC T0 (assoc [(10,.bool false)])) 60 (cA fT) (mX l r N C i s) (.slot 10 (.im (.bool false))::mX l r N C i s)=some ([aJ .lss .i64 (Int.ofNat i) (Int.ofNat C)=some (.bool false)],.nrm,.slot 10 (.im (.bool false))::mX l r N C i s):=by kernel_rfl
theorem aDl (l r N C i:Nat) (s:St):aX prog (qW (fun _=>none) jY) 18 (fun _=>tC T0 fun _=>none) 60 (cA (cB fT)) (.slot 10 (.im (.bool false))::mX l r N C i s) (mX l r N C i s)=some ([],.ex 0,mX l r N C i s):=by kernel_rfl
theorem aDo (l r N C i:Nat) (s:St):aX prog (qW (fun _=>none) jY) 18 (fun _=>tC T0 fun _=>none) 60 (cA TX) (mX l r N C i s) (.slot 5 (.im (iI i))::mX l r N C i s)=some ([],.nrm,.slot 5 (.im (iI i))::mX l r N C i s):=by kernel_rfl
def aEz (s t:St) (x:Nat):Tab5:=yY 215 (Xm s.row 0 (.one (.fl [.q x])) t.row)
theorem aDr (l r N C i x:Nat) (s t:St):cO prog (qW (fun _=>none) (aEz s t x)) 18 (tC T0 fun _=>none) ((aD (cA (cB TX))).extract 0 3) (.slot 5 (.im (iI i))::mX l r N C i s) (.slot 12 (.im (yV l)) :: .slot 13 (.im (iI i)) :: .slot 14 (.fl [.q x])::mX l r N C i t)=some ([s.row=s.row,0=0],.slot 12 (.im (yV l)) :: .slot 13 (.im (iI i)) :: .slot 14 (.fl [.q x])::mX l r N C i t):=by kernel_rfl
theorem Vr (l r N C i:Nat) (s:St):cO prog (qW (fun _=>none) jY) 18 (tC T0 fun _=>none) ((aD (cA (cB TX))).extract 4 5) [.slot 4 (.pt 4 0),.row 4 true s.row,.at 4 r,.at 18 N,.slot 0 (.im (yV l)),.slot 8 (.im (iI C)),.slot 9 (.im (iI i)),.slot 15 (.im (.bool true))] (.slot 16 (.im (.bool false))::mX l r N C i s)=some ([],.slot 16 (.im (.bool false))::mX l r N C i s):=by kernel_rfl
theorem aDp (l r N C i:Nat) (s:St):aX prog (qW (fun _=>none) jY) 18 (fun _=>tC T0 (assoc [(17,iI (i+1))])) 60 (cB (cB (cB fT))) (mX l r N C i s) (mX l r N C (i+1) s)=some ([aJ .add .i64 (Int.ofNat i) 1=some (iI (i+1))],.nrm,mX l r N C (i+1) s):=by kernel_rfl
structure CnS (l r C i:Nat) (s:St) (a:Act) (w:World):Prop where
 defers:a.defers=[]
 size:a.tmps.size=18
 t0:a.tmps[0]?=some (yV l)
 t4:a.tmps[4]?=some (ptV r 0)
 t8:a.tmps[8]?=some (iI C)
 t9:a.tmps[9]?=some (iI i)
 own:Own w r s.row
theorem CnS.holds {l r C i:Nat} {s:St} {a:Act} {w:World} (h:CnS l r C i s a w):Holds 18 r w (mX l r w.heap.size C i s) a w :=
 h.own.holds (k:=4) (ts:=[(0,yV l),(8,iI C),(9,iI i)]) h.defers h.size rfl h.t4 (fun x hx=>by
  simp only[List.mem_cons,List.not_mem_nil,or_false]at hx
  rcases hx with rfl|rfl|rfl
  ·exact h.t0
  ·exact h.t8
  ·exact h.t9)
theorem Holds.cns {l r C i:Nat} {s:St} {A:List Fact} {a:Act} {w w':World} (h:Holds 18 r w A a w') (hA:∀φ∈mX l r w.heap.size C i s,φ∈A) (hlt:r<w.heap.size):CnS l r C i s a w'∧WrC w w' r:=by
 have hW:=h.wrcK (k:=4) (l:=s.row) (hA _ (by simp[mX])) (hA _ (by simp[mX])) (hA _ (by simp[mX]));exact⟨⟨h.defers,h.size,h.slot (hA _ (by simp[mX])),h.ptS (s:=4) (k:=4) (o:=0) (hA _ (by simp[mX])) (hA _ (by simp[mX])),h.slot (hA _ (by simp[mX])),h.slot (hA _ (by simp[mX])),hW.1.own hlt hW.2⟩,hW.1⟩
def Ya (i x:Nat):Array Value:=#[iI i,.agg (aA [At.q x]).toArray]
theorem Bm {W1:World} {l bb cb C wd fl pt:Nat} {fu:Nat} {sq:Nat→St} {xs:Nat→Nat} (hbox:oldOf W1 bb 0 (rR wd fl pt)) (hcb:oldOf W1 cb 0 [.c (iI C)]) (b1:wd<4611686018427387904) (b2:fl<4611686018427387904) (b3:pt<4611686018427387904) (hC:C<4611686018427387904) (hg1:2<W1.heap.size)
  (h0:sq 0=GX wd fl pt) (hx:∀i,i<C→xG fu (sq i)=some (xs i,sq (i+1))) (J:Nat→Nat→World→Prop)
  (hJD:∀r i W,J r i W→Dbj W)
  (hJ0:∀r W,W1.heap.size≤r→Below W1.heap.size W1 W→r<W.heap.size→Shape W1 W→J r 0 W) (hJw:∀r i W W',W1.heap.size≤r→J r i W→WrC W W' r→J r i W')
  (hR:∀r i W,W1.heap.size≤r→i<C→J r i W→Own W r (sq (i+1)).row→∃rec,W.heap[l]?=some (.loop rec)∧rec.params.size=2 ∧
   RoundIn Fence.wide 0 prog l rec.fn ((rec.params.zip (Ya i (xs i))).foldl (fun t (p,v)=>t.setIfInBounds p v) rec.tmps) rec.assign rec.body W fun e W'=>e=.returned (.bool true)∧J r (i+1) W'∧Own W' r (sq (i+1)).row) :
  Calls prog 213 #[yV l,ptV bb 0,ptV cb 0] W1 fun e W'=>(∃v,e=.returned v)∧∃r,J r C W':=by
 have hok:∀i,i≤C→(sq i).ok:=fun i=>by
  induction i with
  | zero=>intro _; rw[h0]; exact LY _ _ _
  | succ i ih=>intro hi; exact (BC (ih (by omega)) (hx i (by omega))).1
 have hG:∀base w,bO prog (qG prog) base w:=fun _ _=>(aW _).w _ _
 have hq:∀base w,bO prog (qW (fun _=>none) jY) base w:=fun _ _=>mG (jJ _) _ _
 have hT:∀base w,∀n d:Nat,TabOkW prog T0 base w:=fun _ _ _ _=>(bU _).w _ _
 have hnt:f213.ntmps=18:=aDq;refine cH func213 (cs:=[.v (.im (yV l)),.v (.im (ptV bb 0)),.v (.im (ptV cb 0))]) (args:=[yV l,ptV bb 0,ptV cb 0]) (c:=pD) rfl ⟨rfl,rfl,rfl,trivial⟩ (Nat.le_of_ble_eq_true (by kernel_rfl)) fun a w hA => ?_
 rw[hnt]at hA;rw[Kz];refine wp_seq (aB aI (fun _ _=>(Mp b1 b2 b3).w _ _) (dN W1 _ _ _) (aDn W1 l bb cb wd fl pt) ⟨hbox,rfl,rfl,trivial⟩ hA fun a w hA => ?_);rw[←h0]at hA;obtain⟨r,hA⟩:=hA.at (k:=4) (l:=(sq 0).row) (by simp);refine wp_seq (aB aI (hT _ _) (dN W1 _ _ _) (aDm W1 l r cb C (sq 0)) ⟨hcb,trivial⟩ hA fun a w hA => ?_);have hB1:W1.heap.size≤r:=hA.geq (k:=4) (l:=(sq 0).row) (by simp) (by simp);have hO:=hA.own (k:=4) (l:=(sq 0).row) (b:=r) (by simp) (by simp);have hS:CnS l r C 0 (sq 0) a w:=⟨hA.defers,hA.size,hA.slot (by simp),hA.ptS (s:=4) (k:=4) (o:=0) (by simp) (by simp),hA.slot (by simp),hA.slot (by simp),hO⟩;have hJ:=hJ0 r w hB1 hA.below hO.lt hA.shape;clear hA hO;refine wp_block ?_;refine dS (n:=C+1) ?_;have wl:∀Q a w,(Code.seq (cA fT) (.seq (cA (cB fT)) (.seq (.block 1 (.seq (cA TX) (.seq (.region 4 (aD (cA (cB TX))) false) (.cond (.tmp 16) .ret .skip)))) (cB (cB (cB fT)))))).wp prog Q a w→fT.wp prog Q a w:=fun Q a w h=>by rw[Ky]; exact h
 have key:∀k i a w,i+k=C→CnS l r C i (sq i) a w→J r i w→Un prog fT (Exit.inBlock 0 (bodyPost prog f213 fun e W'=>(∃v,e=.returned v)∧∃r,J r C W')) (k+1) a w:=by
  intro k
  induction k with
  | zero =>
   intro i a w hi hS hJ;unfold Un;refine wl _ _ _ ?_;refine wp_seq (aB aI (hT _ _) (hq _ _) (aHd l r w.heap.size C i (sq i)) ⟨dD (by omega),trivial⟩ hS.holds fun a1 w1 h1 => ?_);refine wp_seq (aB aI (hT _ _) (hq _ _) (aDl l r w.heap.size C i (sq i)) trivial h1 fun a1 w1 h1 => ?_);obtain⟨hS',hW⟩:=h1.cns (fun φ h=>h) hS.own.lt;have hJ':=hJw r i w w1 hB1 hJ hW;have hi':i=C:=by omega
   subst hi';simp only[EA.out,Exit.then,Exit.inBlock,if_true];refine⟨hS'.defers,.tuple #[],?_,⟨_,rfl⟩,r,hJ'⟩;simp[results,show f213.results = #[] by kernel_rfl]
  | succ k ih =>
   intro i a w hi hS hJ;have hlt:i<C:=by omega
   have hci:=hx i hlt;have hoi:=hok i (by omega);unfold Un;refine wl _ _ _ ?_;refine wp_seq (aB aI (hT _ _) (hq _ _) (aDs l r w.heap.size C i (sq i)) ⟨eO hlt,trivial⟩ hS.holds fun a1 w1 h1 => ?_);refine wp_seq (aB aI (hT _ _) (hq _ _) (Vs l r w.heap.size C i (sq i)) trivial h1 fun a1 w1 h1 => ?_);refine wp_seq (wp_block (wp_seq (aB aI (hT _ _) (hq _ _) (aDo l r w.heap.size C i (sq i)) trivial h1 fun a1 w1 h1 => ?_)));obtain⟨hS1,hW1⟩:=h1.cns (fun φ h=>List.mem_cons_of_mem _ h) hS.own.lt;have t5:=h1.slot (s:=5) (v:=iI i) (by simp);have hJ1:=hJw r i w w1 hB1 hJ hW1;have hD1:=hJD r i w1 hJ1;clear h1;have hH1:Holds 18 r w1 (.slot 5 (.im (iI i))::mX l r w1.heap.size C i (sq i)) a1 w1:=by
    have:=hS1.own.holds (k:=4) (nt:=18) (ts:=[(5,iI i),(0,yV l),(8,iI C),(9,iI i)]) hS1.defers hS1.size rfl hS1.t4 (fun x hx=>by
     simp only[List.mem_cons,List.not_mem_nil,or_false]at hx
     rcases hx with rfl|rfl|rfl|rfl
     ·exact t5
     ·exact hS1.t0
     ·exact hS1.t8
     ·exact hS1.t9)
    exact this.sub (fun φ h=>by
     simp only[mX,List.mem_cons,List.not_mem_nil,or_false]at h
     rcases h with rfl|rfl|rfl|rfl|rfl|rfl|rfl|rfl<;>simp)
   refine wp_seq ?_;refine (wpIn_wide (n:=1)).1 ?_;show Code.wpIn (rF none) 1 _ _ _ _ _;refine wpIn_region ?_;rw[show List.range (aD (cA (cB TX))).size=List.range' 0 ((aD (cA (cB TX))).extract 0 3).size++(3::(List.range' 4 ((aD (cA (cB TX))).extract 4 5).size++[])) by kernel_rfl];have hg:2<r:=Nat.lt_of_lt_of_le hg1 hB1;refine qE (c:=tC T0 _) (hT _ _ 0) (WJ (T5:=aEz (sq i) (sq (i+1)) (xs i)) fun w' hb=>Bj hoi hci (hD1.on hg hb) hg) (aDr l r w1.heap.size C i (xs i) (sq i) (sq (i+1))) ⟨rfl,rfl,trivial⟩ (by kernel_rfl) (by kernel_rfl) hH1 fun a2 w2 h2 => ?_
   obtain⟨hS2,hW2⟩:=h2.cns (fun φ h=>List.mem_cons_of_mem _ (List.mem_cons_of_mem _ (List.mem_cons_of_mem _ h))) hS1.own.lt;have t12:=h2.slot (s:=12) (v:=yV l) (by simp);have t13:=h2.slot (s:=13) (v:=iI i) (by simp);have t14:=h2.slotF (s:=14) (l:=[.q (xs i)]) (by simp);have hJ2:=hJw r i w1 w2 hB1 hJ1 hW2;obtain⟨rec,hrec,hsz,hround⟩:=hR r i w2 hB1 hlt hJ2 hS2.own;obtain⟨o3,ho3,⟨ts3,hop3⟩,hd3,hg3⟩:∃x,(aD (cA (cB TX)))[3]?=some x∧(∃ts,x.op=.call ⟨.value (.tmp 12),#[.tmp 13,.tmp 14],ts⟩)∧x.dst=some 15∧x.guard=none:=⟨_,rfl,⟨_,rfl⟩,rfl,rfl⟩
   refine AH ho3 hg3 (BU (l:=l) (vs:=Ya i (xs i)) hop3 (by rw[cL t12]; rfl) (by simp[cL t13,cL t14,Ya]) hrec (by rw[hsz]; rfl) (hround.mono ?_))
   rintro e W' ⟨rfl,hJ',hO'⟩
   refine⟨_,rfl,?_⟩;rw[hd3];change wpOpsIn (rF none) 1 prog (aD (cA (cB TX))) _ _ (a2.put (some 15) (.bool true)) W';have hH:Holds 18 r W' [.slot 4 (.pt 4 0),.row 4 true (sq (i+1)).row,.at 4 r,.at 18 W'.heap.size,.slot 0 (.im (yV l)),.slot 8 (.im (iI C)),.slot 9 (.im (iI i)),.slot 15 (.im (.bool true))] (a2.put (some 15) (.bool true)) W' :=
    hO'.holds (k:=4) (ts:=[(0,yV l),(8,iI C),(9,iI i),(15,.bool true)]) hS2.defers (by rw[aF]; exact hS2.size) rfl (aS hS2.t4 (by decide)) (fun x hx=>by
     simp only[List.mem_cons,List.not_mem_nil,or_false]at hx
     rcases hx with rfl|rfl|rfl|rfl
     ·exact aS hS2.t0 (by simp)
     ·exact aS hS2.t8 (by simp)
     ·exact aS hS2.t9 (by simp)
     ·exact aT _ _ _ (by rw[hS2.size]; decide))
   refine qE (c:=tC T0 _) (hT _ _ 0) (hq _ _) (Vr l r W'.heap.size C i (sq (i+1))) trivial (by kernel_rfl) (by kernel_rfl) hH fun a5 w5 h5 => ?_
   obtain⟨hS5,hW5⟩:=h5.cns (fun φ h=>List.mem_cons_of_mem _ h) hO'.lt;have hc:=h5.imV (s:=16) (v:=.bool false) (by simp);have hJ5:=hJw r (i+1) W' w5 hB1 hJ' hW5;show (Code.cond (.tmp 16) .ret .skip).wp _ _ _ _;refine wp_cond_false hc (wp_skip ?_);simp only[Exit.then,Exit.inBlock];refine aB aI (hT _ _) (hq _ _) (aDp l r w5.heap.size C i (sq (i+1))) ⟨fU (k:=1) (by omega),trivial⟩ hS5.holds fun a6 w6 h6 => ?_
   obtain⟨hS6,hW6⟩:=h6.cns (fun φ h=>h) hS5.own.lt;exact ih (i+1) a6 w6 (by omega) hS6 (hJw r (i+1) w5 w6 hB1 hJ5 hW6)
 exact key C 0 a w (by omega) hS hJ
end Go.Proofs.YtpjlhhpjpnacmaaGreatDoor.Ex
