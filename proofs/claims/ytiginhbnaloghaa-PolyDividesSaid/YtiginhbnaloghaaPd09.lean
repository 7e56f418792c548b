/- Pd09 -/
import Derived.Test.YtiginhbnaloghaaPd08
import Derived.Test.YtiginhbnaloghaaPd03
import Derived.Test.YtiginhbnaloghaaPd04
import Derived.Test.YtiginhbnaloghaaProg
set_option maxRecDepth 100000
set_option linter.unusedVariables false
set_option linter.unusedSimpArgs false
set_option linter.unnecessarySimpa false
noncomputable section
namespace Go.Proofs.Ytiginhbnaloghaa.Ex
open Go.Proofs.Try
open Go.RowKit
theorem Holds.anewS {nt base:Nat} {w0:World} {A:List Fact} {a:Act} {w:World} (h:Holds nt base w0 A a w) {w':World} (hb:Below base w0 w') (hs:Shape w w') (hh:base≤w'.heap.size) {d k b n cap e sz:Nat} {l:List At} (hd:d<nt) (h1:base≤b) (h2:b<w'.heap.size) (h3:w'.rangeAt b 0 (aC l)) (h4:∀j,w'.frozen? ⟨b,j,none⟩=false) (ha:AppAt w' b e sz n cap) (hk:k≠nt) :
  Holds nt base w0 [.slot d (.so k n),.row k true l,.app k e sz n] (a.put (some d) (.slice (some ⟨b,0,none⟩) n cap)) w':=by
 obtain⟨β,g1,g2,g3,gt⟩:=h.facts;refine⟨by rw[eJ]; exact h.defers,by rw[dE]; exact h.size,hb,hh,fun j=>if j=nt then (0,0,0)else (b,0,cap),fun φ hφ => ?_,fun k1 k2 o2 l1 l2 q1 q2 hne => ?_,fun k1 l1 q1=>Or.inr ?_,?_,fun p p1 p2 => ?_,gt.shape.trans hs⟩
 ·simp only[List.mem_cons,List.not_mem_nil,or_false]at hφ
  rcases hφ with rfl|rfl|rfl
  ·show (a.put (some d) _).tmps[d]?=_;rw[eF _ _ _ (by rw[h.size]; exact hd)];simp[AV.den,hk]
  ·refine⟨by simp[hk,h2],?_,fun _=>⟨by simp[hk,h1],by simp[hk],fun j=>by simp[hk,h4]⟩,fun h=>by cases h⟩;show w'.rangeAt (if k=nt then ((0,0,0):Bk)else (b,0,cap)).1 (if k=nt then ((0,0,0):Bk)else (b,0,cap)).2.1 _;rw[if_neg hk]; exact h3
  ·show AppAt w' (if k=nt then ((0,0,0):Bk)else (b,0,cap)).1 e sz n (if k=nt then ((0,0,0):Bk)else (b,0,cap)).2.2;rw[if_neg hk]; exact ha
 ·simp only[List.mem_cons,List.not_mem_nil,or_false,reduceCtorEq,false_or]at q1 q2;cases q1; cases q2; exact (hne rfl).elim
 ·show (if nt=nt then ((0,0,0):Bk)else (b,0,cap)).1≤_;rw[if_pos rfl]; exact Nat.zero_le _
 ·show (if nt=nt then ((0,0,0):Bk)else (b,0,cap)).1≤_;rw[if_pos rfl]; exact Nat.zero_le _
 ·exfalso;have h2:p.block<(if nt=nt then ((0,0,0):Bk)else (b,0,cap)).1:=p2;rw[if_pos rfl]at h2;exact absurd h2 (Nat.not_lt_zero _)
theorem Lx:Hk prog 22=some (25,4,32):=by kernel_rfl
theorem BZ (f:Nat→Nat):∀n s,(aC (aS (el f) s n)).length=n*4
 | 0,s=>by rw[Nat.zero_mul]; rfl
 | n+1,s=>by
  show (aC (el f s++aS (el f) (s+1) n)).length=_;rw[aM,List.length_append,BZ f n (s+1),Nat.add_mul,Nat.one_mul,Nat.add_comm];rfl
theorem BY (f:Nat→Nat):∀n s,∀v∈aC (aS (el f) s n),v.oneCell'=true
 | 0,s,v,h=>by cases h
 | n+1,s,v,h=>by
  have h:v∈aC (el f s++aS (el f) (s+1) n):=h;rw[aM]at h
  rcases List.mem_append.1 h with h|h
  ·have h:v∈[Value.int .u64 (fw (f s) 0:Nat),.int .u64 (fw (f s) 1:Nat),.int .u64 (fw (f s) 2:Nat),.int .u64 (fw (f s) 3:Nat)]:=h;simp only[List.mem_cons,List.not_mem_nil,or_false]at h
   rcases h with rfl|rfl|rfl|rfl<;>rfl
  ·exact BY f n (s+1) v h
theorem SC {w:World} {p:Option Addr} {N m:Nat} {f:Nat→Nat} (hv:LV w (.slice p N m) N f) (h0:0<N) (hN:N≤131072) (ty:TypeId) :
  ∃b cap w',(Builtin.append_ #[22,22] ty #[.slice none 0 0,.slice p N m]).run prog w=.ok (.slice (some ⟨b,0,none⟩) N cap) w'∧AppAt w' b 25 4 N cap∧w.heap.size≤b∧b<w'.heap.size∧w'.rangeAt b 0 (aC (aS (el f) 0 N))∧(∀j,w'.frozen? ⟨b,j,none⟩=false)∧Below w.heap.size w w'∧Shape w w':=by
 obtain⟨p',m',e,h2,h3,h4⟩:=hv;cases e;obtain⟨b,o,rfl,hb,hr⟩:=h4 h0;obtain⟨c,cap,w',hr',a1,a2,a3,a4,a5,a6,a7⟩:=uK (P:=prog) w (ty:=ty) Lx (Or.inl ⟨rfl,rfl,rfl⟩) (ad:=⟨b,o,none⟩) (m:=N) (c:=m) (news:=aC (aS (el f) 0 N)) (BZ f N 0) (fun j v hj=>by
  have e:(⟨b,o,none⟩:Addr).add j=⟨b,o+j,none⟩:=by simp[Addr.add]
  rw[e];exact hr j v hj) (BY f N 0) h0 (by omega) (by unfold maxLen; omega)
 rw[Nat.zero_add]at hr' a1;refine⟨c,cap,w',hr',a1,?_,a2,a3,a4,(Below.refl w.heap.size w).grown a5 (Nat.le_refl _) (fun k hk=>by cases hk),a6⟩
 rcases a7 with h|⟨c0,h⟩
 ·exact h
 ·cases h
theorem LT {w:World} {p:Option Addr} {m:Nat} (hp:p=none→m=0) (ty:TypeId):∃w',(Builtin.append_ #[22,22] ty #[.slice none 0 0,.slice p 0 m]).run prog w=.ok (.slice none 0 0) w'∧Below w.heap.size w w':=by
 obtain⟨ht,i,z,hi,hz,hsize,hby,hzs,hsz⟩:=wV Lx;cases p with
 | none =>
  rw[hp rfl];exact⟨w,run_append_owned_none (P:=prog) w w.heap.size _ ty _ i 4 ht hi _ 0 [] (World.ownsRow_nil w w.heap.size _ 4),Below.refl _ _⟩
 | some ad =>
  obtain⟨v',w',hr,hown,hg,hne⟩:=run_append_own (P:=prog) w w.heap.size _ ty _ i z 4 32 ht hi hz hsize hby hzs hsz _ 0 [] (World.ownsRow_nil w w.heap.size _ 4) ad 0 m [] rfl (fun j u hj=>by simp at hj) (fun u hu=>by cases hu) (by unfold maxLen; omega) (by omega) (Nat.le_refl _);have hv:v'=.slice none 0 0:=hne.2 ⟨rfl,rfl⟩;subst hv;exact⟨w',hr,(Below.refl w.heap.size w).grown hg (Nat.le_refl _) (fun k hk=>by cases hk)⟩
def dQ:Code:=(f40.body).getD .skip
def rW:Code:=fW (fW (cA (cB (cB dQ))))
theorem MX:dQ=.seq (cA dQ) (.seq (cA (cB dQ)) (.seq (.block 0 (.loop rW)) (.seq (cA (cB (cB (cB dQ)))) (.seq (.region 5 (aT (cA (cB (cB (cB (cB dQ)))))) false) .ret)))):=by kernel_rfl
theorem Bo (v:Value):aK prog (qG prog) f40.ntmps (bU fun _=>none) 40 (cA dQ) (eK 0 [.v (.im v)]) [.slot 0 (.im v)]=some ([],.nrm,[.slot 0 (.im v)]):=by kernel_rfl
theorem Bn (p:Option Addr) (N m:Nat):aK prog (qG prog) f40.ntmps (bU fun _=>none) 40 (cA (cB dQ)) [.slot 0 (.im (.slice p N m))] (kI (.slice p N m) N)=some ([],.nrm,kI (.slice p N m) N):=by kernel_rfl
theorem Bp (w:World) (b o N m i x:Nat):aK prog { qG prog with x:=xO w (aE [(13,i)]) (aE [(14,[.q x])]) (fun _=>none) } f40.ntmps (TP true (aE [(8,.bool true),(12,iI i),(19,iI i)])) 40 rW (kI (aV b o N m) (i+1)) (kI (aV b o N m) i)=some ([aF .gtr .i64 (Int.ofNat (i+1)) 0=some (.bool true),aF .sub .i64 (Int.ofNat (i+1)) 1=some (iI i),Int.ofNat i=Int.ofNat i,i<N,oldOf w b (o+i*4) [.q x],cN [.q x]=4,aC [.q x]=aC [.f ⟨0,cS⟩],aF .sub .i64 (Int.ofNat (i+1)) 1=some (iI i)],.nrm,kI (aV b o N m) i):=by kernel_rfl
theorem UW (w:World) (b o N m i x:Nat):aK prog { qG prog with x:=xO w (aE [(13,i)]) (aE [(14,[.q x])]) (fun _=>none) } f40.ntmps (TP false (aE [(8,.bool true),(12,iI i),(19,iI i)])) 40 rW (kI (aV b o N m) (i+1)) (kI (aV b o N m) (i+1))=some ([aF .gtr .i64 (Int.ofNat (i+1)) 0=some (.bool true),aF .sub .i64 (Int.ofNat (i+1)) 1=some (iI i),Int.ofNat i=Int.ofNat i,i<N,oldOf w b (o+i*4) [.q x],cN [.q x]=4,aC [.q x]≠aC [.f ⟨0,cS⟩]],.ex 0,kI (aV b o N m) (i+1)):=by kernel_rfl
theorem UX (v:Value):aK prog (qG prog) f40.ntmps (TP true (aE [(8,.bool false)])) 40 rW (kI v 0) (kI v 0)=some ([aF .gtr .i64 (Int.ofNat 0) 0=some (.bool false)],.ex 0,kI v 0):=by kernel_rfl
def Jg (v:Value) (T:Nat):List Fact:=.slot 4 (.im (.slice none 0 0))::kI v T
theorem Bm (v:Value) (T:Nat):aK prog (qG prog) f40.ntmps (bU fun _=>none) 40 (cA (cB (cB (cB dQ)))) (kI v T) (Jg v T)=some ([],.nrm,Jg v T):=by kernel_rfl
def SW (p:Option Addr) (T m:Nat):List Fact:=[.slot 20 (.im (.slice none 0 0)),.slot 23 (.im (.slice p T m))]
theorem Bl (p:Option Addr) (N m T:Nat):dV prog (qG prog) f40.ntmps bW ((aT (cA (cB (cB (cB (cB dQ)))))).extract 0 4) (Jg (.slice p N m) T) (SW p T m)=some ([T≤m],SW p T m):=by kernel_rfl
theorem Bj (T:Nat) (l:List At):dV prog (qG prog) f40.ntmps bW ((aT (cA (cB (cB (cB (cB dQ)))))).extract 5 6) [.slot 24 (.so 1000 T),.row 1000 true l,.app 1000 25 4 T] [.slot 2 (.so 1000 T),.row 1000 true l,.app 1000 25 4 T]=some ([],[.slot 2 (.so 1000 T),.row 1000 true l,.app 1000 25 4 T]):=by kernel_rfl
theorem Bi (p:Option Addr) (T m:Nat):dV prog (qG prog) f40.ntmps bW ((aT (cA (cB (cB (cB (cB dQ)))))).extract 5 6) (.slot 24 (.im (.slice none 0 0))::SW p T m) [.slot 2 (.im (.slice none 0 0))]=some ([],[.slot 2 (.im (.slice none 0 0))]):=by kernel_rfl
theorem UV (T:Nat) (l:List At):DI prog [.slot 2 (.so 1000 T),.row 1000 true l,.app 1000 25 4 T] f40.results.toList []=some ⟨l,T,25,4,true,[],[]⟩:=by
 have h:Nat.beq T T=true:=Nat.beq_refl T;show (bif Nat.beq T T then some (FS.mk l T 25 4 true [] [])else none)=_;rw[h];rfl
theorem gV {w0:World} {p:Option Addr} {N m:Nat} {f:Nat→Nat} (hv:LV w0 (.slice p N m) N f) (hN:N≤131072) (hp:p=none→m=0) :
  (aD f N=0→bC prog 40 (.one (.im (.slice none 0 0))) [.slice p N m] w0) ∧
  (0<aD f N→Calls prog 40 #[.slice p N m] w0 (fun e w'=>FS.ok ⟨aS (el f) 0 (aD f N),aD f N,25,4,true,[],[]⟩ w0 e w')):=by
 have hG:bF prog (qG prog) w0.heap.size w0:=(bD _).w _ _;have hT:∀n d:Nat,TabOkW prog dN w0.heap.size w0:=fun _ _=>aY.w _ _
 have hm:N≤m:=by obtain⟨_,_,e,h,_⟩:=hv; cases e; exact h
 have hle:=bL f N;have first:∀R:Ending→World→Prop,(∀a w,Holds f40.ntmps w0.heap.size w0 (SW p (aD f N) m) a w→wpOps prog (aT (cA (cB (cB (cB (cB dQ)))))) (fun e a w=>match e with | .normal=>Code.ret.wp prog (bodyPost prog f40 R) a w|e=>bodyPost prog f40 R e a w) (4::(List.range' 5 ((aT (cA (cB (cB (cB (cB dQ)))))).extract 5 6).size++[])) a w)→Calls prog 40 #[.slice p N m] w0 R:=fun R hR=>by
  obtain⟨p',m',e,hm,h256,hmem⟩:=id hv;cases e;refine bO func40 (cs:=[.v (.im (.slice p N m))]) (args:=[.slice p N m]) (c:=dQ) rfl ⟨rfl,trivial⟩ (Nat.le_of_ble_eq_true (by kernel_rfl)) fun a w' hA => ?_
  rw[MX];refine wp_seq (aA aJ hT hG (Bo _) trivial hA fun a w' hA => ?_);refine wp_seq (aA aJ hT hG (Bn p N m) trivial hA fun a w' hA => ?_);refine wp_seq (wp_block ?_);have hz:=kN f N;have hl:=gW f N;generalize aD f N=T at hle hz hl hR ⊢;refine cC aJ (fun i=>kI (.slice p N m) (N-i)) (N-T) (fun i hi => ?_) (.ex 0) (by simp) (kI (.slice p N m) T) ?_ hA fun a w hA => ?_
  ·have h0:0<N:=by omega
   have hk:N-i=(N-i-1)+1:=by omega
   have hk2:N-(i+1)=N-i-1:=by omega
   have hk3:T≤N-i-1:=by omega
   have hk4:N-i-1<N:=by omega
   have hk5:N-i-1<4611686018427387904:=by omega
   show Ok _ _ _ _ _ (kI _ (N-i)) _ (kI _ (N-(i+1)));rw[hk2,hk];clear hk hk2;obtain⟨b,o,rfl,hb,hr⟩:=hmem h0;generalize N-i-1=k at hk3 hk4 hk5 ⊢;exact⟨_,_,_,_,dH w0 _ _ _,fun _ _=>aY.w _ _,Bp w0 b o N m k (f k),sR,mS hk5,rfl,hk4,dL hb hr hk4,rfl,(jX (h256 k hk4)).2 (hz k hk3 hk4),mS hk5,trivial⟩
  ·have e:N-(N-T)=T:=by omega
   rw[e];cases T with
   | zero=>exact⟨_,_,_,_,hG,fun _ _=>aY.w _ _,UX _,rfl,trivial⟩
   | succ k =>
    have h0:0<N:=by omega
    have hk4:k<N:=by omega
    have hk5:k<4611686018427387904:=by omega
    obtain⟨b,o,rfl,hb,hr⟩:=hmem h0;have hl:=hl (Nat.succ_pos k);exact⟨_,_,_,_,dH w0 _ _ _,fun _ _=>aY.w _ _,UW w0 b o N m k (f k),sR,mS hk5,rfl,hk4,dL hb hr hk4,rfl,fun h=>hl ((jX (h256 k hk4)).1 h),trivial⟩
  ·show (Code.seq _ _).wp _ _ _ _;refine wp_seq (aA aJ hT hG (Bm _ T) trivial hA fun a w' hA => ?_);refine wp_seq (cF (l:=List.range' 0 ((aT (cA (cB (cB (cB (cB dQ)))))).extract 0 4).size++(4::(List.range' 5 ((aT (cA (cB (cB (cB (cB dQ)))))).extract 5 6).size++[]))) (by kernel_rfl) ?_);exact aO (c:=bW) (hT 0) hG (Bl p N m T) ⟨by omega,trivial⟩ (by kernel_rfl) hA fun a w1 hA=>hR a w1 hA
 obtain⟨o,ho,hoo,hod,hog⟩:∃o,(aT (cA (cB (cB (cB (cB dQ))))))[4]?=some o∧o.op=.call ⟨.builtin .append,#[.tmp 20,.tmp 23],#[22,22]⟩∧o.dst=some 24∧o.guard=none:=⟨_,rfl,rfl,rfl,rfl⟩
 refine⟨fun h0=>first _ fun a w hA => ?_,fun h0=>first _ fun a w hA => ?_⟩
 ·rw[h0]at hA;have h20:a.eval (.tmp 20)=.slice none 0 0:=by have:=hA.slot (s:=20) (v:=.slice none 0 0) (by simp[SW]); simp[Act.eval,this]
  have h23:a.eval (.tmp 23)=.slice p 0 m:=by have:=hA.slot (s:=23) (v:=.slice p 0 m) (by simp[SW]); simp[Act.eval,this]
  obtain⟨w',hr,hb⟩:=LT (w:=w) hp o.type;have hrun:(execOp a.eval o).run prog w=.ok (.value (.slice none 0 0)) w':=by
   unfold execOp;simp only[hoo,resolve,invoke,builtin,Sem.run_bind,Sem.run_pure,Result.andThen_ok,List.map_toArray,List.map_cons,List.map_nil,h20,h23,hr]
  refine cM ho hog (gT hrun ?_);rw[hod];have hA:=hA.put hb (d:=24) (Nat.le_of_ble_eq_true (by kernel_rfl)) (.im (.slice none 0 0)) (cK (by kernel_rfl));exact aO (c:=bW) (hT 0) hG (Bi p 0 m) trivial (by kernel_rfl) hA fun a w1 hA=>wp_ret (bE (l:=[.im (.slice none 0 0)]) (r:=.one (.im (.slice none 0 0))) (by kernel_rfl) (by kernel_rfl) hA)
 ·have h20:a.eval (.tmp 20)=.slice none 0 0:=by have:=hA.slot (s:=20) (v:=.slice none 0 0) (by simp[SW]); simp[Act.eval,this]
  have h23:a.eval (.tmp 23)=.slice p (aD f N) m:=by have:=hA.slot (s:=23) (v:=.slice p (aD f N) m) (by simp[SW]); simp[Act.eval,this]
  obtain⟨b,cap,w',hr,a1,a2,a3,a4,a5,hb,hs⟩:=SC ((hv.on hA.below).take hle) h0 (by omega) o.type;have hrun:(execOp a.eval o).run prog w=.ok (.value (.slice (some ⟨b,0,none⟩) (aD f N) cap)) w':=by
   unfold execOp;simp only[hoo,resolve,invoke,builtin,Sem.run_bind,Sem.run_pure,Result.andThen_ok,List.map_toArray,List.map_cons,List.map_nil,h20,h23,hr]
  refine cM ho hog (gT hrun ?_);rw[hod];have hsz:=hA.below.size;have hA:=hA.anewS (hA.below.trans (hb.mono hsz)) hs (Nat.le_trans hsz hb.size) (d:=24) (k:=1000) (Nat.le_of_ble_eq_true (by kernel_rfl)) (Nat.le_trans hsz a2) a3 a4 a5 a1 (by rw[show f40.ntmps=25 by kernel_rfl]; omega);exact aO (c:=bW) (hT 0) hG (Bj (aD f N) _) trivial (by kernel_rfl) hA fun a w1 hA=>wp_ret (rH (UV _ _) hA)
def Lp (w:World) (idx:Nat→Option Nat) (ld st:Nat→Option (List At)):Ext:={ Ext.none with idx:=idx,ld:=ld,st:=st,old:=oldOf w,T2:=tM,T3:=wY,T4:=CJ,T5:=CM,T6:=CN }
theorem UK (w:World) (idx:Nat→Option Nat) (ld st:Nat→Option (List At)):bF prog { qG prog with x:=Lp w idx ld st } w.heap.size w :=
 ⟨(bD _).1,eG (fun b o l h=>h) (fun w' _=>FrAt.none _ _) (fun w' _=>FsAt.none _ _)⟩
def Id (T3:Tab3):Ext:={ Ext.none with T2:=tM,T3:=T3,T4:=CJ,T5:=CM,T6:=CN }
theorem rU {base:Nat} {w:World} {T3:Tab3} (h:∀w',Below base w w'→FsAt prog T3 w'):bF prog { qG prog with x:=Id T3 } base w :=
 ⟨(bD _).1,eG (fun b o l h=>h.elim) (fun w' _=>FrAt.none _ _) h⟩
def PW (N:Nat) (f:Nat→Nat):List CA→Option (List Prop×FS)
 | [.s l n m]=>some ([aC l=aC (aS (el f) 0 N),n=N,N≤m,(∀j,j<N→f j<bJ),N≤131072,0<aD f N],⟨aS (el f) 0 (aD f N),aD f N,25,4,true,[],[]⟩)
 | _=>none
theorem BI {N:Nat} {f:Nat→Nat}:∀cs pre r,PW N f cs=some (pre,r)→aQ pre→∀(args:List Value) (w:World),cQ w cs args→Calls prog 40 args.toArray w (fun e w'=>r.ok w e w'):=by
 intro cs pre r hg hp args w ha;unfold PW at hg;split at hg
 ·rename_i l n m;cases hg;obtain⟨p1,p2,p3,p4,p5,p6,_⟩:=hp
  match args,ha with
  | [a1],ha =>
   have hl:=LV.ofS ha.1 p1 p2 p3 p4;obtain⟨b,o,rfl,_⟩:=ha.1;subst p2;exact (gV hl p5 fun h=>by cases h).2 p6
  | [],ha=>exact ha.elim
  | _::_::_,ha=>exact ha.2.elim
 ·cases hg
def PZ (N:Nat) (f:Nat→Nat):jB
 | [.s l n m]=>some ([aC l=aC (aS (el f) 0 N),n=N,N≤m,(∀j,j<N→f j<bJ),N≤131072,aD f N=0],.one (.im (.slice none 0 0)))
 | _=>none
theorem BJ {N:Nat} {f:Nat→Nat}:∀cs pre r,PZ N f cs=some (pre,r)→aQ pre→∀(args:List Value) (w:World),cQ w cs args→bC prog 40 r args w:=by
 intro cs pre r hg hp args w ha;unfold PZ at hg;split at hg
 ·rename_i l n m;cases hg;obtain⟨p1,p2,p3,p4,p5,p6,_⟩:=hp
  match args,ha with
  | [a1],ha =>
   have hl:=LV.ofS ha.1 p1 p2 p3 p4;obtain⟨b,o,rfl,_⟩:=ha.1;subst p2;exact (gV hl p5 fun h=>by cases h).1 p6
  | [],ha=>exact ha.elim
  | _::_::_,ha=>exact ha.2.elim
 ·cases hg
def dK:Code:=(f17.body).getD .skip
def kT:Code:=cB (cB (cB dK))
def oB:Code:=fW (fW (cB (cA (cB (cB kT)))))
theorem IP:dK=.seq (cA dK) (.seq (.region 1 (aT (cA (cB dK))) false) (.seq (cA (cB (cB dK))) (.seq (cA kT) (.seq (cA (cB kT)) (.seq (.seq (cA (cA (cB (cB kT)))) (.block 0 (.loop oB))) (cB (cB (cB kT)))))))):=by kernel_rfl
def mN (v:Value) (x:Nat):List Fact:=[.slot 0 (.im v),.slot 3 (.pt 3 0),.row 3 true [.q x],.slot 5 (.pt 5 0),.row 5 true FB]
def sM (v:Value) (x:Nat):List Fact:=.slot 12 (.sl 12 0 1 1) :: .row 12 true [.c v] :: .slot 14 (.sl 14 0 1 1) :: .row 14 true [.q x]::mN v x
theorem WD (v:Value) (x:Nat):aK prog (qG prog) f17.ntmps (kC true fun _=>none) 40 (cA dK) (eK 0 [.v (.im v),.v (.fl [.q x])]) (mN v x)=some ([],.nrm,mN v x):=by kernel_rfl
theorem WC (p:Option Addr) (N m x:Nat):dV prog (qG prog) f17.ntmps (kC true (fun _=>none) 0) ((aT (cA (cB dK))).extract 0 4) (mN (.slice p N m) x) (sM (.slice p N m) x)=some ([],sM (.slice p N m) x):=by kernel_rfl
theorem WB (v:Value) (x:Nat) (e:Int):dV prog (qG prog) f17.ntmps (kC true (fun _=>none) 0) ((aT (cA (cB dK))).extract 5 6) (.slot 15 (.im (.int .i64 e))::sM v x) (.slot 7 (.im (.int .i64 e))::mN v x)=some ([],.slot 7 (.im (.int .i64 e))::mN v x):=by kernel_rfl
def Cs (e:Int):List Fact:=[.slot 4 (.im (.slice none 0 0)),.slot 5 (.pt 5 0),.row 5 true FB,.slot 6 (.im (.int .i64 e))]
theorem OG (v:Value) (x:Nat) (e:Int):aK prog (qG prog) f17.ntmps (kC true (aE [(17,.bool true)])) 40 (cA (cB (cB dK))) (.slot 7 (.im (.int .i64 e))::mN v x) (Cs e)=some ([aF .neq .i64 e 0=some (.bool true)],.rt,Cs e):=by kernel_rfl
theorem IN (v:Value) (x:Nat):aK prog (qG prog) f17.ntmps (kC true fun _=>none) 40 (cA (cB (cB dK))) (.slot 7 (.im (.int .i64 0))::mN v x) (mN v x)=some ([],.nrm,mN v x):=by kernel_rfl
def yL (v:Value) (x:Nat) (Z:List At) (N:Nat):List Fact:=.slot 8 (.sl 22 0 N N) :: .row 22 true Z::mN v x
theorem WA (p:Option Addr) (N m x:Nat) (Z:List At):aK prog { qG prog with x:=xM 22 N Z } f17.ntmps (kC true fun _=>none) 40 (cA kT) (mN (.slice p N m) x) (yL (.slice p N m) x Z N)=some ([∃e,∀w:World,(Instr.makeSlice 22 (iI N) (iI N)).run prog w=.ok (.slice (some ⟨w.heap.size,0,none⟩) N N) (w.alloc (.cells (aC Z).toArray e))],.nrm,yL (.slice p N m) x Z N):=by kernel_rfl
def DF (v:Value) (x:Nat) (Z:List At) (N r:Nat):List Fact:=.row 9 true [.q r] :: .slot 9 (.pt 9 0)::yL v x Z N
def IQ (v:Value) (x:Nat) (Z:List At) (N:Nat):List Fact:=.row 9 true FB :: .slot 9 (.pt 9 0)::yL v x Z N
theorem VZ (v:Value) (x:Nat) (Z:List At) (N:Nat):aK prog (qG prog) f17.ntmps (kC true fun _=>none) 40 (cA (cB kT)) (yL v x Z N) (IQ v x Z N)=some ([],.nrm,IQ v x Z N):=by kernel_rfl
def uR (v:Value) (x:Nat) (Z:List At) (N r:Nat) (z:Int):List Fact:=.row 9 true [.q r] :: .slot 9 (.pt 9 0) :: .slot 10 (.im (iV z))::yL v x Z N
def TC (v:Value) (x:Nat) (Z:List At) (N:Nat) (z:Int):List Fact:=.row 9 true FB :: .slot 9 (.pt 9 0) :: .slot 10 (.im (iV z))::yL v x Z N
theorem VY (p:Option Addr) (N m x:Nat) (Z:List At) (z:Int):aK prog (qG prog) f17.ntmps (kC true (aE [(25,iV z)])) 40 (cA (cA (cB (cB kT)))) (IQ (.slice p N m) x Z N) (TC (.slice p N m) x Z N z)=some ([aF .sub .i64 (Int.ofNat N) 1=some (iV z)],.nrm,TC (.slice p N m) x Z N z):=by kernel_rfl
theorem WE (w:World) (b o N m x i y r:Nat) (Z Z':List At) (z:Int):aK prog { qG prog with x:=Lp w (aE [(33,i),(39,i)]) (aE [(40,[.q y])]) (aE [(33,Z')]) } f17.ntmps (kC true (aE [(27,.bool true),(29,iV z)])) 60 oB (uR (aV b o N m) x Z N r (Int.ofNat i)) (uR (aV b o N m) x Z' N (jM (fU r x) y) z) =
  some ([aF .geq .i64 (Int.ofNat i) 0=some (.bool true),Int.ofNat i=Int.ofNat i,i<N,put Z (0+i*4) [.q r]=some Z',r<RM,x<RM,Int.ofNat i=Int.ofNat i,i<N,oldOf w b (o+i*4) [.q y],cN [.q y]=4,fU r x<RM,y<RM,aF .sub .i64 (Int.ofNat i) 1=some (iV z)],.nrm,uR (aV b o N m) x Z' N (jM (fU r x) y) z):=by kernel_rfl
theorem Cr (v:Value) (x N r:Nat) (Z:List At) (z:Int):aK prog (qG prog) f17.ntmps (kC true (aE [(27,.bool false)])) 60 oB (uR v x Z N r z) (DF v x Z N r)=some ([aF .geq .i64 z 0=some (.bool false)],.ex 0,DF v x Z N r):=by kernel_rfl
def WG (Z:List At) (N:Nat) (g:Nat→Nat):List Prop:=[aC Z=aC (aS (el g) 0 N),N=N,N≤N,(∀j,j<N→g j<bJ),N≤131072]
def WF (T r:Nat) (l:List At):List Fact:=[.slot 4 (.so 43 T),.row 43 true l,.app 43 25 4 T,.slot 5 (.pt 5 0),.row 5 true [.q r],.slot 6 (.im (iV 0))]
theorem Cq (v:Value) (x N r:Nat) (Z:List At) (g:Nat→Nat):aK prog { qG prog with x:=Id (wY.add 40 (PW N g)) } f17.ntmps (kC true fun _=>none) 60 (cB (cB (cB kT))) (DF v x Z N r) (WF (aD g N) r (aS (el g) 0 (aD g N)))=some (WG Z N g++[0<aD g N],.rt,WF (aD g N) r (aS (el g) 0 (aD g N))):=by kernel_rfl
def Ct (r:Nat):List Fact:=[.slot 4 (.im (.slice none 0 0)),.slot 5 (.pt 5 0),.row 5 true [.q r],.slot 6 (.im (iV 0))]
theorem VX (v:Value) (x N r:Nat) (Z:List At) (g:Nat→Nat):aK prog (qG prog) f17.ntmps (fun _=>⟨fun _=>AD.add 40 (PZ N g),fun _=>true,fun _=>none⟩) 60 (cB (cB (cB kT))) (DF v x Z N r) (Ct r)=some (WG Z N g++[aD g N=0],.rt,Ct r):=by kernel_rfl
theorem Holds.reflat {nt base:Nat} {w0:World} {A:List Fact} {a:Act} {w:World} {k:Nat} {l l':List At} (h:Holds nt base w0 (.row k true l::A) a w) (e:aC l=aC l'):Holds nt base w0 (.row k true l'::A) a w:=by
 obtain⟨β,g1,g2,g3⟩:=h.facts;have up:∀k1 o1 l1,Fact.row k1 o1 l1∈(Fact.row k true l'::A)→∃l2,Fact.row k1 o1 l2∈(Fact.row k true l::A):=fun k1 o1 l1 q=>by
  rcases List.mem_cons.1 q with q|q
  ·cases q; exact⟨l,List.mem_cons_self⟩
  ·exact⟨l1,List.mem_cons_of_mem _ q⟩
 refine⟨h.defers,h.size,h.below,h.heap,β,fun φ hφ => ?_,fun k1 k2 o2 l1 l2 q1 q2 => ?_,fun k1 l1 q => ?_,g3.2⟩
 ·rcases List.mem_cons.1 hφ with rfl|hφ
  ·have:=g1 _ (List.mem_cons_self);simp only[Fact.ok]at this ⊢;rw[←e]; exact this
  ·exact g1 φ (List.mem_cons_of_mem _ hφ)
 ·obtain⟨m1,q1⟩:=up _ _ _ q1;obtain⟨m2,q2⟩:=up _ _ _ q2;exact g2 k1 k2 o2 m1 m2 q1 q2
 ·obtain⟨m1,q⟩:=up _ _ _ q;exact g3.1 k1 m1 q
def mW (x N:Nat) (f:Nat→Nat):Nat→Nat
 | 0=>0
 | k+1=>jM (fU (mW x N f k) x) (f (N-1-k))
def mX (x N:Nat) (f:Nat→Nat):Nat→Nat→Nat
 | 0=>fun _=>0
 | k+1=>bT (mX x N f k) (N-1-k) (mW x N f k)
theorem KA (x N:Nat) (f:Nat→Nat):∀k,mW x N f k<RM
 | 0=>gB
 | k+1=>mP _ _
theorem sY (x N:Nat) (f:Nat→Nat):∀k j,mX x N f k j<RM
 | 0,j=>gB
 | k+1,j=>by
  unfold mX bT;split
  ·exact KA x N f k
  ·exact sY x N f k j
theorem XM (N:Nat) (f:Nat→Nat) (x:Nat):Ad 1 (fun _=>N) (fun _=>f) 1 (fun _=>x)=jA N f x:=by
 have e1:iE 1 (fun _=>N)↔N≤65536:=⟨fun h=>h 0 (by omega),fun h j hj=>h⟩;have e2:iR 1 (fun _=>N) (fun _=>f)↔bQ N f:=⟨fun h=>h 0 (by omega),fun h j hj=>h⟩;have e3:bQ 1 (fun _=>x)↔x<RM:=⟨fun h=>h 0 (by omega),fun h j hj=>h⟩;unfold Ad jA;simp only[e1,e2,e3]
theorem KF {w:World} {v:Value} {N x b b2:Nat} {f:Nat→Nat} (hv:LV w v N f) (hx:x<bJ) (h1:oldOf w b 0 [.q x]) (h2:oldOf w b2 0 [.c v]):bC prog 38 (.one (.im (.int .i64 (jA N f x)))) [aV b2 0 1 1,aV b 0 1 1] w:=by
 rw[←XM];exact vY (vs:=fun _=>v) ⟨b2,0,1,rfl,h2.1,h2.2⟩ (fun j hj=>hv) (by omega) (LV.one h1 hx) (by omega)
theorem OF (T r:Nat) (l:List At):DI prog (WF T r l) f17.results.toList []=some ⟨l,T,25,4,true,[],[.fl [.q r],.im (iV 0)]⟩:=by
 have h:Nat.beq T T=true:=Nat.beq_refl T;show (bif Nat.beq T T then some (FS.mk l T 25 4 true [] [.fl [.q r],.im (iV 0)])else none)=_;rw[h];rfl
theorem mM {w0:World} {p0:Option Addr} {N m0 x:Nat} {f:Nat→Nat} (hv:LV w0 (.slice p0 N m0) N f) (hx:x<bJ) :
  (jA N f x≠0→bC prog 17 (.many [.im (.slice none 0 0),.fl FB,.im (.int .i64 (jA N f x))]) [.slice p0 N m0,.agg (aC [At.q x]).toArray] w0) ∧
  (jA N f x=0→aD (mX x N f N) N=0→bC prog 17 (.many [.im (.slice none 0 0),.fl [.q (mW x N f N)],.im (iV 0)]) [.slice p0 N m0,.agg (aC [At.q x]).toArray] w0) ∧
  (jA N f x=0→0<aD (mX x N f N) N→Calls prog 17 #[.slice p0 N m0,.agg (aC [At.q x]).toArray] w0 (fun e w'=>FS.ok ⟨aS (el (mX x N f N)) 0 (aD (mX x N f N) N),aD (mX x N f N) N,25,4,true,[],[.fl [.q (mW x N f N)],.im (iV 0)]⟩ w0 e w')):=by
 have hG:bF prog (qG prog) w0.heap.size w0:=(bD _).w _ _;have hT:∀n d:Nat,TabOkW prog AD w0.heap.size w0:=fun _ _=>nL.w _ _
 have first:∀R:Ending→World→Prop,(∀a w,Holds f17.ntmps w0.heap.size w0 (.slot 7 (.im (.int .i64 (jA N f x)))::mN (.slice p0 N m0) x) a w→(Code.seq (cA (cB (cB dK))) (.seq (cA kT) (.seq (cA (cB kT)) (.seq (.seq (cA (cA (cB (cB kT)))) (.block 0 (.loop oB))) (cB (cB (cB kT))))))).wp prog (bodyPost prog f17 R) a w)→Calls prog 17 #[.slice p0 N m0,.agg (aC [At.q x]).toArray] w0 R:=fun R hR=>by
  refine bO func17 (cs:=[.v (.im (.slice p0 N m0)),.v (.fl [.q x])]) (args:=[.slice p0 N m0,.agg (aC [At.q x]).toArray]) (c:=dK) rfl ⟨rfl,rfl,trivial⟩ (Nat.le_of_ble_eq_true (by kernel_rfl)) fun a w1 hA => ?_
  rw[IP];refine wp_seq (aA aJ hT hG (WD _ x) trivial hA fun a w1 hA => ?_);refine wp_seq (cF (l:=List.range' 0 ((aT (cA (cB dK))).extract 0 4).size++(4::(List.range' 5 ((aT (cA (cB dK))).extract 5 6).size++[]))) (by kernel_rfl) ?_);refine aO (c:=kC true (fun _=>none) 0) (hT 0) hG (WC p0 N m0 x) trivial (by kernel_rfl) hA fun a w1 hA => ?_
  obtain⟨b,hA1⟩:=hA.at (k:=14) (l:=[.q x]) (by simp[sM]);obtain⟨b2,hA2⟩:=hA.at (k:=12) (l:=[.c (.slice p0 N m0)]) (by simp[sM]);have h14:=(hA1.im (s:=14) (k:=14) (o:=0) (n:=1) (m:=1) (b:=b) (by simp[sM]) (by simp)).slot (s:=14) (v:=aV b 0 1 1) (by simp);have h12:=(hA2.im (s:=12) (k:=12) (o:=0) (n:=1) (m:=1) (b:=b2) (by simp[sM]) (by simp)).slot (s:=12) (v:=aV b2 0 1 1) (by simp);have o1:oldOf w1 b 0 [.q x]:=hA1.old (k:=14) (by simp[sM]) (by simp);have o2:oldOf w1 b2 0 [.c (.slice p0 N m0)]:=hA2.old (k:=12) (by simp[sM]) (by simp);obtain⟨o,ho,hoo,hod,hog⟩:∃o,(aT (cA (cB dK)))[4]?=some o∧(∃ts,o.op=.call ⟨.value (.func 38),#[.tmp 12,.tmp 14],ts⟩)∧o.dst=some 15∧o.guard=none:=⟨_,rfl,⟨_,rfl⟩,rfl,rfl⟩
  obtain⟨ts,hoo⟩:=hoo;refine cM ho hog (eW hoo (vs:=[aV b2 0 1 1,aV b 0 1 1]) (by simp[Act.eval,h12,h14]) (fun args=>bG func38 (by kernel_rfl) (by kernel_rfl) args _) (KF (hv.on hA.below) hx o1 o2) fun w2 hb => ?_);rw[hod];have hA:=hA.put hb (d:=15) (Nat.le_of_ble_eq_true (by kernel_rfl)) (.im (.int .i64 (jA N f x))) (cK (by kernel_rfl));exact aO (c:=kC true (fun _=>none) 0) (hT 0) hG (WB _ x _) trivial (by kernel_rfl) hA fun a w1 hA=>hR a w1 hA
 refine⟨fun he=>first _ fun a w hA => ?_,?_⟩
 ·exact wp_seq (aA aJ hT hG (OG _ x _) ⟨DX he,trivial⟩ hA fun a w' hA=>bE (l:=[.im (.slice none 0 0),.fl FB,.im (.int .i64 (jA N f x))]) (r:=.many [.im (.slice none 0 0),.fl FB,.im (.int .i64 (jA N f x))]) (by kernel_rfl) (by kernel_rfl) hA)
 ·have second:jA N f x=0→∀R:Ending→World→Prop,(∀a w,Holds f17.ntmps w0.heap.size w0 (DF (.slice p0 N m0) x (aS (el (mX x N f N)) 0 N) N (mW x N f N)) a w→(cB (cB (cB kT))).wp prog (bodyPost prog f17 R) a w)→Calls prog 17 #[.slice p0 N m0,.agg (aC [At.q x]).toArray] w0 R:=fun he R hR=>first R fun a w hA=>by
   obtain⟨q1,q2,q3⟩:=pX he;obtain⟨p,m,e,hm,h256,hmem⟩:=id hv;cases e;rw[he]at hA;refine wp_seq (aA aJ hT hG (IN _ x) trivial hA fun a w hA => ?_);refine wp_seq (aA aJ hT (tN 22 N (aS (el fun _=>0) 0 N) _ _) (WA _ N _ x (aS (el fun _=>0) 0 N)) ⟨vT (t:=22) (e:=25) (z:=[.q 0]) (v:=.int .u64 0) (n:=4) (by8:=32) (by kernel_rfl) (by kernel_rfl) rfl jT (by omega) (by omega) (by omega),trivial⟩ hA fun a w hA => ?_);refine wp_seq (aA aJ hT hG (VZ _ x _ N) trivial hA fun a w hA => ?_);refine wp_seq (wp_seq (aA aJ hT hG (VY _ N _ x _ (Int.ofNat N-1)) ⟨pL (by simp; omega) (by simp; omega),trivial⟩ hA fun a w hA => ?_));refine wp_block ?_;have hA:=hA.reflat (l':=[.q 0]) (by kernel_rfl);refine cC aJ (fun k=>uR (.slice p0 N m0) x (aS (el (mX x N f k)) 0 N) N (mW x N f k) (Int.ofNat N-1-Int.ofNat k)) N (fun k hk => ?_) (.ex 0) (by simp) (DF (.slice p0 N m0) x (aS (el (mX x N f N)) 0 N) N (mW x N f N)) ⟨_,_,_,_,hG,hT,Cr _ x N _ _ _,JZ (by simp; omega),trivial⟩ (by
    have e:Int.ofNat N-1-Int.ofNat 0=Int.ofNat N-1:=by simp
    show Holds _ _ _ (uR _ x _ N 0 (Int.ofNat N-1-Int.ofNat 0)) _ _;rw[e];exact hA) fun a w hA=>hR a w hA
   have hi:N-1-k<N:=by omega
   have ez:Int.ofNat N-1-Int.ofNat k=Int.ofNat (N-1-k):=by simp; omega
   have ez2:Int.ofNat N-1-Int.ofNat (k+1)=Int.ofNat (N-1-k)-1:=by simp; omega
   show Ok _ _ _ _ _ (uR _ x _ N _ (Int.ofNat N-1-Int.ofNat k)) _ (uR _ x _ N _ (Int.ofNat N-1-Int.ofNat (k+1)));rw[ez,ez2];have hb1 : -9223372036854775808≤Int.ofNat (N-1-k)-1:=by simp; omega
   have hb2:Int.ofNat (N-1-k)-1<9223372036854775808:=by simp; omega
   obtain⟨b,o,rfl,hb,hr⟩:=hmem (by omega);exact⟨_,_,_,_,UK w0 _ _ _,hT,WE w0 b o N m0 x (N-1-k) (f (N-1-k)) (mW x N f k) _ (aS (el (mX x N f (k+1))) 0 N) _,TT,rfl,hi,mQ hi,KA x N f k,q3,rfl,hi,dL hb hr hi,rfl,iH _ _,q2 _ hi,pL hb1 hb2,trivial⟩
  have hP:jA N f x=0→aQ (WG (aS (el (mX x N f N)) 0 N) N (mX x N f N)):=fun he=>⟨rfl,rfl,Nat.le_refl _,fun j hj=>fS (sY x N f N j),by have:=(pX he).1; omega,trivial⟩
  refine⟨fun he h0=>second he _ fun a w hA => ?_,fun he h0=>second he _ fun a w hA => ?_⟩
  ·exact aA aJ (fun _ _=>(nL.add func40 (by kernel_rfl) (by kernel_rfl) BJ).w _ _) hG (VX _ x N _ _ _) (bM.2 ⟨hP he,h0,trivial⟩) hA fun a w' hA=>bE (l:=[.im (.slice none 0 0),.fl [.q (mW x N f N)],.im (iV 0)]) (r:=.many [.im (.slice none 0 0),.fl [.q (mW x N f N)],.im (iV 0)]) (by kernel_rfl) (by kernel_rfl) hA
  ·exact aA aJ hT (rU fun w' hw=>(FsAt.none _ _).add func40 (by kernel_rfl) (by kernel_rfl) fun cs pre r h1 h2 args ha=>BI cs pre r h1 h2 args w' ha) (Cq _ x N _ _ _) (bM.2 ⟨hP he,h0,trivial⟩) hA fun a w' hA=>rH (r:=⟨aS (el (mX x N f N)) 0 (aD (mX x N f N) N),aD (mX x N f N) N,25,4,true,[],[.fl [.q (mW x N f N)],.im (iV 0)]⟩) (OF _ _ _) hA
theorem IS (x y:Nat):jM x y=jM y x:=by unfold jM; rw[Nat.add_comm]
theorem IM (x y:Nat):fU x y=fU y x:=by unfold fU; rw[Nat.mul_comm]
theorem uQ (x:Nat):fU 0 x=0:=by unfold fU; rw[Nat.zero_mul,Nat.zero_mod]
theorem uY {x:Nat} (h:x<RM):jM 0 x=x:=by unfold jM; rw[Nat.zero_add,Nat.mod_eq_of_lt h]
theorem CW {f:Nat→Nat} {N T:Nat} (h1:T≤N) (h2:∀j,T≤j→j<N→f j=0) (h3:0<T→f (T-1)≠0):aD f N=T:=by
 have g1:=bL f N;have g2:=kN f N;have g3:=gW f N
 rcases Nat.lt_trichotomy (aD f N) T with h|h|h
 ·exact absurd (g2 (T-1) (by omega) (by omega)) (h3 (by omega))
 ·exact h
 ·exact absurd (h2 (aD f N-1) (by omega) (by omega)) (g3 (by omega))
theorem lK {f g:Nat→Nat} {N M:Nat} (h:∀j,j<N→j<M→f j=g j) (h1:∀j,M≤j→j<N→f j=0) (h2:∀j,N≤j→j<M→g j=0):aD f N=aD g M:=by
 have g1:=bL g M;have g2:=kN g M;have g3:=gW g M;have hle:aD g M≤N:=by
  rcases Nat.lt_or_ge N (aD g M)with q|q
  ·exact absurd (h2 (aD g M-1) (by omega) (by omega)) (g3 (by omega))
  ·exact q
 refine CW hle (fun j hj hN => ?_) fun h0 => ?_
 ·rcases Nat.lt_or_ge j M with q|q
  ·rw[h j hN q]; exact g2 j hj q
  ·exact h1 j q hN
 ·rw[h _ (by omega) (by omega)]; exact g3 h0
theorem oD {x N L:Nat} {f:Nat→Nat} (hL:L≤N) (hz:∀j,L≤j→j<N→f j=0):∀k,k≤N-L→mW x N f k=0
 | 0,_=>rfl
 | k+1,h=>by
  show jM (fU (mW x N f k) x) (f (N-1-k))=0;rw[oD hL hz k (by omega),uQ,hz (N-1-k) (by omega) (by omega),uY gB]
theorem sX {x N L:Nat} {f:Nat→Nat} (hL:L≤N) (hz:∀j,L≤j→j<N→f j=0):∀k,k≤L→mW x N f (N-L+k)=mW x L f k
 | 0,_=>oD hL hz _ (by omega)
 | k+1,h=>by
  show jM (fU (mW x N f (N-L+k)) x) (f (N-1-(N-L+k)))=jM (fU (mW x L f k) x) (f (L-1-k));rw[sX hL hz k (by omega),show N-1-(N-L+k)=L-1-k by omega]
theorem zG {x N:Nat} {f:Nat→Nat}:∀k j,k≤N→N-k≤j→j<N→mX x N f k j=mW x N f (N-1-j)
 | 0,j,_,h1,h2=>by omega
 | k+1,j,hk,h1,h2=>by
  show bT (mX x N f k) (N-1-k) (mW x N f k) j=_;unfold bT
  by_cases e:j=N-1-k
  ·rw[if_pos e,e,show N-1-(N-1-k)=k by omega]
  ·rw[if_neg e]; exact zG k j (by omega) (by omega) h2
theorem UD {x L:Nat} {f:Nat→Nat} (hf:bQ L f):∀p,p+1≤L→∀j,j<L→jU 1 x L f p j=if L-1-p≤j then mW x L f (L-j)else f j
 | 0,hp,j,hj=>by
  show f j=_
  by_cases e:L-1-0≤j
  ·have ej:j=L-1:=by omega
   rw[if_pos e,show L-j=0+1 by omega];show f j=jM (fU 0 x) (f (L-1-0));rw[uQ,show L-1-0=j by omega,uY (hf j hj)]
  ·rw[if_neg e]
 | p+1,hp,j,hj=>by
  have ih:=UD (x:=x) hf p (by omega);show bT (jU 1 x L f p) (L-1-1-p) (jM (jU 1 x L f p (L-1-1-p)) (fU x (jU 1 x L f p (L-1-1-p+1)))) j=_;unfold bT
  by_cases e:j=L-1-1-p
  ·rw[if_pos e,if_pos (by omega),ih (L-1-1-p) (by omega),if_neg (by omega),ih (L-1-1-p+1) (by omega),if_pos (by omega),show L-j=(p+1)+1 by omega,show L-(L-1-1-p+1)=p+1 by omega];show _=jM (fU (mW x L f (p+1)) x) (f (L-1-(p+1)));rw[IS,IM,show L-1-(p+1)=L-1-1-p by omega]
  ·rw[if_neg e,ih j hj]
   by_cases e2:L-1-p≤j
   ·rw[if_pos e2,if_pos (by omega)]
   ·rw[if_neg e2,if_neg (by omega)]
theorem JQ {x L:Nat} {f:Nat→Nat} (hf:bQ L f) {j:Nat} (hj:j<L):MI x L f j=mW x L f (L-j):=by
 unfold MI;rw[UD hf (L-1) (by omega) j hj,if_pos (by omega)]
theorem PN {x N:Nat} {f:Nat→Nat} (hf:bQ N f) :
  zE x (aD f N) f=aD (mX x N f N) N∧(∀j,j<zE x (aD f N) f→rF x (aD f N) f j=mX x N f N j)∧XI x (aD f N) f=mW x N f N:=by
 have hle:=bL f N;have hz:=kN f N;generalize aD f N=L at hle hz;have hfL:bQ L f:=fun j hj=>hf j (by omega)
 have hq:∀j,j<L-1→rF x L f j=mX x N f N j:=fun j hj=>by
  unfold rF;rw[show min 1 L=1 by omega,JQ hfL (by omega),zG N j (Nat.le_refl _) (by omega) (by omega),show N-1-j=N-L+(L-(1+j)) by omega,sX hle hz _ (by omega)]
 have hn:zE x L f=aD (mX x N f N) N:=by
  unfold zE;refine lK (fun j h1 h2=>hq j (by omega)) (fun j h1 h2=>by omega) fun j h1 h2 => ?_
  rw[zG N j (Nat.le_refl _) (by omega) h2];exact oD hle hz _ (by omega)
 refine⟨hn,fun j hj=>hq j ?_,?_⟩
 ·have:=bL (rF x L f) (L-min 1 L);have h2:zE x L f≤L-min 1 L:=this;omega
 ·unfold XI
  by_cases h0:L=0
  ·subst h0;have:aD (MI x 0 f) (min 1 0)=0:=Nat.le_zero.1 (bL _ _);rw[this];have:=oD (x:=x) hle hz N (by omega);rw[this];rfl
  ·have e:min 1 L=1:=by omega
   rw[e];have hG0:=JQ (x:=x) hfL (j:=0) (by omega);have hN:mW x N f N=mW x L f L:=by
    have:=sX (x:=x) hle hz L (Nat.le_refl _);rw[show N-L+L=N by omega]at this;exact this
   rw[Nat.sub_zero]at hG0;rw[hN,←hG0];unfold FG;have z:=kN (MI x L f) 1 0
   by_cases h1:0<aD (MI x L f) 1
   ·rw[if_pos h1]
   ·rw[if_neg h1]; exact (z (by omega) (by omega)).symm
def Ix (n:Nat):List At:=nq [.c (.int .u64 (Int.ofNat n)),.c (.int .u64 0),.c (.int .u64 0),.c (.int .u64 0)]
theorem FV {n:Nat} (h:n<18446744073709551616):aC (Ix n)=aC [.q n]:=by
 unfold Ix;rw[BA];obtain⟨e0,e1,e2,e3⟩:=hZ (s0:=n) (s1:=0) (s2:=0) (s3:=0) (x:=n) ⟨h,by omega,by omega,by omega⟩ (by omega) (by unfold aB; omega);show [Value.int .u64 (n:Int),.int .u64 0,.int .u64 0,.int .u64 0]=[.int .u64 (fw n 0:Nat),.int .u64 (fw n 1:Nat),.int .u64 (fw n 2:Nat),.int .u64 (fw n 3:Nat)];rw[←e0,←e1,←e2,←e3];rfl
def QI (n:Nat) (many:Bool):jB
 | [.v (.im (.int .i64 2)),.v (.fl l),.v (.fl m)]=>match mI l with
  | some x=>some ([x<RM,aC m=aC [.q n],n<bJ],bif many then .many [.fl [.q (uL x n)],.im (.int .i64 0)]else .one (.fl [.q (uL x n)]))
  | none=>none
 | _=>none
theorem QH {f:FuncId} {n:Nat} {many:Bool} (h:∀x,x<RM→n<bJ→∀w,bC prog f (bif many then .many [.fl [.q (uL x n)],.im (.int .i64 0)]else .one (.fl [.q (uL x n)])) [.int .i64 2,.agg (aC [At.q x]).toArray,.agg (aC [At.q n]).toArray] w) :
  ∀cs pre r,QI n many cs=some (pre,r)→aQ pre→∀(args:List Value) (w:World),cQ w cs args→bC prog f r args w:=by
 intro cs pre r hg hp args w ha;unfold QI at hg;split at hg
 ·rename_i l m;split at hg
  ·rename_i x hx;cases hg
   match args,ha with
   | [t,v,u],ha =>
    have h1:t=.int .i64 2:=ha.1;have h2:v=.agg (aC l).toArray:=ha.2.1;have h3:u=.agg (aC m).toArray:=ha.2.2.1;rw[cH l x hx]at h2;rw[hp.2.1]at h3;subst h1; subst h2; subst h3;exact h x hp.1 hp.2.2.1 w
   | [],ha=>exact ha.elim
   | [_],ha=>exact ha.2.elim
   | [_,_],ha=>exact ha.2.2.elim
   | _::_::_::_::_,ha=>exact ha.2.2.2.elim
  ·cases hg
 ·cases hg
theorem WZ {n:Nat}:∀cs pre r,QI n true cs=some (pre,r)→aQ pre→∀(args:List Value) (w:World),cQ w cs args→bC prog 75 r args w :=
 QH fun x hx hn w=>TE [.v (.im (.int .i64 2)),.v (.fl [.q x]),.v (.fl [.q n])] _ _ rfl ⟨hx,hn,trivial⟩ _ w ⟨rfl,rfl,rfl,trivial⟩
theorem Lb {n:Nat} (h:n<9223372036854775808) (w:World):(convert 3 23 (iI n)).run prog w=.ok (.int .u64 (Int.ofNat n)) w:=by
 have e:=run_convert_int (P:=prog) w 3 23 .i64 (Int.ofNat n) (by kernel_rfl) (by kernel_rfl);rw[show prog.intKind 23=.u64 by kernel_rfl]at e;refine e.trans ?_;have e2:IntKind.u64.wrap (Int.ofNat n)=Int.ofNat n:=by
  show (n:Int)%(18446744073709551616:Int)=n;exact Int.emod_eq_of_lt (by omega) (by omega)
 rw[e2]
def Mc (n:Nat) (_:Nat):Cfg:=⟨fun _=>SJ.add 75 (QI n true),fun _=>true,fun _=>none⟩
theorem VS (x n:Nat):kZ prog { qG prog with x:=xG (aE [(10,.int .u64 (Int.ofNat n))]) } (Mc n) f55 40 [.v (.fl [.q x]),.v (.im (iI n))]=some ([∀w:World,(convert 3 23 (iI n)).run prog w=.ok (.int .u64 (Int.ofNat n)) w,x<RM,aC (Ix n)=aC [.q n],n<bJ],.one (.fl [.q (uL x n)])):=by kernel_rfl
theorem IT {x n:Nat} (hx:x<RM) (hn:n<9223372036854775808) (args:List Value) (w:World) (ha:cQ w [.v (.fl [.q x]),.v (.im (iI n))] args):bC prog 55 (.one (.fl [.q (uL x n)])) args w :=
 cL aJ (fun _ _=>(JH.add func75 (by kernel_rfl) (by kernel_rfl) WZ).w _ _) (kJ _ _ _) func55 (VS x n) ⟨fun w=>Lb hn w,hx,FV (by omega),Nat.lt_trans hn (by decide),trivial⟩ ha
def Ko:jB
 | [.v (.fl l),.v (.im (.int .i64 (.ofNat n)))]=>match mI l with
  | some x=>some ([x<RM,n<9223372036854775808],.one (.fl [.q (uL x n)]))
  | none=>none
 | _=>none
theorem YD:∀cs pre r,Ko cs=some (pre,r)→aQ pre→∀(args:List Value) (w:World),cQ w cs args→bC prog 55 r args w:=by
 intro cs pre r hg hp args w ha;unfold Ko at hg;split at hg
 ·rename_i l n;split at hg
  ·rename_i x hx;cases hg;refine IT hp.1 hp.2.1 args w ?_
   match args,ha with
   | [v,u],ha =>
    refine⟨?_,ha.2.1,trivial⟩;show v=.agg (aC (q1 x)).toArray;rw[←cH l x hx]; exact ha.1
   | [],ha=>exact ha.elim
   | [_],ha=>exact ha.2.elim
   | _::_::_::_,ha=>exact ha.2.2.elim
  ·cases hg
 ·cases hg
def SK:Tab:=SJ.add 55 Ko
theorem TI:TabOk prog SK:=JH.add func55 (by kernel_rfl) (by kernel_rfl) YD
def Ih (h:Bool) (num:Nat→Option Value) (_:Nat):Cfg:=⟨fun _=>SK,fun _=>h,num⟩
def rP (N:Nat) (f:Nat→Nat):Int:=if N≤65536 then (if bQ N f then 0 else 21)else 72
theorem RT (N:Nat) (f:Nat→Nat):Al 1 (fun _=>N) (fun _=>f)=rP N f:=by
 have e1:iE 1 (fun _=>N)↔N≤65536:=⟨fun h=>h 0 (by omega),fun h j hj=>h⟩;have e2:iR 1 (fun _=>N) (fun _=>f)↔bQ N f:=⟨fun h=>h 0 (by omega),fun h j hj=>h⟩;unfold Al rP;simp only[e1,e2]
theorem zU {N:Nat} {f:Nat→Nat} (h:rP N f=0):N≤65536∧bQ N f:=by
 unfold rP at h;split at h
 ·rename_i h1;split at h
  ·rename_i h2; exact⟨h1,h2⟩
  ·cases h
 ·cases h
theorem ET {w:World} {v:Value} {N b2:Nat} {f:Nat→Nat} (hv:LV w v N f) (hN:N≤4611686018427387904) (h2:oldOf w b2 0 [.c v]):bC prog 51 (.one (.im (.int .i64 (rP N f)))) [aV b2 0 1 1] w:=by
 rw[←RT];exact wL (vs:=fun _=>v) ⟨b2,0,1,rfl,h2.1,h2.2⟩ (fun j hj=>hv) (by omega) fun j hj=>hN
def dC:Code:=(f18.body).getD .skip
def rV:Code:=cB (cB (cB dC))
theorem MP:dC=.seq (cA dC) (.seq (.seq (.region 1 (aT (cA (cA (cB dC)))) false) (cB (cA (cB dC)))) (.seq (cA (cB (cB dC))) (.seq (.region 6 (aT (cA rV)) true) (cB rV)))):=by kernel_rfl
def qR (v:Value) (z:Int):List Fact:=[.slot 0 (.im v),.slot 1 (.im (iV z))]
def ZW (v:Value) (z:Int):List Fact:=.slot 11 (.sl 11 0 1 1) :: .row 11 true [.c v]::qR v z
theorem Bc (v:Value) (z:Int):aK prog (qG prog) f18.ntmps (bU fun _=>none) 40 (cA dC) (eK 0 [.v (.im v),.v (.im (iV z))]) (qR v z)=some ([],.nrm,qR v z):=by kernel_rfl
theorem Bb (p:Option Addr) (N m:Nat) (z:Int):dV prog (qG prog) f18.ntmps bW ((aT (cA (cA (cB dC)))).extract 0 2) (qR (.slice p N m) z) (ZW (.slice p N m) z)=some ([],ZW (.slice p N m) z):=by kernel_rfl
theorem Ba (v:Value) (z e:Int):dV prog (qG prog) f18.ntmps bW ((aT (cA (cA (cB dC)))).extract 3 4) (.slot 12 (.im (.int .i64 e))::ZW v z) (.slot 7 (.im (.int .i64 e))::qR v z)=some ([],.slot 7 (.im (.int .i64 e))::qR v z):=by kernel_rfl
def xC (e:Int):List Fact:=[.slot 4 (.im (.slice none 0 0)),.slot 5 (.im (.slice none 0 0)),.slot 6 (.im (iV e))]
theorem UQ (v:Value) (z e:Int):aK prog (qG prog) f18.ntmps (Ih true (aE [(14,.bool true)])) 40 (cB (cA (cB dC))) (.slot 7 (.im (.int .i64 e))::qR v z) (xC e)=some ([aF .neq .i64 e 0=some (.bool true)],.rt,xC e):=by kernel_rfl
theorem MO (v:Value) (z:Int):aK prog (qG prog) f18.ntmps (Ih true fun _=>none) 40 (cB (cA (cB dC))) (.slot 7 (.im (.int .i64 0))::qR v z) (qR v z)=some ([],.nrm,qR v z):=by kernel_rfl
theorem Ja (v:Value) (z:Int):aK prog (qG prog) f18.ntmps (Ih true (aE [(18,.bool true)])) 40 (cA (cB (cB dC))) (qR v z) (xC 71)=some ([Value.bool (!gO z 16)=.bool true],.rt,xC 71):=by kernel_rfl
theorem Iz (v:Value) (z:Int):aK prog (qG prog) f18.ntmps (Ih true (aE [(18,.bool false)])) 40 (cA (cB (cB dC))) (qR v z) (qR v z)=some ([Value.bool (!gO z 16)=.bool false],.nrm,qR v z):=by kernel_rfl
def Jb (u u':Value):List Fact:=[.slot 4 (.im u),.slot 5 (.im u'),.slot 6 (.im (iV 0))]
theorem Iy (u u':Value) (l l':List At) (b b':Nat):aK prog (qG prog) f18.ntmps (bU fun _=>none) 40 (cB rV) [.slot 8 (.im u),.slot 9 (.im u'),.row 1000 true l,.at 1000 b,.row 1001 true l',.at 1001 b'] (Jb u u'++[.row 1000 true l,.at 1000 b,.row 1001 true l',.at 1001 b'])=some ([],.rt,Jb u u'++[.row 1000 true l,.at 1000 b,.row 1001 true l',.at 1001 b']):=by kernel_rfl
def xI (n L:Nat) (f:Nat→Nat):Nat→Nat:=jU n 1 L f (L-n)
def AJ (n L:Nat) (f:Nat→Nat) (j:Nat):Nat:=xI n L f (min n L+j)
theorem Holds.slotT {nt base:Nat} {w0:World} {A:List Fact} {a:Act} {w:World} (h:Holds nt base w0 A a w) {s:Nat} {l:List TV} (h1:Fact.slot s (.tu l)∈A):a.tmps[s]?=some (.tuple (l.map TV.den).toArray):=by
 obtain⟨β,g1,_⟩:=h.facts;exact g1 _ h1
theorem wH {a:Act} {s:Nat} {v:Value} (h:a.tmps[s]?=some v):a.eval (.tmp s)=v:=by simp[Act.eval,h]
theorem MM {ops:Array Oper} {o:Oper} {a:Act} {v:Value} {s:Nat} (hop:o.op=.move (.tmp s)) (hg:o.guard=none) (h:a.tmps[s]?=some v):YieldsIf prog ops (fun _=>True) o v a :=
 Or.inl ⟨by simp[Region.wanted,hg],fun wx _=>by simp only[execOp,hop,Sem.run_bind,Sem.run_pure,Result.andThen_ok,wH h]⟩
theorem CO {ops:Array Oper} {o:Oper} {a:Act} {v:Value} {s:Nat} (hop:o.op=.assign (.tmp s)) (hg:o.guard=none) (h:a.tmps[s]?=some v):YieldsIf prog ops (fun _=>True) o v a :=
 Or.inl ⟨by simp[Region.wanted,hg],fun wx _=>by simp only[execOp,hop,Sem.run_bind,Sem.run_pure,Result.andThen_ok,wH h]⟩
theorem yF {o:Oper} {a:Act} {v:Value} {s:Nat} {w:World} (hop:o.op=.assign (.tmp s)) (h:a.tmps[s]?=some v):(execOp a.eval o).run prog w=.ok (.value v) w:=by
 simp only[execOp,hop,Sem.run_bind,Sem.run_pure,Result.andThen_ok,wH h]
theorem FN {ops:Array Oper} {o:Oper} {a:Act} {vs:Array Value} {v:Value} {s i:Nat} (hop:o.op=.extract (.tmp s) i) (hg:o.guard=none) (h:a.tmps[s]?=some (.tuple vs)) (hv:vs[i]?=some v):YieldsIf prog ops (fun _=>True) o v a :=
 Or.inl ⟨by simp[Region.wanted,hg],fun wx _=>by simp[execOp,hop,wH h,hv,Instr.extract]⟩
theorem UO {w0:World} {v:Value} {N log:Nat} {f:Nat→Nat} (hv:LV w0 v N f) (hN:N≤65536) (hf:bQ N f) (hl:log≤16) {a:Act} {w:World} (hA:Holds f18.ntmps w0.heap.size w0 (qR v (Int.ofNat log)) a w) {Q:Exit→Act→World→Prop} (hpan:∀c (a:Act) d v w,Q (.panic c) (a.put d v) w→Q (.panic c) a w)
  (hQ:∀b b' a w,Holds f18.ntmps w0.heap.size w0 [.slot 8 (.im (aV b 0 (aD (AJ (2^log) (aD f N) f) (aD f N-min (2^log) (aD f N))) (aD (AJ (2^log) (aD f N) f) (aD f N-min (2^log) (aD f N))))),.slot 9 (.im (aV b' 0 (aD (xI (2^log) (aD f N) f) (min (2^log) (aD f N))) (aD (xI (2^log) (aD f N) f) (min (2^log) (aD f N))))),.row 1000 true (aS (el (AJ (2^log) (aD f N) f)) 0 (aD (AJ (2^log) (aD f N) f) (aD f N-min (2^log) (aD f N)))),.at 1000 b,.row 1001 true (aS (el (xI (2^log) (aD f N) f)) 0 (aD (xI (2^log) (aD f N) f) (min (2^log) (aD f N)))),.at 1001 b'] a w→Q .normal a w) :
  (Code.region 6 (aT (cA rV)) true).wp prog Q a w:=by
 have h0:=hA.slot (s:=0) (v:=v) (by simp[qR]);have h1:=hA.slot (s:=1) (v:=iI log) (by simp[qR,iV,iI]);have hp2:2^log≤65536:=Nat.pow_le_pow_right (n:=2) (by omega) hl;have hp1:0<2^log:=Nat.pow_pos (by omega);have hA:=hA.drew;refine cW (fun _=>True) 9 aJ ?_;obtain⟨o0,e0,g0⟩:∃o,(aT (cA rV))[0]?=some o∧o.op=.move (.tmp 0)∧o.dst=some 20∧o.guard=none:=⟨_,rfl,rfl,rfl,rfl⟩
 refine aH (i:=0) (v:=v) e0 (by kernel_rfl) (by kernel_rfl) (by kernel_rfl) (by kernel_rfl) (fun _ _ _ h=>hpan _ _ _ _ _ h) trivial (Or.inl ⟨by simp[Region.wanted,g0.2.2],fun wx _=>by simp[execOp,g0.1,Act.eval,h0]⟩) ?_;rw[g0.2.1];have hA:=hA.put (Below.refl _ _) (d:=20) (Nat.le_of_ble_eq_true (by kernel_rfl)) (.im v) (cK (by kernel_rfl));have h1:=hA.slot (s:=1) (v:=iI log) (by simp[qR,iV,iI]);obtain⟨o1,e1,g1⟩:∃o,(aT (cA rV))[1]?=some o∧o.op=.move (.tmp 1)∧o.dst=some 21∧o.guard=none:=⟨_,rfl,rfl,rfl,rfl⟩
 refine aH (i:=1) (v:=iI log) e1 (by kernel_rfl) (by kernel_rfl) (by kernel_rfl) (by kernel_rfl) (fun _ _ _ h=>hpan _ _ _ _ _ h) trivial (Or.inl ⟨by simp[Region.wanted,g1.2.2],fun wx _=>by simp only[execOp,g1.1,Sem.run_bind,Sem.run_pure,Result.andThen_ok,Act.eval]; rw[show (a.put (some 20) v).tmps.getD 1 undef=iI log by have h1':(a.put (some 20) v).tmps[1]?=some (iI log):=h1; simp[h1']]⟩) ?_;rw[g1.2.1];have hA:=hA.put (Below.refl _ _) (d:=21) (Nat.le_of_ble_eq_true (by kernel_rfl)) (.im (iI log)) (cK (by kernel_rfl));have h21:=hA.slot (s:=21) (v:=iI log) (by simp[TV.av]);obtain⟨o2,e2,g2⟩:∃o,(aT (cA rV))[2]?=some o∧o.op=.binOp .shl 3 (.const (iI 1)) (.tmp 21) 3∧o.dst=some 22∧o.guard=none:=⟨_,rfl,rfl,rfl,rfl⟩
 refine aH (i:=2) (v:=iI (2^log)) e2 (by kernel_rfl) (by kernel_rfl) (by kernel_rfl) (by kernel_rfl) (fun _ _ _ h=>hpan _ _ _ _ _ h) trivial (Or.inl ⟨by simp[Region.wanted,g2.2.2],fun wx _=>by
  have:=jG (x:=.const (iI 1)) (y:=.tmp 21) (show log≤28 by omega) wx;rw[Sem.run_bind]at this;have h21':((a.put (some 20) v).put (some 21) (iI log)).tmps[21]?=some (iI log):=h21;simp only[execOp,g2.1,Sem.run_bind,Sem.run_pure,Result.andThen_ok,Act.eval];rw[show ((a.put (some 20) v).put (some 21) (iI log)).tmps.getD 21 undef=iI log by simp[h21']];rw[this];rfl⟩) ?_
 rw[g2.2.1];have hA:=hA.put (Below.refl _ _) (d:=22) (Nat.le_of_ble_eq_true (by kernel_rfl)) (.im (iI (2^log))) (cK (by kernel_rfl));obtain⟨o3,e3,g3⟩:∃o,(aT (cA rV))[3]?=some o∧(∃ts,o.op=.call ⟨.value (.func 36),#[],ts⟩)∧o.dst=some 23∧o.guard=none:=⟨_,rfl,⟨_,rfl⟩,rfl,rfl⟩
 obtain⟨⟨ts3,g3⟩,g3d,g3g⟩:=g3;refine aI (i:=3) (by kernel_rfl) e3 fun K hK => ?_
 rw[if_pos (by simp[Region.wanted,g3g])];refine eW g3 (vs:=[]) rfl (fun args=>bG func36 (by kernel_rfl) (by kernel_rfl) args _) (dY aJ oY (bD _) func36 uE ⟨by omega,trivial⟩ (args:=[]) trivial) fun w2 hb => ?_
 rw[g3d];have hA:=hA.put hb (d:=23) (Nat.le_of_ble_eq_true (by kernel_rfl)) (.fl [.q 1]) (cK (by kernel_rfl));refine hK.out _ _ (Or.inr trivial) (fun _ => ?_);clear hK;have h20:=hA.slot (s:=20) (v:=v) (by simp[TV.av]);have h22:=hA.slot (s:=22) (v:=iI (2^log)) (by simp[TV.av]);have h23:=hA.slotF (s:=23) (l:=[.q 1]) (by simp[TV.av]);obtain⟨o4,e4,g4⟩:∃o,(aT (cA rV))[4]?=some o∧(∃ts,o.op=.call ⟨.value (.func 52),#[.tmp 20,.tmp 22,.tmp 23],ts⟩)∧o.dst=some 24∧o.guard=none:=⟨_,rfl,⟨_,rfl⟩,rfl,rfl⟩
 obtain⟨⟨ts4,g4⟩,g4d,g4g⟩:=g4;refine aI (i:=4) (by kernel_rfl) e4 fun K hK => ?_
 rw[if_pos (by simp[Region.wanted,g4g])];refine eH g4 (vs:=[v,iI (2^log),.agg (aC [At.q 1]).toArray]) (List.cons_eq_cons.2 ⟨wH h20,List.cons_eq_cons.2 ⟨wH h22,List.cons_eq_cons.2 ⟨wH h23,rfl⟩⟩⟩) (fun args=>bG func52 (by kernel_rfl) (by kernel_rfl) args _) (wI (hv.on hA.below) (by omega) hf hp1 (by omega) (by decide)) fun e w2 hr => ?_
 obtain⟨b,b',rfl,hA⟩:=hA.put2 hr (d:=24) (k:=1000) (k':=1001) (Nat.le_of_ble_eq_true (by kernel_rfl)) (by kernel_rfl) (by kernel_rfl) (by kernel_rfl) (by omega) (by decide) (by decide);refine⟨_,rfl,?_⟩;rw[g4d];refine hK.out _ _ (Or.inr trivial) (fun _ => ?_);clear hK;generalize hU:aV b 0 _ _=U at hA ⊢;generalize hU':aV b' 0 _ _=U' at hA ⊢;have h24:=hA.slotT (s:=24) (l:=[.im U,.im U']) (by simp);have h24:_=some (Value.tuple #[U,U']):=h24;obtain⟨o5,e5,g5⟩:∃o,(aT (cA rV))[5]?=some o∧o.op=.move (.tmp 24)∧o.dst=some 19∧o.guard=none:=⟨_,rfl,rfl,rfl,rfl⟩
 refine aH (i:=5) (v:=.tuple #[U,U']) e5 (by kernel_rfl) (by kernel_rfl) (by kernel_rfl) (by kernel_rfl) (fun _ _ _ h=>hpan _ _ _ _ _ h) trivial (MM g5.1 g5.2.2 h24) ?_;rw[g5.2.1];have hA:=hA.put (Below.refl _ _) (d:=19) (Nat.le_of_ble_eq_true (by kernel_rfl)) (.im (.tuple #[U,U'])) (cK (by kernel_rfl));have h19:=hA.slot (s:=19) (v:=.tuple #[U,U']) (by simp[TV.av]);obtain⟨o6,e6,g6⟩:∃o,(aT (cA rV))[6]?=some o∧o.op=.extract (.tmp 19) 0∧o.dst=some 25∧o.guard=none:=⟨_,rfl,rfl,rfl,rfl⟩
 refine aH (i:=6) (v:=U) e6 (by kernel_rfl) (by kernel_rfl) (by kernel_rfl) (by kernel_rfl) (fun _ _ _ h=>hpan _ _ _ _ _ h) trivial (FN g6.1 g6.2.2 h19 rfl) ?_;rw[g6.2.1];have hA:=hA.put (Below.refl _ _) (d:=25) (Nat.le_of_ble_eq_true (by kernel_rfl)) (.im U) (cK (by kernel_rfl));have h19:=hA.slot (s:=19) (v:=.tuple #[U,U']) (by simp[TV.av]);obtain⟨o7,e7,g7⟩:∃o,(aT (cA rV))[7]?=some o∧o.op=.extract (.tmp 19) 1∧o.dst=some 26∧o.guard=none:=⟨_,rfl,rfl,rfl,rfl⟩
 refine aH (i:=7) (v:=U') e7 (by kernel_rfl) (by kernel_rfl) (by kernel_rfl) (by kernel_rfl) (fun _ _ _ h=>hpan _ _ _ _ _ h) trivial (FN g7.1 g7.2.2 h19 rfl) ?_;rw[g7.2.1];have hA:=hA.put (Below.refl _ _) (d:=26) (Nat.le_of_ble_eq_true (by kernel_rfl)) (.im U') (cK (by kernel_rfl));have h25:=hA.slot (s:=25) (v:=U) (by simp[TV.av]);obtain⟨o8,e8,g8⟩:∃o,(aT (cA rV))[8]?=some o∧o.op=.assign (.tmp 25)∧o.dst=some 8∧o.guard=none:=⟨_,rfl,rfl,rfl,rfl⟩
 refine aH (i:=8) (v:=U) e8 (by kernel_rfl) (by kernel_rfl) (by kernel_rfl) (by kernel_rfl) (fun _ _ _ h=>hpan _ _ _ _ _ h) trivial (CO g8.1 g8.2.2 h25) ?_;rw[g8.2.1];have hA:=hA.put (Below.refl _ _) (d:=8) (Nat.le_of_ble_eq_true (by kernel_rfl)) (.im U) (cK (by kernel_rfl));have h26:=hA.slot (s:=26) (v:=U') (by simp[TV.av]);obtain⟨o9,e9,g9⟩:∃o,(aT (cA rV))[9]?=some o∧o.op=.assign (.tmp 26)∧o.dst=some 9∧o.guard=none:=⟨_,rfl,rfl,rfl,rfl⟩
 refine aI (i:=9) (by kernel_rfl) e9 fun K hK => ?_
 rw[if_pos (by simp[Region.wanted,g9.2.2])];refine gT (yF g9.1 h26) ?_;rw[g9.2.1];have hA:=hA.put (Below.refl _ _) (d:=9) (Nat.le_of_ble_eq_true (by kernel_rfl)) (.im U') (cK (by kernel_rfl));refine hK.out _ _ (Or.inl rfl) (fun _=>cG (by kernel_rfl) ?_);subst hU; subst hU';refine hQ b b' _ _ (hA.sub fun φ hφ => ?_);simp only[List.mem_cons,List.not_mem_nil,or_false]at hφ
 rcases hφ with rfl|rfl|rfl|rfl|rfl|rfl
 ·exact List.mem_of_getElem? (i:=1) rfl
 ·exact List.mem_of_getElem? (i:=0) rfl
 ·exact List.mem_of_getElem? (i:=7) rfl
 ·exact List.mem_of_getElem? (i:=8) rfl
 ·exact List.mem_of_getElem? (i:=5) rfl
 ·exact List.mem_of_getElem? (i:=6) rfl
def Ao (w0:World) (n:Nat) (g:Nat→Nat) (n':Nat) (g':Nat→Nat) (e:Int) (en:Ending) (w':World):Prop:=∃u u',en=.returned (.tuple #[u,u',iV e])∧Below w0.heap.size w0 w'∧LW w' u n g∧LW w' u' n' g'
theorem UP {w0 w:World} {a:Act} {u u':Value} {l l':List At} {b b':Nat} (hA:Holds f18.ntmps w0.heap.size w0 (Jb u u'++[.row 1000 true l,.at 1000 b,.row 1001 true l',.at 1001 b']) a w):bodyPost prog f18 (fun e w'=>e=.returned (.tuple #[u,u',iV 0])∧Below w0.heap.size w0 w') .ret a w :=
 bE (l:=[.im u,.im u',.im (iV 0)]) (r:=.many [.im u,.im u',.im (iV 0)]) (by kernel_rfl) (by kernel_rfl) hA
def FY (N:Nat) (f:Nat→Nat) (z:Int):Int:=if rP N f≠0 then rP N f else if gO z 16=false then 71 else 0
theorem tP {w0:World} {v:Value} {N:Nat} {f:Nat→Nat} {z:Int} (hv:LV w0 v N f) (hN:N≤4611686018427387904) :
  (FY N f z≠0→bC prog 18 (.many [.im (.slice none 0 0),.im (.slice none 0 0),.im (iV (FY N f z))]) [v,iV z] w0) ∧
  (FY N f z=0→Calls prog 18 #[v,iV z] w0 (Ao w0 (aD (AJ (2^z.toNat) (aD f N) f) (aD f N-min (2^z.toNat) (aD f N))) (AJ (2^z.toNat) (aD f N) f) (aD (xI (2^z.toNat) (aD f N) f) (min (2^z.toNat) (aD f N))) (xI (2^z.toNat) (aD f N) f) 0)):=by
 have hG:bF prog (qG prog) w0.heap.size w0:=(bD _).w _ _;have hT:∀n d:Nat,TabOkW prog dN w0.heap.size w0:=fun _ _=>aY.w _ _
 have hR:∀n d:Nat,TabOkW prog SK w0.heap.size w0:=fun _ _=>TI.w _ _
 obtain⟨p0,m0,rfl,hm0,h256,hmem⟩:=id hv;have first:∀R:Ending→World→Prop,(∀a w,Holds f18.ntmps w0.heap.size w0 (.slot 7 (.im (.int .i64 (rP N f)))::qR (.slice p0 N m0) z) a w→(cB (cA (cB dC))).wp prog (fun e a w=>match e with | .normal=>(Code.seq (cA (cB (cB dC))) (.seq (.region 6 (aT (cA rV)) true) (cB rV))).wp prog (bodyPost prog f18 R) a w|e=>bodyPost prog f18 R e a w) a w)→Calls prog 18 #[.slice p0 N m0,iV z] w0 R:=fun R hR=>by
  refine bO func18 (cs:=[.v (.im (.slice p0 N m0)),.v (.im (iV z))]) (args:=[.slice p0 N m0,iV z]) (c:=dC) rfl ⟨rfl,rfl,trivial⟩ (Nat.le_of_ble_eq_true (by kernel_rfl)) fun a w1 hA => ?_
  rw[MP];refine wp_seq (aA aJ hT hG (Bc _ z) trivial hA fun a w1 hA => ?_);refine wp_seq (wp_seq (cF (l:=List.range' 0 ((aT (cA (cA (cB dC)))).extract 0 2).size++(2::(List.range' 3 ((aT (cA (cA (cB dC)))).extract 3 4).size++[]))) (by kernel_rfl) ?_));refine aO (c:=bW) (hT 0) hG (Bb p0 N m0 z) trivial (by kernel_rfl) hA fun a w1 hA => ?_
  obtain⟨b2,hB⟩:=hA.at (k:=11) (l:=[.c (.slice p0 N m0)]) (by simp[ZW]);have h11:=(hB.im (s:=11) (k:=11) (o:=0) (n:=1) (m:=1) (b:=b2) (by simp[ZW]) (by simp)).slot (s:=11) (v:=aV b2 0 1 1) (by simp);have o2:oldOf w1 b2 0 [.c (.slice p0 N m0)]:=hB.old (k:=11) (by simp[ZW]) (by simp);obtain⟨o,ho,hoo,hod,hog⟩:∃o,(aT (cA (cA (cB dC))))[2]?=some o∧(∃ts,o.op=.call ⟨.value (.func 51),#[.tmp 11],ts⟩)∧o.dst=some 12∧o.guard=none:=⟨_,rfl,⟨_,rfl⟩,rfl,rfl⟩
  obtain⟨ts,hoo⟩:=hoo;refine cM ho hog (eW hoo (vs:=[aV b2 0 1 1]) (List.cons_eq_cons.2 ⟨wH h11,rfl⟩) (fun args=>bG func51 (by kernel_rfl) (by kernel_rfl) args _) (ET (hv.on hA.below) hN o2) fun w2 hb => ?_);rw[hod];have hA:=hA.put hb (d:=12) (Nat.le_of_ble_eq_true (by kernel_rfl)) (.im (.int .i64 (rP N f))) (cK (by kernel_rfl));refine aO (c:=bW) (hT 0) hG (Ba _ z _) trivial (by kernel_rfl) hA fun a w1 hA => ?_
  exact Code.wp_mono (fun e a w h=>by cases e<;>exact h) (hR a w1 hA)
 unfold FY
 by_cases he:rP N f=0
 ·rw[if_neg (fun q=>q he)];obtain⟨q1,q2⟩:=zU he;have second:∀R:Ending→World→Prop,(∀a w,Holds f18.ntmps w0.heap.size w0 (qR (.slice p0 N m0) z) a w→(Code.seq (cA (cB (cB dC))) (.seq (.region 6 (aT (cA rV)) true) (cB rV))).wp prog (bodyPost prog f18 R) a w)→Calls prog 18 #[.slice p0 N m0,iV z] w0 R:=fun R hQ=>first R fun a w hA=>by
   rw[he]at hA;exact aA aJ hR hG (MO _ z) trivial hA fun a w hA=>hQ a w hA
  by_cases hd:gO z 16=false
  ·rw[if_pos hd];refine⟨fun _=>second _ fun a w hA => ?_,fun h=>by cases h⟩;exact wp_seq (aA aJ hR hG (Ja _ z) ⟨by rw[hd]; rfl,trivial⟩ hA fun a w hA=>bE (l:=[.im (.slice none 0 0),.im (.slice none 0 0),.im (iV 71)]) (r:=.many [.im (.slice none 0 0),.im (.slice none 0 0),.im (iV 71)]) (by kernel_rfl) (by kernel_rfl) hA)
  ·rw[if_neg hd];refine⟨fun h=>absurd rfl h,fun _=>second _ fun a w hA => ?_⟩;have hd2:gO z 16=true:=by simpa using hd
   obtain⟨h1,h2⟩:=zP.1 hd2;obtain⟨log,rfl⟩:∃n:Nat,z=Int.ofNat n:=⟨z.toNat,by show z=((z.toNat:Nat):Int); omega⟩
   have h3:log≤16:=by have:(log:Int)≤16:=h2; omega
   rw[show (Int.ofNat log).toNat=log from rfl];refine wp_seq (aA aJ hR hG (Iz _ _) ⟨by rw[hd2]; rfl,trivial⟩ hA fun a w hA => ?_);refine wp_seq (UO hv q1 q2 h3 hA (fun c a d v w h=>by cases d<;>exact h) fun b b' a w hA => ?_);show (cB rV).wp _ _ _ _;refine aA aJ hT hG (Iy _ _ _ _ b b') trivial hA fun a w hA => ?_
   obtain⟨r1,x,r2,r3⟩:=UP hA;have hfT:bQ (aD f N) f:=fun j hj=>q2 j (Nat.lt_of_lt_of_le hj (bL f N))
   have hlt:bQ (aD f N) (xI (2^log) (aD f N) f):=nC hfT _;have l1:=bL (AJ (2^log) (aD f N) f) (aD f N-min (2^log) (aD f N));have l2:=bL (xI (2^log) (aD f N) f) (min (2^log) (aD f N));have l3:=Nat.min_le_right (2^log) (aD f N);refine⟨r1,x,r2,_,_,r3.1,r3.2,?_,?_⟩
   ·have o:=hA.old (k:=1000) (b:=b) (List.mem_of_getElem? (i:=3) rfl) (List.mem_of_getElem? (i:=4) rfl);exact⟨_,_,rfl,fun j hj=>fS (hlt _ (by omega)),fun _=>⟨b,0,rfl,o.1,o.2⟩⟩
   ·have o:=hA.old (k:=1001) (b:=b') (List.mem_of_getElem? (i:=5) rfl) (List.mem_of_getElem? (i:=6) rfl);exact⟨_,_,rfl,fun j hj=>fS (hlt _ (by omega)),fun _=>⟨b',0,rfl,o.1,o.2⟩⟩
 ·rw[if_pos he];refine⟨fun _=>first _ fun a w hA => ?_,fun h=>absurd h he⟩;exact aA aJ hR hG (UQ _ z _) ⟨DX he,trivial⟩ hA fun a w hA=>bE (l:=[.im (.slice none 0 0),.im (.slice none 0 0),.im (iV (rP N f))]) (r:=.many [.im (.slice none 0 0),.im (.slice none 0 0),.im (iV (rP N f))]) (by kernel_rfl) (by kernel_rfl) hA
theorem NV (log:Nat):kZ prog { qG prog with x:=xG (aE [(4,iI (2^log))]) } (Mb true fun _=>none) f41 40 [.v (.im (iI log))]=some ([dP .shl 3 (.const (iI 1)) (.tmp 3) (iI 1) (iI log) (iI (2^log))],.one (.im (iI (2^log)))):=by kernel_rfl
def Kp:jB
 | [.v (.im (.int .i64 (.ofNat log)))]=>some ([log≤28],.one (.im (iI (2^log))))
 | _=>none
theorem YF:∀cs pre r,Kp cs=some (pre,r)→aQ pre→∀(args:List Value) (w:World),cQ w cs args→bC prog 41 r args w:=by
 intro cs pre r hg hp args w ha;unfold Kp at hg;split at hg
 ·cases hg;exact cL aJ (fun _ _=>JH.w _ _) (kJ _ _ _) func41 (NV _) ⟨jG hp.1,trivial⟩ ha
 ·cases hg
def ZR:Tab:=SK.add 41 Kp
theorem TJ:TabOk prog ZR:=TI.add func41 (by kernel_rfl) (by kernel_rfl) YF
theorem XN (N:Nat) (f g:Nat→Nat):Ad 1 (fun _=>N) (fun _=>f) 0 g=rP N f:=by
 have e1:iE 1 (fun _=>N)↔N≤65536:=⟨fun h=>h 0 (by omega),fun h j hj=>h⟩;have e2:(iR 1 (fun _=>N) (fun _=>f)∧bQ 0 g)↔bQ N f:=⟨fun h=>h.1 0 (by omega),fun h=>⟨fun j hj=>h,fun j hj=>by omega⟩⟩;unfold Ad rP;simp only[e1,e2]
theorem LV.nil0 (w:World) (g:Nat→Nat):LV w (.slice none 0 0) 0 g:=⟨none,0,rfl,Nat.le_refl _,fun j hj=>by omega,fun h=>by omega⟩
theorem KH {w:World} {v:Value} {N b2:Nat} {f:Nat→Nat} (hv:LV w v N f) (h2:oldOf w b2 0 [.c v]):bC prog 38 (.one (.im (.int .i64 (rP N f)))) [aV b2 0 1 1,.slice none 0 0] w:=by
 rw[←XN N f fun _=>0];exact vY (vs:=fun _=>v) ⟨b2,0,1,rfl,h2.1,h2.2⟩ (fun j hj=>hv) (by omega) (LV.nil0 w _) (by omega)
theorem OT {f:Nat→Nat} {N i:Nat} (hi:i<N):∃R,put (aS (el f) 0 N) (0+i*4) FB=some R∧aC R=aC (aS (el (bT f i 0)) 0 N):=by
 have h:=mQ (f:=f) (N:=N) (i:=i) (x:=0) hi;rw[fX (el f) i N 0 hi,oC (aS (el f) 0 i) (el f (0+i)) (aS (el f) (0+i+1) (N-i-1)) [.q 0] (by rw[eV (c:=4) fun _=>rfl,Nat.zero_add]) rfl]at h;refine⟨_,by rw[fX (el f) i N 0 hi,oC (aS (el f) 0 i) (el f (0+i)) (aS (el f) (0+i+1) (N-i-1)) FB (by rw[eV (c:=4) fun _=>rfl,Nat.zero_add]) rfl],?_⟩;rw[←Option.some.inj h];have e:aC FB=aC [.q 0]:=by kernel_rfl
 simp only[aM,e]
def bY:Code:=(f19.body).getD .skip
def kQ:Code:=cB (cB (cB (cB bY)))
def kO:Code:=cB (cB (cB kQ))
def jZ:Code:=fW (fW (cB (cA kO)))
theorem IB:bY=.seq (cA bY) (.seq (.region 1 (aT (cA (cB bY))) false) (.seq (cA (cB (cB bY))) (.seq (cA (cB (cB (cB bY)))) (.seq (cA kQ) (.seq (cA (cB kQ)) (.seq (cA (cB (cB kQ))) (.seq (.seq (cA (cA kO)) (.block 0 (.loop jZ))) (cB kO)))))))):=by kernel_rfl
def iW (v:Value) (z:Int):List Fact:=[.slot 0 (.im v),.slot 1 (.im (iV z))]
def DB (v:Value) (z:Int):List Fact:=.slot 13 (.sl 13 0 1 1) :: .row 13 true [.c v]::iW v z
theorem VN (v:Value) (z:Int):aK prog (qG prog) f19.ntmps (bU fun _=>none) 40 (cA bY) (eK 0 [.v (.im v),.v (.im (iV z))]) (iW v z)=some ([],.nrm,iW v z):=by kernel_rfl
theorem VM (p:Option Addr) (N m:Nat) (z:Int):dV prog (qG prog) f19.ntmps bW ((aT (cA (cB bY))).extract 0 2) (iW (.slice p N m) z) (DB (.slice p N m) z)=some ([],DB (.slice p N m) z):=by kernel_rfl
theorem VL (v:Value) (z e:Int):dV prog (qG prog) f19.ntmps bW ((aT (cA (cB bY))).extract 3 4) (.slot 14 (.im (.int .i64 e))::DB v z) (.slot 7 (.im (.int .i64 e))::iW v z)=some ([],.slot 7 (.im (.int .i64 e))::iW v z):=by kernel_rfl
theorem NQ (v:Value) (z e:Int):aK prog (qG prog) f19.ntmps (bU (aE [(16,.bool true)])) 40 (cA (cB (cB bY))) (.slot 7 (.im (.int .i64 e))::iW v z) (xC e)=some ([aF .neq .i64 e 0=some (.bool true)],.rt,xC e):=by kernel_rfl
theorem IA (v:Value) (z:Int):aK prog (qG prog) f19.ntmps (bU fun _=>none) 40 (cA (cB (cB bY))) (.slot 7 (.im (.int .i64 0))::iW v z) (iW v z)=some ([],.nrm,iW v z):=by kernel_rfl
theorem VQ (v:Value) (z:Int):aK prog (qG prog) f19.ntmps (bU (aE [(19,.bool true)])) 40 (cA (cB (cB (cB bY)))) (iW v z) (xC 71)=some ([aF .lss .i64 z 0=some (.bool true)],.rt,xC 71):=by kernel_rfl
theorem VP (v:Value) (z:Int):aK prog (qG prog) f19.ntmps (bU (aE [(19,.bool false),(22,.bool true)])) 40 (cA (cB (cB (cB bY)))) (iW v z) (xC 71)=some ([aF .lss .i64 z 0=some (.bool false),aF .gtr .i64 z 16=some (.bool true)],.rt,xC 71):=by kernel_rfl
theorem Ch (v:Value) (z:Int):aK prog (qG prog) f19.ntmps (bU (aE [(19,.bool false),(22,.bool false)])) 40 (cA (cB (cB (cB bY)))) (iW v z) (iW v z)=some ([aF .lss .i64 z 0=some (.bool false),aF .gtr .i64 z 16=some (.bool false)],.nrm,iW v z):=by kernel_rfl
def Md (num:Nat→Option Value) (_:Nat):Cfg:=⟨fun _=>ZR,fun _=>true,num⟩
def NR (v:Value) (n:Nat):List Fact:=[.slot 0 (.im v),.slot 8 (.im (iI n))]
theorem VK (v:Value) (log:Nat):aK prog (qG prog) f19.ntmps (Md fun _=>none) 40 (cA kQ) (iW v (Int.ofNat log)) (NR v (2^log))=some ([log≤28],.nrm,NR v (2^log)):=by kernel_rfl
def XT (v:Value) (N:Nat) (f:Nat→Nat):List CA→Option (List Prop×FS)
 | [.v (.im u)]=>some ([u=v,0<aD f N],⟨aS (el f) 0 (aD f N),aD f N,25,4,true,[],[]⟩)
 | _=>none
def XS (v:Value) (N:Nat) (f:Nat→Nat):jB
 | [.v (.im u)]=>some ([u=v,aD f N=0],.one (.im (.slice none 0 0)))
 | _=>none
theorem PY {w:World} {p:Option Addr} {N m:Nat} {f:Nat→Nat} (hv:LV w (.slice p N m) N f) (hN:N≤131072) (hp:p=none→m=0):∀cs pre r,XT (.slice p N m) N f cs=some (pre,r)→aQ pre→∀(args:List Value),cQ w cs args→Calls prog 40 args.toArray w (fun e w'=>r.ok w e w'):=by
 intro cs pre r hg hq args ha;unfold XT at hg;split at hg
 ·cases hg
  match args,ha with
  | [a1],ha =>
   have h1:a1=_:=ha.1;have h2:=hq.1;subst h1; subst h2;exact (gV hv hN hp).2 hq.2.1
  | [],ha=>exact ha.elim
  | _::_::_,ha=>exact ha.2.elim
 ·cases hg
theorem PX {w:World} {p:Option Addr} {N m:Nat} {f:Nat→Nat} (hv:LV w (.slice p N m) N f) (hN:N≤131072) (hp:p=none→m=0):∀cs pre r,XS (.slice p N m) N f cs=some (pre,r)→aQ pre→∀(args:List Value),cQ w cs args→bC prog 40 r args w:=by
 intro cs pre r hg hq args ha;unfold XS at hg;split at hg
 ·cases hg
  match args,ha with
  | [a1],ha =>
   have h1:a1=_:=ha.1;have h2:=hq.1;subst h1; subst h2;exact (gV hv hN hp).1 hq.2.1
  | [],ha=>exact ha.elim
  | _::_::_,ha=>exact ha.2.elim
 ·cases hg
def DA (n T:Nat) (R:List At):List Fact:=[.row 27 true R,.slot 9 (.so 27 T),.slot 8 (.im (iI n)),.app 27 25 4 T]
theorem VJ (v:Value) (n N:Nat) (f:Nat→Nat):aK prog { qG prog with x:=Id (wY.add 40 (XT v N f)) } f19.ntmps (bU fun _=>none) 40 (cA (cB kQ)) (NR v n) (DA n (aD f N) (aS (el f) 0 (aD f N)))=some ([v=v,0<aD f N],.nrm,DA n (aD f N) (aS (el f) 0 (aD f N))):=by kernel_rfl
theorem Holds.soSl {nt base:Nat} {w0:World} {A:List Fact} {a:Act} {w:World} (h:Holds nt base w0 A a w) {s k n e sz:Nat} {l:List At} (h1:Fact.slot s (.so k n)∈A) (h2:Fact.row k true l∈A) (h3:Fact.app k e sz n∈A):∃cap,n≤cap∧Holds nt base w0 (.slot s (.sl k 0 n cap)::A) a w:=by
 obtain⟨β,g1,g2,g3⟩:=h.facts;have e1:=g1 _ h1;obtain⟨_,_,e2,_⟩:=g1 _ h2;obtain⟨_,_,e3,_⟩:=g1 _ h3;have up:∀k1 o1 l1,Fact.row k1 o1 l1∈(Fact.slot s (.sl k 0 n (β k).2.2)::A)→Fact.row k1 o1 l1∈A:=fun k1 o1 l1 e=>by
  rcases List.mem_cons.1 e with e|e
  ·cases e
  ·exact e
 refine⟨(β k).2.2,e3,h.defers,h.size,h.below,h.heap,β,fun φ hφ => ?_,fun k1 k2 o2 l1 l2 q1 q2=>g2 k1 k2 o2 l1 l2 (up _ _ _ q1) (up _ _ _ q2),fun k1 l1 e=>g3.1 k1 l1 (up _ _ _ e),g3.2⟩
 rcases List.mem_cons.1 hφ with rfl|hφ
 ·exact e1
 ·exact g1 φ hφ
def IC (n T cap:Nat) (R:List At):List Fact:=[.row 27 true R,.slot 9 (.sl 27 0 T cap),.slot 8 (.im (iI n))]
def yB (n T cap:Nat) (R Q:List At):List Fact:=[.row 27 true R,.slot 9 (.sl 27 0 T cap),.slot 8 (.im (iI n)),.slot 10 (.sl 30 0 T T),.row 30 true Q]
theorem VI (n T cap:Nat) (R Q:List At):aK prog { qG prog with x:=xM 30 T Q } f19.ntmps (bU fun _=>none) 40 (cA (cB (cB kQ))) (IC n T cap R) (yB n T cap R Q)=some ([∃e,∀w:World,(Instr.makeSlice 22 (iI T) (iI T)).run prog w=.ok (.slice (some ⟨w.heap.size,0,none⟩) T T) (w.alloc (.cells (aC Q).toArray e))],.nrm,yB n T cap R Q):=by kernel_rfl
def sE (n T cap:Nat) (R Q:List At) (z:Int):List Fact:=[.row 27 true R,.slot 9 (.sl 27 0 T cap),.slot 8 (.im (iI n)),.slot 10 (.sl 30 0 T T),.row 30 true Q,.slot 11 (.im (iV z))]
theorem VH (n T cap:Nat) (R Q:List At) (z:Int):aK prog (qG prog) f19.ntmps (bU (aE [(33,iV z)])) 40 (cA (cA kO)) (yB n T cap R Q) (sE n T cap R Q z)=some ([aF .sub .i64 (Int.ofNat T) 1=some (iV z)],.nrm,sE n T cap R Q z):=by kernel_rfl
theorem Ci (n T cap:Nat) (R Q:List At) (z:Int):aK prog (qG prog) f19.ntmps (kC true (aE [(36,.bool false)])) 60 jZ (sE n T cap R Q z) (yB n T cap R Q)=some ([aF .geq .i64 z (Int.ofNat n)=some (.bool false)],.ex 0,yB n T cap R Q):=by kernel_rfl
theorem VO (n T cap i k a b:Nat) (R Q Q' R1 R2:List At) (z:Int):aK prog { qG prog with x:=xA (aE [(45,i),(47,k),(56,k),(60,i),(63,k),(67,i)]) (aE [(46,[.q a]),(57,[.q b]),(61,[.q a])]) (aE [(47,Q'),(63,R1),(67,R2)]) (fun _=>none) } f19.ntmps (kC true (aE [(36,.bool true),(42,iI k),(51,iI k),(55,iI k),(38,iV z)])) 60 jZ (sE n T cap R Q (Int.ofNat i)) (sE n T cap R2 Q' z) =
  some ([aF .geq .i64 (Int.ofNat i) (Int.ofNat n)=some (.bool true),aF .sub .i64 (Int.ofNat i) (Int.ofNat n)=some (iI k),Int.ofNat i=Int.ofNat i,i<T,oA R (0+i*4) 4=some [.q a],Int.ofNat k=Int.ofNat k,k<T,put Q (0+k*4) [.q a]=some Q',aF .sub .i64 (Int.ofNat i) (Int.ofNat n)=some (iI k),aF .sub .i64 (Int.ofNat i) (Int.ofNat n)=some (iI k),Int.ofNat k=Int.ofNat k,k<T,oA R (0+k*4) 4=some [.q b],Int.ofNat i=Int.ofNat i,i<T,oA R (0+i*4) 4=some [.q a],b<RM,a<RM,Int.ofNat k=Int.ofNat k,k<T,put R (0+k*4) [.q (jM b a)]=some R1,Int.ofNat i=Int.ofNat i,i<T,put R1 (0+i*4) FB=some R2,aF .sub .i64 (Int.ofNat i) 1=some (iV z)],.nrm,sE n T cap R2 Q' z):=by kernel_rfl
def vR (n T:Nat) (f:Nat→Nat):Nat→Nat→Nat
 | 0=>f
 | p+1=>bT (bT (vR n T f p) (T-1-p-n) (jM (vR n T f p (T-1-p-n)) (vR n T f p (T-1-p)))) (T-1-p) 0
def vQ (n T:Nat) (f:Nat→Nat):Nat→Nat→Nat
 | 0=>fun _=>0
 | p+1=>bT (vQ n T f p) (T-1-p-n) (vR n T f p (T-1-p))
theorem AK {n T:Nat} {f:Nat→Nat} (h:bQ T f):∀p,bQ T (vR n T f p)
 | 0=>h
 | p+1=>fun j hj=>by
  unfold vR bT;split
  ·exact gB
  ·split
   ·exact mP _ _
   ·exact AK h p j hj
theorem OE {y:Nat} (h:y<RM):fU 1 y=y:=by unfold fU; rw[Nat.one_mul,Nat.mod_eq_of_lt h]
theorem GD {n T:Nat} {f:Nat→Nat} (hn:1≤n) (hf:bQ T f):∀p,p+n≤T→∀j,j<T→vR n T f p j=if T-p≤j then 0 else jU n 1 T f p j
 | 0,hp,j,hj=>by rw[if_neg (by omega)]; rfl
 | p+1,hp,j,hj=>by
  have ih:=GD hn hf p (by omega);show bT (bT (vR n T f p) (T-1-p-n) (jM (vR n T f p (T-1-p-n)) (vR n T f p (T-1-p)))) (T-1-p) 0 j=if T-(p+1)≤j then 0 else bT (jU n 1 T f p) (T-n-1-p) (jM (jU n 1 T f p (T-n-1-p)) (fU 1 (jU n 1 T f p (T-n-1-p+n)))) j
  have e1:T-1-p-n=T-n-1-p:=by omega
  have e2:T-n-1-p+n=T-1-p:=by omega
  rw[e1,e2,ih (T-n-1-p) (by omega),ih (T-1-p) (by omega),if_neg (by omega),if_neg (by omega),OE (nC hf p (T-1-p) (by omega))];unfold bT
  by_cases h1:j=T-1-p
  ·rw[if_pos h1,if_pos (by omega)]
  ·rw[if_neg h1]
   by_cases h2:j=T-n-1-p
   ·rw[if_pos h2,if_neg (by omega),if_pos h2]
   ·rw[if_neg h2,ih j hj]
    by_cases h3:T-p≤j
    ·rw[if_pos h3,if_pos (by omega)]
    ·rw[if_neg h3,if_neg (by omega),if_neg h2]
theorem SU {n T:Nat} {f:Nat→Nat} (hn:1≤n) (hf:bQ T f):∀p,p+n≤T→∀j,j<T→vQ n T f p j=if T-p-n≤j∧j<T-n then jU n 1 T f p (n+j)else 0
 | 0,hp,j,hj=>by rw[if_neg (by omega)]; rfl
 | p+1,hp,j,hj=>by
  have ih:=SU hn hf p (by omega);show bT (vQ n T f p) (T-1-p-n) (vR n T f p (T-1-p)) j=if T-(p+1)-n≤j∧j<T-n then bT (jU n 1 T f p) (T-n-1-p) (jM (jU n 1 T f p (T-n-1-p)) (fU 1 (jU n 1 T f p (T-n-1-p+n)))) (n+j)else 0
  rw[GD hn hf p (by omega) (T-1-p) (by omega),if_neg (by omega)];unfold bT
  by_cases h1:j=T-1-p-n
  ·rw[if_pos h1,if_pos (by omega),if_neg (by omega),h1,show n+(T-1-p-n)=T-1-p by omega]
  ·rw[if_neg h1,ih j hj]
   by_cases h2:T-p-n≤j∧j<T-n
   ·rw[if_pos h2,if_pos (by omega),if_neg (by omega)]
   ·rw[if_neg h2,if_neg (by omega)]
theorem FZ {n T:Nat} {f:Nat→Nat} (hn:1≤n) (hf:bQ T f) :
  (aD (AJ n T f) (T-min n T)=aD (vQ n T f (T-n)) T∧∀j,j<aD (AJ n T f) (T-min n T)→AJ n T f j=vQ n T f (T-n) j) ∧
  (aD (xI n T f) (min n T)=aD (vR n T f (T-n)) T∧∀j,j<aD (xI n T f) (min n T)→xI n T f j=vR n T f (T-n) j):=by
 by_cases h:n≤T
 ·have eq:=SU hn hf (T-n) (by omega);have er:=GD hn hf (T-n) (by omega);have q:∀j,j<T-n→AJ n T f j=vQ n T f (T-n) j:=fun j hj=>by
   rw[eq j (by omega),if_pos (by omega)];unfold AJ xI;rw[show min n T=n by omega]
  have r:∀j,j<n→xI n T f j=vR n T f (T-n) j:=fun j hj=>by
   rw[er j (by omega),if_neg (by omega)];rfl
  rw[show min n T=n by omega];refine⟨⟨lK (fun j h1 h2=>q j h1) (fun j h1 h2=>by omega) fun j h1 h2=>by rw[eq j h2,if_neg (by omega)],fun j hj=>q j ?_⟩,⟨lK (fun j h1 h2=>r j h1) (fun j h1 h2=>by omega) fun j h1 h2=>by rw[er j h2,if_pos (by omega)],fun j hj=>r j ?_⟩⟩
  ·have:=bL (AJ n T f) (T-n); omega
  ·have:=bL (xI n T f) n; omega
 ·have e0:T-n=0:=by omega
  rw[show min n T=T by omega,Nat.sub_self,e0];refine⟨⟨?_,fun j hj=>by have:=bL (AJ n T f) 0; omega⟩,?_,fun j hj => ?_⟩
  ·refine lK (fun j h1 h2=>by omega) (fun j h1 h2=>by omega) fun j h1 h2=>rfl
  ·show aD (jU n 1 T f (T-n)) T=aD f T;rw[e0]; rfl
  ·show jU n 1 T f (T-n) j=f j;rw[e0]; rfl
def eE:Value:=.slice none 0 0
def MY (s:Nat):Bool→Nat→List At→List Fact
 | true,n,l=>[.slot s (.so s n),.row s true l]
 | false,_,_=>[.slot s (.im eE)]
def SV (s k:Nat):Bool→Nat→List At→List Fact
 | true,n,l=>[.slot s (.so k n),.row k true l]
 | false,_,_=>[.slot s (.im eE)]
def Jz (T cap:Nat) (R:List At):List Fact:=[.row 27 true R,.slot 9 (.sl 27 0 T cap)]
def VG:Array Oper:=aT (cA (cB kO))
theorem NP:cB kO=.seq (.region 15 VG false) .ret:=by kernel_rfl
def Bq (b:Bool) (N:Nat) (g:Nat→Nat):Cfg:=⟨fun _=>bif b then dN else dN.add 40 (PZ N g),fun _=>true,fun _=>none⟩
def Jf (b:Bool) (N:Nat) (g:Nat→Nat):EqT:={ qG prog with x:=Id (bif b then wY.add 40 (PW N g)else wY) }
def Lt (b:Bool) (l:List At) (N m:Nat) (g:Nat→Nat):List Prop:=[aC l=aC (aS (el g) 0 N),N=N,N≤m,(∀j,j<N→g j<bJ),N≤131072,bif b then 0<aD g N else aD g N=0]
theorem Jy (b:Bool) (n T cap:Nat) (R Q:List At) (g:Nat→Nat):dV prog (Jf b T g) f19.ntmps (Bq b T g) (VG.extract 0 2) (yB n T cap R Q) (MY 69 b (aD g T) (aS (el g) 0 (aD g T))++Jz T cap R)=some (Lt b Q T T g,MY 69 b (aD g T) (aS (el g) 0 (aD g T))++Jz T cap R):=by cases b<;>kernel_rfl
theorem Jx (a b:Bool) (T cap n1:Nat) (R l1:List At) (g:Nat→Nat):dV prog (Jf b T g) f19.ntmps (Bq b T g) (VG.extract 2 4) (MY 69 a n1 l1++Jz T cap R) (MY 71 b (aD g T) (aS (el g) 0 (aD g T))++MY 69 a n1 l1)=some (Lt b R T cap g,MY 71 b (aD g T) (aS (el g) 0 (aD g T))++MY 69 a n1 l1):=by cases a<;>cases b<;>kernel_rfl
theorem Jw (a b:Bool) (n1 n2:Nat) (l1 l2:List At):dV prog (qG prog) f19.ntmps bW (VG.extract 4 7) (MY 71 b n2 l2++MY 69 a n1 l1) (SV 4 69 a n1 l1++(SV 5 71 b n2 l2++[.slot 6 (.im (iV 0))]))=some ([],SV 4 69 a n1 l1++(SV 5 71 b n2 l2++[.slot 6 (.im (iV 0))])):=by cases a<;>cases b<;>kernel_rfl
theorem GJ (b:Bool) (N:Nat) (g:Nat→Nat) (base:Nat) (w:World) (d:Nat):TabOkW prog ((Bq b N g).T d) base w:=by
 cases b
 ·exact (aY.add func40 (by kernel_rfl) (by kernel_rfl) BJ).w _ _
 ·exact aY.w _ _
theorem GI (b:Bool) (N:Nat) (g:Nat→Nat) (base:Nat) (w:World):bF prog (Jf b N g) base w:=by
 cases b
 ·exact rU fun w' hw=>FsAt.none _ _
 ·exact rU fun w' hw=>(FsAt.none _ _).add func40 (by kernel_rfl) (by kernel_rfl) fun cs pre r h1 h2 args ha=>BI cs pre r h1 h2 args w' ha
theorem MH (w:World) (g:Nat→Nat):LW w eE 0 g:=⟨none,0,rfl,fun j h=>by omega,fun h=>by omega⟩
theorem Holds.lwY {nt base:Nat} {w0:World} {A:List Fact} {a:Act} {w:World} (h:Holds nt base w0 A a w) {s k n:Nat} {b:Bool} {g:Nat→Nat} (h1:∀φ∈SV s k b n (aS (el g) 0 n),φ∈A) (hb:b=false→n=0) (hg:∀j,j<n→g j<bJ):∃u,a.tmps[s]?=some u∧LW w u n g:=by
 obtain⟨β,g1,_⟩:=h.facts;cases b with
 | false =>
  have e:=g1 _ (h1 (.slot s (.im eE)) (by simp[SV]));rw[hb rfl];exact⟨eE,e,MH w g⟩
 | true =>
  have e:=g1 _ (h1 (.slot s (.so k n)) (by simp[SV]));obtain⟨e1,e2,e3,_⟩:=g1 _ (h1 (.row k true (aS (el g) 0 n)) (by simp[SV]));obtain⟨_,e4,_⟩:=e3 rfl;refine⟨_,e,some ⟨(β k).1,(β k).2.1,none⟩,(β k).2.2,rfl,hg,fun _=>⟨(β k).1,(β k).2.1,rfl,e1,e2⟩⟩
theorem AM {w0 w:World} {a:Act} {u u':Value} {n n':Nat} {g g':Nat→Nat} {e:Int} (hd:a.defers=[]) (hb:Below w0.heap.size w0 w) (h4:a.tmps[4]?=some u) (h5:a.tmps[5]?=some u') (h6:a.tmps[6]?=some (iV e)) (l1:LW w u n g) (l2:LW w u' n' g') :
  bodyPost prog f19 (Ao w0 n g n' g' e) .ret a w:=by
 have hres:(results f19 a.tmps).run prog w=.ok (.tuple #[u,u',iV e]) w:=by
  show ((f19.results.mapM (fE a.tmps)) >>= fun vs=>pure (if h:vs.size=1 then vs[0]else .tuple vs):Sem Value).run prog w=_;have q:∀{s:Nat} {v:Value},a.tmps[s]?=some v→(fE a.tmps (.tmp s)).run prog w=.ok v w:=fun {s v} h=>by
   show (pure (a.tmps.getD s undef):Sem Value).run prog w=_;rw[show a.tmps.getD s undef=v by simp[h]]; rfl
  have hm:(List.toArray <$> f19.results.toList.mapM (fE a.tmps)).run prog w=.ok [u,u',iV e].toArray w:=by
   rw[show f19.results = #[.tmp 4,.tmp 5,.tmp 6]from rfl];simp[List.mapM_cons,q h4,q h5,q h6]
  rw[Array.mapM_eq_mapM_toList,Sem.run_bind,hm,Result.andThen_ok,Sem.run_pure];rw[dif_neg (by simp)]
 exact⟨hd,_,hres,u,u',rfl,hb,l1,l2⟩
theorem Cg {w0:World} {n T cap:Nat} {gR gQ:Nat→Nat} (hT:T≤131072) (hc:T≤cap) (hR:∀j,j<T→gR j<bJ) (hQ:∀j,j<T→gQ j<bJ) {a:Act} {w:World} (hA:Holds f19.ntmps w0.heap.size w0 (yB n T cap (aS (el gR) 0 T) (aS (el gQ) 0 T)) a w) :
  (cB kO).wp prog (bodyPost prog f19 (Ao w0 (aD gQ T) gQ (aD gR T) gR 0)) a w:=by
 have l1:=bL gQ T;have l2:=bL gR T;obtain⟨b1,c1,d1⟩:∃b:Bool,(bif b then 0<aD gQ T else aD gQ T=0)∧(b=false→aD gQ T=0):=by
  by_cases h:0<aD gQ T
  ·exact⟨true,h,fun h=>by cases h⟩
  ·exact⟨false,show aD gQ T=0 by omega,fun _=>by omega⟩
 obtain⟨b2,c2,d2⟩:∃b:Bool,(bif b then 0<aD gR T else aD gR T=0)∧(b=false→aD gR T=0):=by
  by_cases h:0<aD gR T
  ·exact⟨true,h,fun h=>by cases h⟩
  ·exact⟨false,show aD gR T=0 by omega,fun _=>by omega⟩
 rw[NP];refine wp_seq (cF (l:=List.range' 0 (VG.extract 0 2).size++(List.range' 2 (VG.extract 2 4).size++(List.range' 4 (VG.extract 4 7).size++[]))) (by kernel_rfl) ?_);refine aO (c:=Bq b1 T gQ) (GJ b1 T gQ _ _) (GI b1 T gQ _ _) (Jy b1 n T cap _ _ gQ) ⟨rfl,rfl,Nat.le_refl _,hQ,hT,c1,trivial⟩ (by kernel_rfl) hA fun a w hA => ?_
 refine aO (c:=Bq b2 T gR) (GJ b2 T gR _ _) (GI b2 T gR _ _) (Jx b1 b2 T cap _ _ _ gR) ⟨rfl,rfl,hc,hR,hT,c2,trivial⟩ (by kernel_rfl) hA fun a w hA => ?_
 refine aO (c:=bW) (fun _=>aY.w _ _) ((bD _).w _ _) (Jw b1 b2 _ _ _ _) trivial (by kernel_rfl) hA fun a w hA=>wp_ret ?_
 obtain⟨u,h4,k1⟩:=hA.lwY (s:=4) (k:=69) (b:=b1) (n:=aD gQ T) (g:=gQ) (fun φ hφ=>List.mem_append.2 (Or.inl hφ)) d1 fun j hj=>hQ j (by omega)
 obtain⟨u',h5,k2⟩:=hA.lwY (s:=5) (k:=71) (b:=b2) (n:=aD gR T) (g:=gR) (fun φ hφ=>List.mem_append.2 (Or.inr (List.mem_append.2 (Or.inl hφ)))) d2 fun j hj=>hR j (by omega)
 have h6:=hA.slot (s:=6) (v:=iV 0) (List.mem_append.2 (Or.inr (List.mem_append.2 (Or.inr (List.mem_singleton.2 rfl)))));exact AM hA.defers hA.below h4 h5 h6 k1 k2
def XR:jB
 | [.s l n m]=>some ([aC l=[],n=0,True],.one (.im eE))
 | [.v (.im u)]=>some ([u=eE],.one (.im eE))
 | _=>none
theorem PV:∀cs pre r,XR cs=some (pre,r)→aQ pre→∀(args:List Value) (w:World),cQ w cs args→bC prog 40 r args w:=by
 intro cs pre r hg hp args w ha;have nn:aD (fun _=>0) 0=0:=rfl;unfold XR at hg;split at hg
 ·rename_i l n m;cases hg
  match args,ha with
  | [a1],ha =>
   obtain⟨b,o,rfl,hb,hr⟩:=ha.1;have h2:=hp.2.1;subst h2;exact (gV (f:=fun _=>0) (N:=0) (m:=m) ⟨_,_,rfl,Nat.zero_le _,fun j hj=>by omega,fun h=>by omega⟩ (by omega) fun h=>by cases h).1 nn
  | [],ha=>exact ha.elim
  | _::_::_,ha=>exact ha.2.elim
 ·cases hg
  match args,ha with
  | [a1],ha =>
   have h1:a1=_:=ha.1;have h2:=hp.1;subst h1; subst h2;exact (gV (p:=none) (f:=fun _=>0) (N:=0) (m:=0) (LV.nil w _) (by omega) fun _=>rfl).1 nn
  | [],ha=>exact ha.elim
  | _::_::_,ha=>exact ha.2.elim
 ·cases hg
def Jv (n:Nat):List Fact:=[.slot 9 (.im eE),.slot 8 (.im (iI n))]
theorem Ju (v:Value) (n N:Nat) (f:Nat→Nat):aK prog (qG prog) f19.ntmps (fun _=>⟨fun _=>dN.add 40 (XS v N f),fun _=>true,fun _=>none⟩) 40 (cA (cB kQ)) (NR v n) (Jv n)=some ([v=v,aD f N=0],.nrm,Jv n):=by kernel_rfl
def SY (n:Nat):List Fact:=[.slot 9 (.im eE),.slot 8 (.im (iI n)),.slot 10 (.sl 30 0 0 0),.row 30 true []]
theorem Jt (n:Nat):aK prog { qG prog with x:=xM 30 0 [] } f19.ntmps (bU fun _=>none) 40 (cA (cB (cB kQ))) (Jv n) (SY n)=some ([∃e,∀w:World,(Instr.makeSlice 22 (iI 0) (iI 0)).run prog w=.ok (.slice (some ⟨w.heap.size,0,none⟩) 0 0) (w.alloc (.cells (aC []).toArray e))],.nrm,SY n):=by kernel_rfl
def If (n:Nat):List Fact:=.slot 11 (.im (iV (-1)))::SY n
theorem Js (n:Nat):aK prog (qG prog) f19.ntmps (bU (aE [(33,iV (-1))])) 40 (cA (cA kO)) (SY n) (If n)=some ([aF .sub .i64 (Int.ofNat 0) 1=some (iV (-1))],.nrm,If n):=by kernel_rfl
theorem Jr (n:Nat):aK prog (qG prog) f19.ntmps (kC true (aE [(36,.bool false)])) 60 jZ (If n) (SY n)=some ([aF .geq .i64 (-1) (Int.ofNat n)=some (.bool false)],.ex 0,SY n):=by kernel_rfl
theorem Jq (n:Nat):aK prog (qG prog) f19.ntmps (fun _=>⟨fun _=>dN.add 40 XR,fun _=>true,fun _=>none⟩) 40 (cB kO) (SY n) (xC 0)=some ([aC ([]:List At)=[],0=0,True,eE=eE],.rt,xC 0):=by kernel_rfl
theorem qT {w0:World} {p0:Option Addr} {N m0:Nat} {f:Nat→Nat} {z:Int} (hv:LV w0 (.slice p0 N m0) N f) (hp:p0=none→m0=0) :
  (FY N f z≠0→bC prog 19 (.many [.im eE,.im eE,.im (iV (FY N f z))]) [.slice p0 N m0,iV z] w0) ∧
  (FY N f z=0→Calls prog 19 #[.slice p0 N m0,iV z] w0 (Ao w0 (aD (vQ (2^z.toNat) (aD f N) f (aD f N-2^z.toNat)) (aD f N)) (vQ (2^z.toNat) (aD f N) f (aD f N-2^z.toNat)) (aD (vR (2^z.toNat) (aD f N) f (aD f N-2^z.toNat)) (aD f N)) (vR (2^z.toNat) (aD f N) f (aD f N-2^z.toNat)) 0)):=by
 have hG:bF prog (qG prog) w0.heap.size w0:=(bD _).w _ _;have hT:∀n d:Nat,TabOkW prog dN w0.heap.size w0:=fun _ _=>aY.w _ _
 have first:∀R:Ending→World→Prop,(∀a w,Holds f19.ntmps w0.heap.size w0 (.slot 7 (.im (.int .i64 (rP N f)))::iW (.slice p0 N m0) z) a w→(Code.seq (cA (cB (cB bY))) (.seq (cA (cB (cB (cB bY)))) (.seq (cA kQ) (.seq (cA (cB kQ)) (.seq (cA (cB (cB kQ))) (.seq (.seq (cA (cA kO)) (.block 0 (.loop jZ))) (cB kO))))))).wp prog (bodyPost prog f19 R) a w)→Calls prog 19 #[.slice p0 N m0,iV z] w0 R:=fun R hR=>by
  refine bO func19 (cs:=[.v (.im (.slice p0 N m0)),.v (.im (iV z))]) (args:=[.slice p0 N m0,iV z]) (c:=bY) rfl ⟨rfl,rfl,trivial⟩ (Nat.le_of_ble_eq_true (by kernel_rfl)) fun a w1 hA => ?_
  rw[IB];refine wp_seq (aA aJ hT hG (VN _ z) trivial hA fun a w1 hA => ?_);refine wp_seq (cF (l:=List.range' 0 ((aT (cA (cB bY))).extract 0 2).size++(2::(List.range' 3 ((aT (cA (cB bY))).extract 3 4).size++[]))) (by kernel_rfl) ?_);refine aO (c:=bW) (hT 0) hG (VM p0 N m0 z) trivial (by kernel_rfl) hA fun a w1 hA => ?_
  obtain⟨b2,hB⟩:=hA.at (k:=13) (l:=[.c (.slice p0 N m0)]) (by simp[DB]);have h13:=(hB.im (s:=13) (k:=13) (o:=0) (n:=1) (m:=1) (b:=b2) (by simp[DB]) (by simp)).slot (s:=13) (v:=aV b2 0 1 1) (by simp);have o2:oldOf w1 b2 0 [.c (.slice p0 N m0)]:=hB.old (k:=13) (by simp[DB]) (by simp);obtain⟨o,ho,hoo,hod,hog⟩:∃o,(aT (cA (cB bY)))[2]?=some o∧(∃ts,o.op=.call ⟨.value (.func 38),#[.tmp 13,.const (.slice none 0 0)],ts⟩)∧o.dst=some 14∧o.guard=none:=⟨_,rfl,⟨_,rfl⟩,rfl,rfl⟩
  obtain⟨ts,hoo⟩:=hoo;refine cM ho hog (eW hoo (vs:=[aV b2 0 1 1,.slice none 0 0]) (List.cons_eq_cons.2 ⟨wH h13,rfl⟩) (fun args=>bG func38 (by kernel_rfl) (by kernel_rfl) args _) (KH (hv.on hA.below) o2) fun w2 hb => ?_);rw[hod];have hA:=hA.put hb (d:=14) (Nat.le_of_ble_eq_true (by kernel_rfl)) (.im (.int .i64 (rP N f))) (cK (by kernel_rfl));exact aO (c:=bW) (hT 0) hG (VL _ z _) trivial (by kernel_rfl) hA fun a w1 hA=>hR a w1 hA
 have err:∀{e:Int} {a w},Holds f19.ntmps w0.heap.size w0 (xC e) a w→bodyPost prog f19 (fun e' w'=>e'=.returned (RV.den (.many [.im eE,.im eE,.im (iV e)]))∧Below w0.heap.size w0 w') .ret a w:=fun {e a w} hA=>bE (l:=[.im eE,.im eE,.im (iV e)]) (r:=.many [.im eE,.im eE,.im (iV e)]) (by kernel_rfl) (by kernel_rfl) hA
 unfold FY
 by_cases he:rP N f=0
 ·rw[if_neg (fun q=>q he)];obtain⟨q1,q2⟩:=zU he;have second:∀R:Ending→World→Prop,(∀a w,Holds f19.ntmps w0.heap.size w0 (iW (.slice p0 N m0) z) a w→(Code.seq (cA (cB (cB (cB bY)))) (.seq (cA kQ) (.seq (cA (cB kQ)) (.seq (cA (cB (cB kQ))) (.seq (.seq (cA (cA kO)) (.block 0 (.loop jZ))) (cB kO)))))).wp prog (bodyPost prog f19 R) a w)→Calls prog 19 #[.slice p0 N m0,iV z] w0 R:=fun R hQ=>first R fun a w hA=>by
   rw[he]at hA;exact wp_seq (aA aJ hT hG (IA _ z) trivial hA fun a w hA=>hQ a w hA)
  by_cases hd:gO z 16=false
  ·rw[if_pos hd];refine⟨fun _=>second _ fun a w hA => ?_,fun h=>by cases h⟩
   by_cases h1:z<0
   ·exact wp_seq (aA aJ hT hG (VQ _ z) ⟨by rw[rG,decide_eq_true h1],trivial⟩ hA fun a w hA=>err hA)
   ·have h2:z>16:=by
     rcases Int.lt_or_le 16 z with q|q
     ·exact q
     ·have:=zP.2 ⟨show 0≤z by omega,q⟩;rw[hd]at this;cases this
    exact wp_seq (aA aJ hT hG (VP _ z) ⟨by rw[rG,decide_eq_false h1],by rw[BH,decide_eq_true h2],trivial⟩ hA fun a w hA=>err hA)
  ·rw[if_neg hd];refine⟨fun h=>absurd rfl h,fun _=>second _ fun a w hA => ?_⟩;have hd2:gO z 16=true:=by simpa using hd
   obtain⟨h1,h2⟩:=zP.1 hd2;obtain⟨log,rfl⟩:∃n:Nat,z=Int.ofNat n:=⟨z.toNat,by show z=((z.toNat:Nat):Int); omega⟩
   have h3:log≤16:=by have:(log:Int)≤16:=h2; omega
   rw[show (Int.ofNat log).toNat=log from rfl];have hp1:0<2^log:=Nat.pow_pos (by omega);refine wp_seq (aA aJ hT hG (Ch _ _) ⟨by rw[rG,decide_eq_false (by omega)],by rw[BH,decide_eq_false (by omega)],trivial⟩ hA fun a w hA => ?_);refine wp_seq (aA aJ (fun _ _=>TJ.w _ _) hG (VK _ log) ⟨by omega,trivial⟩ hA fun a w hA => ?_);generalize 2^log=n at hp1 hA ⊢;have hfT:bQ (aD f N) f:=fun j hj=>q2 j (Nat.lt_of_lt_of_le hj (bL f N))
   have hle:=bL f N
   by_cases h0:aD f N=0
   ·refine wp_seq (aA aJ (fun _ _=>TabOkW.add (aY.w _ _) func40 (by kernel_rfl) (by kernel_rfl) fun w hw=>PX (hv.on hw) (by omega) hp) hG (Ju _ n N f) ⟨rfl,h0,trivial⟩ hA fun a w hA => ?_);refine wp_seq (aA aJ hT (tN 30 0 [] _ _) (Jt n) ⟨vT (t:=22) (e:=25) (z:=[.q 0]) (v:=.int .u64 0) (n:=4) (by8:=32) (N:=0) (by kernel_rfl) (by kernel_rfl) rfl jT (by omega) (by omega) (by omega),trivial⟩ hA fun a w hA => ?_);refine wp_seq (wp_seq (aA aJ hT hG (Js n) ⟨rfl,trivial⟩ hA fun a w hA => ?_));refine wp_block ?_;refine cC aJ (fun _=>If n) 0 (fun i hi=>by omega) (.ex 0) (by simp) (SY n) ⟨_,_,_,_,hG,fun _ _=>nL.w _ _,Jr n,by show some (Value.bool (decide ((-1:Int)≥Int.ofNat n)))=_; rw[decide_eq_false (by simp; omega)],trivial⟩ hA fun a w hA => ?_
    show (cB kO).wp _ _ _ _;refine aA aJ (fun _ _=>(aY.add func40 (by kernel_rfl) (by kernel_rfl) PV).w _ _) hG (Jq n) ⟨rfl,rfl,trivial,rfl,trivial⟩ hA fun a w hA => ?_
    rw[h0];exact AM hA.defers hA.below (hA.slot (s:=4) (v:=eE) (by simp[xC,eE])) (hA.slot (s:=5) (v:=eE) (by simp[xC,eE])) (hA.slot (s:=6) (v:=iV 0) (by simp[xC])) (MH w _) (MH w _)
   ·have h0':0<aD f N:=by omega
    refine wp_seq (aA aJ hT (rU fun w' hw=>(FsAt.none _ _).add func40 (by kernel_rfl) (by kernel_rfl) (PY (hv.on hw) (by omega) hp)) (VJ _ n N f) ⟨rfl,h0',trivial⟩ hA fun a w hA => ?_);generalize aD f N=T at h0 h0' hA hfT hle ⊢;obtain⟨cap,hcap,hA⟩:=hA.soSl (s:=9) (k:=27) (n:=T) (e:=25) (sz:=4) (l:=aS (el f) 0 T) (by simp[DA]) (by simp[DA]) (by simp[DA]);have hA:Holds _ _ _ (IC n T cap (aS (el f) 0 T)) a w:=hA.sub fun φ hφ=>by
     simp only[IC,List.mem_cons,List.not_mem_nil,or_false]at hφ
     rcases hφ with rfl|rfl|rfl<;>simp[DA]
    refine wp_seq (aA aJ hT (tN 30 T (aS (el fun _=>0) 0 T) _ _) (VI n T cap _ (aS (el fun _=>0) 0 T)) ⟨vT (t:=22) (e:=25) (z:=[.q 0]) (v:=.int .u64 0) (n:=4) (by8:=32) (by kernel_rfl) (by kernel_rfl) rfl jT (by omega) (by omega) (by omega),trivial⟩ hA fun a w hA => ?_);refine wp_seq (wp_seq (aA aJ hT hG (VH n T cap _ _ (Int.ofNat T-1)) ⟨pL (by simp; omega) (by simp; omega),trivial⟩ hA fun a w hA => ?_));refine wp_block ?_;have hvq:∀p,∀j,j<T→vQ n T f p j<bJ:=fun p=>by
     induction p with
     | zero=>exact fun j hj=>by show 0<bJ; decide
     | succ p ih =>
      intro j hj;show bT (vQ n T f p) (T-1-p-n) (vR n T f p (T-1-p)) j<bJ;unfold bT;split
      ·exact fS (AK hfT p _ (by omega))
      ·exact ih j hj
    refine gZ (fun p a w=>Holds f19.ntmps w0.heap.size w0 (sE n T cap (aS (el (vR n T f p)) 0 T) (aS (el (vQ n T f p)) 0 T) (Int.ofNat T-1-Int.ofNat p)) a w) (T-n) (fun p hp' a w hA R hR => ?_) (fun a w hA R => ?_) (by
     have e:Int.ofNat T-1-Int.ofNat 0=Int.ofNat T-1:=by simp
     show Holds _ _ _ (sE n T cap _ _ (Int.ofNat T-1-Int.ofNat 0)) _ _;rw[e];exact hA)
    ·have ez:Int.ofNat T-1-Int.ofNat p=Int.ofNat (T-1-p):=by simp; omega
     have ez2:Int.ofNat T-1-Int.ofNat (p+1)=Int.ofNat (T-1-p)-1:=by simp; omega
     rw[ez]at hA;have hb1 : -9223372036854775808≤Int.ofNat (T-1-p)-1:=by simp; omega
     have hb2:Int.ofNat (T-1-p)-1<9223372036854775808:=by simp; omega
     have hi:T-1-p<T:=by omega
     have hk:T-1-p-n<T:=by omega
     have hs:aF .sub .i64 (Int.ofNat (T-1-p)) (Int.ofNat n)=some (iI (T-1-p-n)):=AX (by omega) (by omega);obtain⟨R2,hz1,hz2⟩:=OT (f:=bT (vR n T f p) (T-1-p-n) (jM (vR n T f p (T-1-p-n)) (vR n T f p (T-1-p)))) hi;have hlt:=AK (n:=n) hfT p;refine aA aJ (fun _ _=>nL.w _ _) (tO _ _ _ _ _ _) (VO n T cap (T-1-p) (T-1-p-n) (vR n T f p (T-1-p)) (vR n T f p (T-1-p-n)) _ _ (aS (el (vQ n T f (p+1))) 0 T) (aS (el (bT (vR n T f p) (T-1-p-n) (jM (vR n T f p (T-1-p-n)) (vR n T f p (T-1-p))))) 0 T) R2 (Int.ofNat (T-1-p)-1)) ⟨by show some (Value.bool (decide (Int.ofNat (T-1-p)≥Int.ofNat n)))=_; rw[decide_eq_true (by simp; omega)],hs,rfl,hi,oO hi,rfl,hk,mQ hk,hs,hs,rfl,hk,oO hk,rfl,hi,oO hi,hlt _ hk,hlt _ hi,rfl,hk,mQ hk,rfl,hi,hz1,pL hb1 hb2,trivial⟩ hA fun a w hA => ?_
     refine hR a w ?_;show Holds _ _ _ (sE n T cap _ _ (Int.ofNat T-1-Int.ofNat (p+1))) _ _;rw[ez2];exact hA.reflat hz2
    ·refine aA aJ (fun _ _=>nL.w _ _) hG (Ci n T cap _ _ _) ⟨by show some (Value.bool (decide (Int.ofNat T-1-Int.ofNat (T-n)≥Int.ofNat n)))=_; rw[decide_eq_false (by simp; omega)],trivial⟩ hA fun a w hA => ?_
     show (cB kO).wp _ _ _ _;exact Cg (by omega) hcap (fun j hj=>fS (AK hfT _ j hj)) (hvq _) hA
 ·rw[if_pos he];refine⟨fun _=>first _ fun a w hA => ?_,fun h=>absurd h he⟩;exact wp_seq (aA aJ hT hG (NQ _ z _) ⟨DX he,trivial⟩ hA fun a w hA=>err hA)
def Fm (X:Nat→Int) (j:Nat):Int:=if sL X then nT wP X j 4 else 0
def Fr (X:Nat→Int) (j:Nat):Int:=if sL X then nT xF X j 4 else 0
def Fs (X:Nat→Int):Int:=if sL X then 0 else 4
def YT (X:Nat→Int):List TV:=[.fl (x4 (Fm X)),.fl (x4 (Fr X)),.im (iV (Fs X))]
theorem Fo {X:Nat→Int} (h:sL X):YT X=[.fl (x4 fun j=>nT wP X j 4),.fl (x4 fun j=>nT xF X j 4),.im (iV 0)]:=by
 unfold YT x4 Fm Fr Fs; simp only[if_pos h]
theorem Fp {X:Nat→Int} (h:¬sL X):YT X=[.fl (x4 z4),.fl (x4 z4),.im (iV 4)]:=by
 unfold YT x4 Fm Fr Fs z4; simp only[if_neg h]
theorem vJ (X:Nat→Int) (w:World):bC prog 24 (.many (YT X)) [.agg (aC (x4 X)).toArray] w:=by
 by_cases h:sL X
 ·rw[Fo h]; exact (pO X w).1 h
 ·rw[Fp h]; exact (pO X w).2 h
def Im (X:Nat→Int):jB
 | [.v (.fl l)]=>some ([aC l=aC (x4 X)],.many (YT X))
 | _=>none
theorem YK {f:FuncId} {X:Nat→Int} (h:∀w,bC prog f (.many (YT X)) [.agg (aC (x4 X)).toArray] w):∀cs pre r,Im X cs=some (pre,r)→aQ pre→∀(args:List Value) (w:World),cQ w cs args→bC prog f r args w:=by
 intro cs pre r hg hp args w ha;unfold Im at hg;split at hg
 ·cases hg
  match args,ha with
  | [v],ha =>
   have h1:v=.agg (aC _).toArray:=ha.1;rw[hp.1]at h1;subst h1;exact h w
  | [],ha=>exact ha.elim
  | _::_::_,ha=>exact ha.2.elim
 ·cases hg
theorem IG (z:Int):tC prog dN (qG prog) (fun _=>true) f14 40 [.v (.im (iV z))]=some ([],.one (.im (iV z))):=by kernel_rfl
def Kq:jB
 | [.v (.im (.int .i64 z))]=>some ([],.one (.im (iV z)))
 | _=>none
theorem YH:∀cs pre r,Kq cs=some (pre,r)→aQ pre→∀(args:List Value) (w:World),cQ w cs args→bC prog 14 r args w:=by
 intro cs pre r hg hp args w ha;unfold Kq at hg;split at hg
 ·cases hg;exact dY aJ aY (bD _) func14 (IG _) trivial ha
 ·cases hg
def SL:Tab:=(ZR.add 14 Kq).add 50 (g0 (.one (.fl [.q (TB 1)])))
theorem TK:TabOk prog SL:=(TJ.add func14 (by kernel_rfl) (by kernel_rfl) YH).add func50 (by kernel_rfl) (by kernel_rfl) (BN fun w=>dY aJ nL (bD _) func50 NX ⟨by decide,trivial⟩ (args:=[]) trivial)
end Go.Proofs.Ytiginhbnaloghaa.Ex
