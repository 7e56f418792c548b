/- Pr12 -/
import Derived.Test.YtjjnbgoepbiojaaGreatPr11
import Derived.Test.YtjjnbgoepbiojaaGreatPr10
import Derived.Test.YtjjnbgoepbiojaaGreatProg
set_option maxRecDepth 100000
set_option linter.unusedVariables false
set_option linter.unusedSimpArgs false
set_option linter.unnecessarySimpa false
noncomputable section
namespace Go.Proofs.YtjjnbgoepbiojaaGreat.Ex
open Go.Proofs.Tryz
open Go.RowKit
def Kf (v v2:Value) (A:Nat) (f:Nat→Nat) (B:Nat) (g:Nat→Nat):List CA→Option (List Prop×FR)
 | [.v (.im u),.v (.im t)]=>some ([u=v,t=v2],⟨aP (el (kQ A f B g)) 0 (A+(B-1)),A+(B-1),A+(B-1),[]⟩)
 | _=>none
theorem Ap {w:World} {v v2:Value} {A:Nat} {f:Nat→Nat} {B:Nat} {g:Nat→Nat} (hv:LV w v A f) (hv2:LV w v2 B g) (hAB:A+(B-1)≤65536) (hf:bD A f) (hg:bD B g) (hA0:0<A) (hB0:0<B):∀cs pre r,Kf v v2 A f B g cs=some (pre,r)→aR pre→∀(args:List Value),cO w cs args→Calls prog 54 args.toArray w (fun e w'=>r.ok w e w'):=by
 intro cs pre r hg' hp args ha;unfold Kf at hg';split at hg'
 ·cases hg'
  match args,ha with
  | [a1,a2],ha =>
   obtain⟨rfl,rfl,_⟩:=hp;have h1:a1=_:=ha.1;have h2:a2=_:=ha.2.1;subst h1; subst h2;exact TW hv hv2 (by omega) (by omega) hf hg hA0 hB0
  | [],ha=>exact ha.elim
  | [_],ha=>exact ha.2.elim
  | _::_::_::_,ha=>exact ha.2.2.elim
 ·cases hg'
def Ke (v v2:Value) (A:Nat) (f:Nat→Nat) (B:Nat) (g:Nat→Nat):List CA→Option (List Prop×FR)
 | [.v (.im u),.v (.im t)]=>some ([u=v,t=v2],⟨aP (el (kQ A f B g)) 0 (A+(B-1)),A+(B-1),A+(B-1),[]⟩)
 | _=>none
theorem Ao {w:World} {v v2:Value} {A:Nat} {f:Nat→Nat} {B:Nat} {g:Nat→Nat} (hv:LV w v A f) (hv2:LV w v2 B g) (hAB:A+(B-1)≤65536) (hf:bD A f) (hg:bD B g) (hA0:0<A) (hB0:0<B) (h3:2<A+B) (l1:f (A-1)≠0) (l2:g (B-1)≠0):∀cs pre r,Ke v v2 A f B g cs=some (pre,r)→aR pre→∀(args:List Value),cO w cs args→Calls prog 55 args.toArray w (fun e w'=>r.ok w e w'):=by
 intro cs pre r hg' hp args ha;unfold Ke at hg';split at hg'
 ·cases hg'
  match args,ha with
  | [a1,a2],ha =>
   obtain⟨rfl,rfl,_⟩:=hp;have h1:a1=_:=ha.1;have h2:a2=_:=ha.2.1;subst h1; subst h2;exact TU hv hv2 hAB hf hg hA0 hB0 h3 l1 l2
  | [],ha=>exact ha.elim
  | [_],ha=>exact ha.2.elim
  | _::_::_::_,ha=>exact ha.2.2.elim
 ·cases hg'
theorem uE (p q:Option Addr) (A m B m2 k:Nat) (f g:Nat→Nat):AT prog { qG prog with x:=FY (lY.add 54 (Kf (.slice p A m) (.slice q B m2) A f B g)) } (cF (aE [(9,iI k),(10,.bool true)])) f35 60 [.v (.im (.slice p A m)),.v (.im (.slice q B m2))]=some ([Value.int .i64 (if Int.ofNat B<Int.ofNat A then Int.ofNat B else Int.ofNat A)=iI k,aC .leq .i64 (Int.ofNat k) 64=some (.bool true),Value.slice p A m=.slice p A m,Value.slice q B m2=.slice q B m2],⟨aP (el (kQ A f B g)) 0 (A+(B-1)),A+(B-1),A+(B-1),[]⟩):=by kernel_rfl
theorem qC (p q:Option Addr) (A m B m2 k:Nat) (f g:Nat→Nat):AT prog { qG prog with x:=FY (lY.add 55 (Ke (.slice p A m) (.slice q B m2) A f B g)) } (cF (aE [(9,iI k),(10,.bool false)])) f35 60 [.v (.im (.slice p A m)),.v (.im (.slice q B m2))]=some ([Value.int .i64 (if Int.ofNat B<Int.ofNat A then Int.ofNat B else Int.ofNat A)=iI k,aC .leq .i64 (Int.ofNat k) 64=some (.bool false),Value.slice p A m=.slice p A m,Value.slice q B m2=.slice q B m2],⟨aP (el (kQ A f B g)) 0 (A+(B-1)),A+(B-1),A+(B-1),[]⟩):=by kernel_rfl
theorem IC (N M:Nat):Value.int .i64 (if Int.ofNat M<Int.ofNat N then Int.ofNat M else Int.ofNat N)=iI (min N M):=by
 have e:(if Int.ofNat M<Int.ofNat N then Int.ofNat M else Int.ofNat N)=Int.ofNat (min N M):=by
  by_cases h:M<N
  ·rw[if_pos (show Int.ofNat M<Int.ofNat N from Int.ofNat_lt.2 h),Nat.min_eq_right (by omega)]
  ·rw[if_neg (show ¬Int.ofNat M<Int.ofNat N from fun q=>h (Int.ofNat_lt.1 q)),Nat.min_eq_left (by omega)]
 rw[e]; rfl
theorem IE {a b:Nat} {t:Bool} (h:decide (a≤b)=t):aC .leq .i64 (Int.ofNat a) (Int.ofNat b)=some (.bool t):=by
 show some (Value.bool (decide (Int.ofNat a≤Int.ofNat b)))=_;rw[←h]
 by_cases c:a≤b
 ·rw[decide_eq_true c,decide_eq_true (show Int.ofNat a≤Int.ofNat b from Int.ofNat_le.2 c)]
 ·rw[decide_eq_false c,decide_eq_false (show ¬Int.ofNat a≤Int.ofNat b from fun q=>c (Int.ofNat_le.1 q))]
theorem PY {w0:World} {v v2:Value} {A:Nat} {f:Nat→Nat} {B:Nat} {g:Nat→Nat} (hv:LV w0 v A f) (hv2:LV w0 v2 B g) (hAB:A+(B-1)≤65536) (hf:bD A f) (hg:bD B g) (hA0:0<A) (hB0:0<B) (l1:f (A-1)≠0) (l2:g (B-1)≠0):Calls prog 35 #[v,v2] w0 (fun e w'=>FR.ok ⟨aP (el (kQ A f B g)) 0 (A+(B-1)),A+(B-1),A+(B-1),[]⟩ w0 e w'):=by
 obtain⟨p,m,rfl,hx⟩:=id hv;obtain⟨q,m2,rfl,hx2⟩:=id hv2;clear hx hx2
 by_cases c:min A B≤64
 ·exact gD aG (fun _ _=>aY.w _ _) (fS fun w' hw=>(FrAt.none _ _).add func54 (by kernel_rfl) (by kernel_rfl) (Ap (hv.on hw) (hv2.on hw) hAB hf hg hA0 hB0)) func35 (uE p q A m B m2 (min A B) f g) ⟨IC A B,IE (b:=64) (decide_eq_true c),rfl,rfl,trivial⟩ (args:=[.slice p A m,.slice q B m2]) ⟨rfl,rfl,trivial⟩
 ·have c1:64<A:=by have:=Nat.min_le_left A B; omega
  exact gD aG (fun _ _=>aY.w _ _) (fS fun w' hw=>(FrAt.none _ _).add func55 (by kernel_rfl) (by kernel_rfl) (Ao (hv.on hw) (hv2.on hw) hAB hf hg hA0 hB0 (by omega) l1 l2)) func35 (qC p q A m B m2 (min A B) f g) ⟨IC A B,IE (b:=64) (decide_eq_false c),rfl,rfl,trivial⟩ (args:=[.slice p A m,.slice q B m2]) ⟨rfl,rfl,trivial⟩
def Jj (v v2:Value) (A:Nat) (f:Nat→Nat) (B:Nat) (g:Nat→Nat):List CA→Option (List Prop×FR)
 | [.v (.im u),.v (.im t)]=>some ([u=v,t=v2],⟨aP (el (kQ A f B g)) 0 (A+(B-1)),A+(B-1),A+(B-1),[]⟩)
 | _=>none
theorem ZZ {w:World} {v v2:Value} {A:Nat} {f:Nat→Nat} {B:Nat} {g:Nat→Nat} (hv:LV w v A f) (hv2:LV w v2 B g) (hAB:A+(B-1)≤65536) (hf:bD A f) (hg:bD B g) (hA0:0<A) (hB0:0<B) (l1:f (A-1)≠0) (l2:g (B-1)≠0):∀cs pre r,Jj v v2 A f B g cs=some (pre,r)→aR pre→∀(args:List Value),cO w cs args→Calls prog 35 args.toArray w (fun e w'=>r.ok w e w'):=by
 intro cs pre r hg' hp args ha;unfold Jj at hg';split at hg'
 ·cases hg'
  match args,ha with
  | [a1,a2],ha =>
   obtain⟨rfl,rfl,_⟩:=hp;have h1:a1=_:=ha.1;have h2:a2=_:=ha.2.1;subst h1; subst h2;exact PY hv hv2 hAB hf hg hA0 hB0 l1 l2
  | [],ha=>exact ha.elim
  | [_],ha=>exact ha.2.elim
  | _::_::_::_,ha=>exact ha.2.2.elim
 ·cases hg'
def lQ:Code:=(f13.body).getD .skip
def QN:Code:=cB (cB lQ)
theorem YV:lQ=.seq (cA lQ) (.seq (cA (cB lQ)) (.seq (cA QN) (.seq (cA (cB QN)) (.seq (cA (cB (cB QN))) (cB (cB (cB QN))))))):=by kernel_rfl
def eM (v v2:Value):List Fact:=[.slot 0 (.im v),.slot 1 (.im v2)]
def YW (e:Int):List Fact:=[.slot 4 (.im (.slice none 0 0)),.slot 5 (.im (.int .i64 e))]
theorem Ql (v v2:Value):aH prog (qG prog) f13.ntmps (cF fun _=>none) 40 (cA lQ) (dX 0 [.v (.im v),.v (.im v2)]) (eM v v2)=some ([],.nrm,eM v v2):=by kernel_rfl
theorem Hr (p q:Option Addr) (N m M m2:Nat) (f g:Nat→Nat):aH prog (qG prog) f13.ntmps (Mg (.slice p N m) (.slice q M m2) N f M g (aE [(12,.bool true)])) 60 (cA (cB lQ)) (eM (.slice p N m) (.slice q M m2)) (YW (eW N f M g))=some ([Value.slice p N m=.slice p N m,Value.slice q M m2=.slice q M m2,2=2,aC .neq .i64 (eW N f M g) 0=some (.bool true)],.rt,YW (eW N f M g)):=by kernel_rfl
theorem YU (p q:Option Addr) (N m M m2:Nat) (f g:Nat→Nat):aH prog (qG prog) f13.ntmps (Mg (.slice p N m) (.slice q M m2) N f M g (aE [(12,.bool false)])) 60 (cA (cB lQ)) (eM (.slice p N m) (.slice q M m2)) (eM (.slice p N m) (.slice q M m2))=some ([Value.slice p N m=.slice p N m,Value.slice q M m2=.slice q M m2,2=2,aC .neq .i64 (eW N f M g) 0=some (.bool false)],.nrm,eM (.slice p N m) (.slice q M m2)):=by kernel_rfl
def muL (v v2:Value) (A B:Nat) (_:Nat):Cfg:=⟨fun s=>dB.add 34 (bif Nat.beq s 16 then EU v A else EU v2 B),fun _=>true,fun _=>none⟩
theorem Zc (p q:Option Addr) (N m M m2 A B:Nat):aH prog (qG prog) f13.ntmps (muL (.slice p N m) (.slice q M m2) A B) 60 (cA QN) (eM (.slice p N m) (.slice q M m2)) (eM (.slice p A m) (.slice q B m2))=some ([Value.slice p N m=.slice p N m,A≤m,Value.slice q M m2=.slice q M m2,B≤m2],.nrm,eM (.slice p A m) (.slice q B m2)):=by kernel_rfl
theorem Qr (p q:Option Addr) (m B m2:Nat) (A:Nat):aH prog (qG prog) f13.ntmps (cF (aE [(24,.bool true)])) 60 (cA (cB QN)) (eM (.slice p A m) (.slice q B m2)) (YW 0)=some ([aC .eql .i64 (Int.ofNat A) 0=some (.bool true)],.rt,YW 0):=by kernel_rfl
theorem Qq (p q:Option Addr) (m B m2:Nat) (A:Nat):aH prog (qG prog) f13.ntmps (cF (aE [(24,.bool false),(28,.bool true)])) 60 (cA (cB QN)) (eM (.slice p A m) (.slice q B m2)) (YW 0)=some ([aC .eql .i64 (Int.ofNat A) 0=some (.bool false),aC .eql .i64 (Int.ofNat B) 0=some (.bool true)],.rt,YW 0):=by kernel_rfl
theorem Qp (p q:Option Addr) (m B m2:Nat) (A:Nat):aH prog (qG prog) f13.ntmps (cF (aE [(24,.bool false),(28,.bool false)])) 60 (cA (cB QN)) (eM (.slice p A m) (.slice q B m2)) (eM (.slice p A m) (.slice q B m2))=some ([aC .eql .i64 (Int.ofNat A) 0=some (.bool false),aC .eql .i64 (Int.ofNat B) 0=some (.bool false)],.nrm,eM (.slice p A m) (.slice q B m2)):=by kernel_rfl
theorem Qo (p q:Option Addr) (A m B m2 s d:Nat):aH prog (qG prog) f13.ntmps (cF (aE [(34,iI s),(35,iI d),(36,.bool true)])) 60 (cA (cB (cB QN))) (eM (.slice p A m) (.slice q B m2)) (YW 72)=some ([aC .add .i64 (Int.ofNat A) (Int.ofNat B)=some (iI s),aC .sub .i64 (Int.ofNat s) 1=some (iI d),aC .gtr .i64 (Int.ofNat d) 65536=some (.bool true)],.rt,YW 72):=by kernel_rfl
theorem Qn (p q:Option Addr) (A m B m2 s d:Nat):aH prog (qG prog) f13.ntmps (cF (aE [(34,iI s),(35,iI d),(36,.bool false)])) 60 (cA (cB (cB QN))) (eM (.slice p A m) (.slice q B m2)) (eM (.slice p A m) (.slice q B m2))=some ([aC .add .i64 (Int.ofNat A) (Int.ofNat B)=some (iI s),aC .sub .i64 (Int.ofNat s) 1=some (iI d),aC .gtr .i64 (Int.ofNat d) 65536=some (.bool false)],.nrm,eM (.slice p A m) (.slice q B m2)):=by kernel_rfl
def muY (n:Nat) (l:List At):List Fact:=[.slot 4 (.sl 39 0 n n),.row 39 true l,.slot 5 (.im (.int .i64 0))]
theorem Zb (v v2:Value) (A B:Nat) (f g:Nat→Nat):aH prog { qG prog with x:=FY (lY.add 35 (Jj v v2 A f B g)) } f13.ntmps (cF fun _=>none) 60 (cB (cB (cB QN))) (eM v v2) (muY (A+(B-1)) (aP (el (kQ A f B g)) 0 (A+(B-1))))=some ([v=v,v2=v2],.rt,muY (A+(B-1)) (aP (el (kQ A f B g)) 0 (A+(B-1)))):=by kernel_rfl
def Lz (N:Nat) (f:Nat→Nat) (M:Nat) (g:Nat→Nat):Nat:=if eW N f M g≠0 then 0 else if aF f N=0∨aF g M=0 then 0 else if aF f N+(aF g M-1)>65536 then 0 else aF f N+(aF g M-1)
def sM (N:Nat) (f:Nat→Nat) (M:Nat) (g:Nat→Nat):Int:=if eW N f M g≠0 then eW N f M g else if aF f N=0∨aF g M=0 then 0 else if aF f N+(aF g M-1)>65536 then 72 else 0
theorem gJ {a b:Nat} {t:Bool} (h:decide (a=b)=t):aC .eql .i64 (Int.ofNat a) (Int.ofNat b)=some (.bool t):=by
 show some (Value.bool (Int.ofNat a==Int.ofNat b))=_
 by_cases e:a=b
 ·subst e; simp_all
 ·have e2:Int.ofNat a≠Int.ofNat b:=fun h=>e (Int.ofNat.inj h)
  have e3:(Int.ofNat a==Int.ofNat b)=false:=by simpa using e2
  rw[e3,←h,decide_eq_false e]
theorem Qm {w0:World} {v v2:Value} {N:Nat} {f:Nat→Nat} {M:Nat} {g:Nat→Nat} (hv:LV w0 v N f) (hv2:LV w0 v2 M g) (hN:N≤2305843009213693952) (hM:M≤2305843009213693952):Calls prog 13 #[v,v2] w0 (Pr w0 (Lz N f M g) (kQ (aF f N) f (aF g M) g) (sM N f M g)):=by
 have hG:bO prog (qG prog) w0.heap.size w0:=(bE _).w _ _;have hT:∀n d:Nat,TabOkW prog dB w0.heap.size w0:=fun _ _=>aY.w _ _
 obtain⟨p,m,rfl,hm,hx⟩:=id hv;obtain⟨q,m2,rfl,hm2,hx2⟩:=id hv2;clear hx hx2;have hC:∀num,∀n d:Nat,TabOkW prog ((Mg (.slice p N m) (.slice q M m2) N f M g num n).T d) w0.heap.size w0:=fun _ _ _=>TabOkW.add (aY.w _ _) func28 (by kernel_rfl) (by kernel_rfl) fun w hw=>IP (hv.on hw) (hv2.on hw) (by omega) (by omega)
 refine bP func13 (cs:=[.v (.im (.slice p N m)),.v (.im (.slice q M m2))]) (args:=[.slice p N m,.slice q M m2]) (c:=lQ) rfl ⟨rfl,rfl,trivial⟩ (Nat.le_of_ble_eq_true (by kernel_rfl)) fun a w1 hA => ?_
 rw[YV];refine wp_seq (aA aG hT hG (Ql _ _) trivial hA fun a w1 hA => ?_);unfold Lz sM
 by_cases he:eW N f M g=0
 ·rw[if_neg (show ¬eW N f M g≠0 from fun q=>q he),if_neg (show ¬eW N f M g≠0 from fun q=>q he)];obtain⟨q1,q2,q3,q4⟩:=tR he;have a1:=cI f N;have a2:=cI g M;have a3:=eR f N;have a4:=eR g M;have hlA:=hv.take a1;have hlB:=hv2.take a2;refine wp_seq (aA aG (hC _) hG (YU p q N m M m2 f g) ⟨rfl,rfl,rfl,by rw[he]; rfl,trivial⟩ hA fun a w1 hA => ?_);refine wp_seq (aA aG (fun _ d=>TabOkW.add (aY.w _ _) func34 (by kernel_rfl) (by kernel_rfl) fun w hw=>by
   cases Nat.beq d 16
   ·exact qS (hv2.on hw) hM
   ·exact qS (hv.on hw) hN) hG (Zc p q N m M m2 (aF f N) (aF g M)) ⟨rfl,by omega,rfl,by omega,trivial⟩ hA fun a w1 hA => ?_)
  have hfA:bD (aF f N) f:=fun j hj=>q3 j (by omega)
  have hgB:bD (aF g M) g:=fun j hj=>q4 j (by omega)
  generalize aF f N=A at *;generalize aF g M=B at *
  by_cases h0:A=0∨B=0
  ·rw[if_pos h0,if_pos h0];have out:∀{a:Act} {w:World},Holds f13.ntmps w0.heap.size w0 (YW 0) a w→bodyPost prog f13 (Pr w0 0 (kQ A f B g) 0) .ret a w:=fun hA=>aX (bH (l:=[.im (.slice none 0 0),.im (.int .i64 0)]) (r:=.many [.im (.slice none 0 0),.im (.int .i64 0)]) (by kernel_rfl) (by kernel_rfl) hA) fun e w h=>Pr.nil _ h
   by_cases hA0:A=0
   ·exact wp_seq (aA aG hT hG (Qr p q m B m2 A) ⟨gJ (b:=0) (decide_eq_true hA0),trivial⟩ hA fun a w hA=>out hA)
   ·exact wp_seq (aA aG hT hG (Qq p q m B m2 A) ⟨gJ (b:=0) (decide_eq_false hA0),gJ (b:=0) (decide_eq_true (by omega)),trivial⟩ hA fun a w hA=>out hA)
  ·rw[if_neg h0,if_neg h0];refine wp_seq (aA aG hT hG (Qp p q m B m2 A) ⟨gJ (b:=0) (decide_eq_false (by omega)),gJ (b:=0) (decide_eq_false (by omega)),trivial⟩ hA fun a w1 hA => ?_);have e1:aC .add .i64 (Int.ofNat A) (Int.ofNat B)=some (iI (A+B)):=cX (by omega);have e2:aC .sub .i64 (Int.ofNat (A+B)) 1=some (iI (A+B-1)):=pS (k:=1) (by omega) (by omega);have e3:A+B-1=A+(B-1):=by omega
   by_cases hb:A+(B-1)>65536
   ·rw[if_pos hb,if_pos hb];exact wp_seq (aA aG hT hG (Qo p q A m B m2 (A+B) (A+B-1)) ⟨e1,e2,by show aC .gtr .i64 (Int.ofNat (A+B-1)) (Int.ofNat 65536)=_; rw[sK,decide_eq_true (by omega)],trivial⟩ hA fun a w hA=>aX (bH (l:=[.im (.slice none 0 0),.im (.int .i64 72)]) (r:=.many [.im (.slice none 0 0),.im (.int .i64 72)]) (by kernel_rfl) (by kernel_rfl) hA) fun e w h=>Pr.nil _ h)
   ·rw[if_neg hb,if_neg hb];refine wp_seq (aA aG hT hG (Qn p q A m B m2 (A+B) (A+B-1)) ⟨e1,e2,by show aC .gtr .i64 (Int.ofNat (A+B-1)) (Int.ofNat 65536)=_; rw[sK,decide_eq_false (by omega)],trivial⟩ hA fun a w1 hA => ?_);exact aA aG hT (fS fun w' hw=>(FrAt.none _ _).add func35 (by kernel_rfl) (by kernel_rfl) (ZZ (hlA.on hw) (hlB.on hw) (by omega) hfA hgB (by omega) (by omega) (a3 (by omega)) (a4 (by omega)))) (Zb _ _ A B f g) ⟨rfl,rfl,trivial⟩ hA fun a w hA=>aX (dE (r:=⟨aP (el (kQ A f B g)) 0 (A+(B-1)),A+(B-1),A+(B-1),[.im (.int .i64 0)]⟩) (by kernel_rfl) hA) fun e w h=>Pr.fr (fun j _=>dW (tO _ _ _ _ _)) h
 ·rw[if_pos he,if_pos he];exact wp_seq (aA aG (hC _) hG (Hr p q N m M m2 f g) ⟨rfl,rfl,rfl,pB he,trivial⟩ hA fun a w hA=>aX (bH (l:=[.im (.slice none 0 0),.im (.int .i64 (eW N f M g))]) (r:=.many [.im (.slice none 0 0),.im (.int .i64 (eW N f M g))]) (by kernel_rfl) (by kernel_rfl) hA) fun e w h=>Pr.nil _ h)
theorem XC (w:World) (b o N m i x:Nat):fH prog { qG prog with x:=xO w (aE [(11,i)]) (aE [(12,[.q x])]) (fun _=>none) } (cF (aE [(8,.bool true)])) f24 40 [.v (.im (aS b o N m)),.v (.im (iI i))]=some ([aC .lss .i64 (Int.ofNat i) (Int.ofNat N)=some (.bool true),Int.ofNat i=Int.ofNat i,i<N,oldOf w b (o+i*4) [.q x],cL [.q x]=4],.one (.fl [.q x])):=by kernel_rfl
theorem OG (p:Option Addr) (N m i:Nat):fH prog (qG prog) (cF (aE [(8,.bool false)])) f24 40 [.v (.im (.slice p N m)),.v (.im (iI i))]=some ([aC .lss .i64 (Int.ofNat i) (Int.ofNat N)=some (.bool false)],.one (.fl [.f ⟨0,dP⟩])):=by kernel_rfl
theorem LZ {w0:World} {v:Value} {N i:Nat} {f:Nat→Nat} (hv:LV w0 v N f):bI prog 24 (.one (.fl [.q (aU f N i)])) [v,iI i] w0:=by
 obtain⟨p,m,rfl,hm,h256,hmem⟩:=hv;unfold aU
 by_cases h:i<N
 ·rw[if_pos h];obtain⟨b,o,rfl,hb,hr⟩:=hmem (by omega);exact bC aG (fun _ _=>aY.w _ _) (cE w0 _ _ _) func24 (XC w0 b o N m i (f i)) ⟨bK h,rfl,h,cJ hb hr h,rfl,trivial⟩ (args:=[aS b o N m,iI i]) ⟨rfl,rfl,trivial⟩
 ·rw[if_neg h];exact bC aG (fun _ _=>aY.w _ _) ((bE _).w _ _) func24 (OG p N m i) ⟨bU (by omega),trivial⟩ (args:=[.slice p N m,iI i]) ⟨rfl,rfl,trivial⟩
def LE (v:Value) (N:Nat) (f:Nat→Nat):iP
 | [.v (.im u),.v (.im (.int .i64 (.ofNat i)))]=>some ([u=v],.one (.fl [.q (aU f N i)]))
 | _=>none
theorem qT {w:World} {v:Value} {N:Nat} {f:Nat→Nat} (hv:LV w v N f):∀cs pre r,LE v N f cs=some (pre,r)→aR pre→∀(args:List Value),cO w cs args→bI prog 24 r args w:=by
 intro cs pre r hg hp args ha;unfold LE at hg;split at hg
 ·rename_i u i;cases hg
  match args,ha with
  | [a1,a2],ha =>
   have h1:a1=u:=ha.1;have h2:a2=iI i:=ha.2.1;subst h1;subst h2;obtain⟨p1,_⟩:=hp;subst p1;exact LZ hv
  | [],ha=>exact ha.elim
  | [_],ha=>exact ha.2.elim
  | _::_::_::_,ha=>exact ha.2.2.elim
 ·cases hg
def RW (v:Value) (N:Nat) (f:Nat→Nat):iP
 | [.s [.c u] n m,.s l n' m']=>match lH l with
  | some x=>some ([u=v,n=1,n'=1,x<bQ,1≤m'],.one (.im (.int .i64 (fB N f x))))
  | none=>none
 | _=>none
theorem OO {l:List At} {x:Nat} (h:lH l=some x):aB l=aB [At.q x]:=by
 have h1:=cG l x h;have h2:aB l=aB (q1 x):=by simpa using h1
 exact h2
theorem xI {w:World} {v:Value} {N:Nat} {f:Nat→Nat} (hv:LV w v N f):∀cs pre r,RW v N f cs=some (pre,r)→aR pre→∀(args:List Value),cO w cs args→bI prog 22 r args w:=by
 intro cs pre r hg hp args ha;unfold RW at hg;split at hg
 ·rename_i u n m l n' m';split at hg
  ·rename_i x hx;cases hg
   match args,ha with
   | [a1,a2],ha =>
    obtain⟨rfl,rfl,rfl,h4,h5,_⟩:=hp;obtain⟨b,o,rfl,hb,hr⟩:=ha.1;obtain⟨b',o',rfl,hb',hr'⟩:=ha.2.1;rw[OO hx]at hr';rw[←Im];exact tE (vs:=fun _=>u) ⟨b,o,m,rfl,hb,hr⟩ (fun j hj=>hv) (by omega) ⟨_,_,rfl,h5,fun _ _=>h4,fun _=>⟨b',o',rfl,hb',hr'⟩⟩ (by omega)
   | [],ha=>exact ha.elim
   | [_],ha=>exact ha.2.elim
   | _::_::_::_,ha=>exact ha.2.2.elim
  ·cases hg
 ·cases hg
def Af (v:Value) (N:Nat) (f:Nat→Nat):iP
 | [.s [.c u] n m,.v (.im (.slice none 0 0))]=>some ([u=v,n=1],.one (.im (.int .i64 (qX N f))))
 | _=>none
theorem IN {w:World} {v:Value} {N:Nat} {f:Nat→Nat} (hv:LV w v N f):∀cs pre r,Af v N f cs=some (pre,r)→aR pre→∀(args:List Value),cO w cs args→bI prog 22 r args w:=by
 intro cs pre r hg hp args ha;unfold Af at hg;split at hg
 ·rename_i u n m;cases hg
  match args,ha with
  | [a1,a2],ha =>
   obtain⟨rfl,rfl,_⟩:=hp;obtain⟨b,o,rfl,hb,hr⟩:=ha.1;have h2:a2=.slice none 0 0:=ha.2.1;subst h2;rw[←Io N f fun _=>0];exact tE (vs:=fun _=>u) ⟨b,o,m,rfl,hb,hr⟩ (fun j hj=>hv) (by omega) (LV.nil0 w _) (by omega)
  | [],ha=>exact ha.elim
  | [_],ha=>exact ha.2.elim
  | _::_::_::_,ha=>exact ha.2.2.elim
 ·cases hg
def RS:iP
 | [.v (.im (.slice none 0 0))]=>some ([],.one (.im (.slice none 0 0)))
 | _=>none
theorem xD:∀cs pre r,RS cs=some (pre,r)→aR pre→∀(args:List Value) (w:World),cO w cs args→bI prog 25 r args w:=by
 intro cs pre r hg hp args w ha;unfold RS at hg;split at hg
 ·cases hg
  match args,ha with
  | [a1],ha =>
   have h1:a1=.slice none 0 0:=ha.1;subst h1;exact (iD (LV.nil0 w fun _=>0) (by omega) fun _=>rfl).1 rfl
  | [],ha=>exact ha.elim
  | _::_::_,ha=>exact ha.2.elim
 ·cases hg
def Xm (w:World) (d n:Nat) (Z:List At) (idx:Nat→Option Nat) (ld:Nat→Option (List At)):Ext:={ Ext.none with mks:=aE [(d,(n,Z))],idx:=idx,ld:=ld,old:=oldOf w,T2:=lY,T3:=vR,T4:=CH,T5:=CI,T6:=CJ }
theorem MR (w:World) (d n:Nat) (Z:List At) (idx:Nat→Option Nat) (ld:Nat→Option (List At)):bO prog { qG prog with x:=Xm w d n Z idx ld } w.heap.size w :=
 ⟨(bE _).1,eJ (fun b o l h=>h) (fun w' _=>FrAt.none _ _) (fun w' _=>FsAt.none _ _)⟩
def eH:Code:=(f6.body).getD .skip
def rX:Code:=cB (cB (cB (cB eH)))
def iW:Code:=fY (fY (cB (cA rX)))
theorem PC:eH=.seq (cA eH) (.seq (cA (cB eH)) (.seq (cA (cB (cB eH))) (.seq (cA (cB (cB (cB eH)))) (.seq (.seq (cA (cA rX)) (.block 0 (.loop iW))) (cB rX))))):=by kernel_rfl
def JX (v v2:Value) (N:Nat) (f:Nat→Nat) (M:Nat) (g:Nat→Nat) (num:Nat→Option Value) (_:Nat):Cfg:=⟨fun s=>(gY.add 22 (RU v v2 N f M g)).add 24 (bif Nat.beq s 31 then LE v N f else LE v2 M g),fun _=>true,num⟩
theorem Gl (v v2:Value):aH prog (qG prog) f6.ntmps (fE true fun _=>none) 40 (cA eH) (dX 0 [.v (.im v),.v (.im v2)]) (eM v v2)=some ([],.nrm,eM v v2):=by kernel_rfl
theorem Gk (p q:Option Addr) (N m M m2:Nat) (f g:Nat→Nat):aH prog (qG prog) f6.ntmps (JX (.slice p N m) (.slice q M m2) N f M g fun _=>none) 60 (cA (cB eH)) (eM (.slice p N m) (.slice q M m2)) (.slot 6 (.im (.int .i64 (eW N f M g)))::eM (.slice p N m) (.slice q M m2))=some ([Value.slice p N m=.slice p N m,Value.slice q M m2=.slice q M m2,2=2],.nrm,.slot 6 (.im (.int .i64 (eW N f M g)))::eM (.slice p N m) (.slice q M m2)):=by kernel_rfl
theorem XL (v v2:Value) (e:Int):aH prog (qG prog) f6.ntmps (fE true (aE [(14,.bool true)])) 60 (cA (cB (cB eH))) (.slot 6 (.im (.int .i64 e))::eM v v2) (mM e)=some ([aC .neq .i64 e 0=some (.bool true)],.rt,mM e):=by kernel_rfl
theorem PB (v v2:Value):aH prog (qG prog) f6.ntmps (fE true fun _=>none) 60 (cA (cB (cB eH))) (.slot 6 (.im (.int .i64 0))::eM v v2) (eM v v2)=some ([],.nrm,eM v v2):=by kernel_rfl
def jX (v v2:Value) (R:List Fact) (i:Nat):List Fact:=.slot 8 (.im (iI i)) :: .slot 0 (.im v) :: .slot 1 (.im v2)::R
def lJ:List Fact:=[.slot 7 (.im (.slice none 0 0))]
def kM (i:Nat) (Z:List At):List Fact:=[.slot 7 (.so 37 i),.row 37 true Z,.app 37 25 4 i]
theorem Pl (v v2:Value):aH prog (qG prog) f6.ntmps (fE true fun _=>none) 60 (cA (cB (cB (cB eH)))) (eM v v2) (.slot 7 (.im (.slice none 0 0))::eM v v2)=some ([],.nrm,.slot 7 (.im (.slice none 0 0))::eM v v2):=by kernel_rfl
theorem Pk (v v2:Value):aH prog (qG prog) f6.ntmps (fE true fun _=>none) 60 (cA (cA rX)) (.slot 7 (.im (.slice none 0 0))::eM v v2) (jX v v2 lJ 0)=some ([],.nrm,jX v v2 lJ 0):=by kernel_rfl
theorem PE (p q:Option Addr) (N m M m2:Nat) (f g:Nat→Nat) (Z:List At):aH prog { qG prog with x:=VB 37 1 Z } f6.ntmps (JX (.slice p N m) (.slice q M m2) N f M g (aE [(19,.bool true),(27,iI 1)])) 60 iW (jX (.slice p N m) (.slice q M m2) lJ 0) (jX (.slice p N m) (.slice q M m2) (kM 1 Z) 1) =
  some ([aC .lss .i64 (Int.ofNat 0) (Int.ofNat N)=some (.bool true),Value.slice p N m=.slice p N m,Value.slice q M m2=.slice q M m2,aU f N 0<RM,aU g M 0<RM,∀v∈aB [At.q (dH (aU f N 0) (aU g M 0))],v.oneCell'=true,0<1,(0+1)*32≤140737488355328,0+1≤4611686018427387904,1=0+1,aB Z=aB ([]++[At.q (dH (aU f N 0) (aU g M 0))]),aC .add .i64 (Int.ofNat 0) 1=some (iI 1)],.nrm,jX (.slice p N m) (.slice q M m2) (kM 1 Z) 1):=by kernel_rfl
theorem PD (p q:Option Addr) (N m M m2:Nat) (f g:Nat→Nat) (i:Nat) (Y Z:List At):aH prog { qG prog with x:=VB 37 (i+1) Z } f6.ntmps (JX (.slice p N m) (.slice q M m2) N f M g (aE [(19,.bool true),(27,iI (i+1))])) 60 iW (jX (.slice p N m) (.slice q M m2) (kM i Y) i) (jX (.slice p N m) (.slice q M m2) (kM (i+1) Z) (i+1)) =
  some ([aC .lss .i64 (Int.ofNat i) (Int.ofNat N)=some (.bool true),Value.slice p N m=.slice p N m,Value.slice q M m2=.slice q M m2,aU f N i<RM,aU g M i<RM,i=i,cL Y=i*4,∀v∈aB [At.q (dH (aU f N i) (aU g M i))],v.oneCell'=true,0<1,(i+1)*32≤140737488355328,i+1≤4611686018427387904,(i+1)=i+1,aB Z=aB (Y++[At.q (dH (aU f N i) (aU g M i))]),aC .add .i64 (Int.ofNat i) 1=some (iI (i+1))],.nrm,jX (.slice p N m) (.slice q M m2) (kM (i+1) Z) (i+1)):=by kernel_rfl
theorem Gp (p q:Option Addr) (N m M m2:Nat) (f g:Nat→Nat) (Z:List At):aH prog { qG prog with x:=VB 37 1 Z } f6.ntmps (JX (.slice p N m) (.slice q M m2) N f M g (aE [(19,.bool false),(24,.bool true),(27,iI 1)])) 60 iW (jX (.slice p N m) (.slice q M m2) lJ 0) (jX (.slice p N m) (.slice q M m2) (kM 1 Z) 1) =
  some ([aC .lss .i64 (Int.ofNat 0) (Int.ofNat N)=some (.bool false),aC .lss .i64 (Int.ofNat 0) (Int.ofNat M)=some (.bool true),Value.slice p N m=.slice p N m,Value.slice q M m2=.slice q M m2,aU f N 0<RM,aU g M 0<RM,∀v∈aB [At.q (dH (aU f N 0) (aU g M 0))],v.oneCell'=true,0<1,(0+1)*32≤140737488355328,0+1≤4611686018427387904,1=0+1,aB Z=aB ([]++[At.q (dH (aU f N 0) (aU g M 0))]),aC .add .i64 (Int.ofNat 0) 1=some (iI 1)],.nrm,jX (.slice p N m) (.slice q M m2) (kM 1 Z) 1):=by kernel_rfl
theorem Gn (p q:Option Addr) (N m M m2:Nat) (f g:Nat→Nat) (i:Nat) (Y Z:List At):aH prog { qG prog with x:=VB 37 (i+1) Z } f6.ntmps (JX (.slice p N m) (.slice q M m2) N f M g (aE [(19,.bool false),(24,.bool true),(27,iI (i+1))])) 60 iW (jX (.slice p N m) (.slice q M m2) (kM i Y) i) (jX (.slice p N m) (.slice q M m2) (kM (i+1) Z) (i+1)) =
  some ([aC .lss .i64 (Int.ofNat i) (Int.ofNat N)=some (.bool false),aC .lss .i64 (Int.ofNat i) (Int.ofNat M)=some (.bool true),Value.slice p N m=.slice p N m,Value.slice q M m2=.slice q M m2,aU f N i<RM,aU g M i<RM,i=i,cL Y=i*4,∀v∈aB [At.q (dH (aU f N i) (aU g M i))],v.oneCell'=true,0<1,(i+1)*32≤140737488355328,i+1≤4611686018427387904,(i+1)=i+1,aB Z=aB (Y++[At.q (dH (aU f N i) (aU g M i))]),aC .add .i64 (Int.ofNat i) 1=some (iI (i+1))],.nrm,jX (.slice p N m) (.slice q M m2) (kM (i+1) Z) (i+1)):=by kernel_rfl
theorem Pj (p q:Option Addr) (N m M m2 i:Nat) (R:List Fact):aH prog (qG prog) f6.ntmps (fE true (aE [(19,.bool false),(24,.bool false)])) 60 iW (jX (.slice p N m) (.slice q M m2) lJ i) lJ=some ([aC .lss .i64 (Int.ofNat i) (Int.ofNat N)=some (.bool false),aC .lss .i64 (Int.ofNat i) (Int.ofNat M)=some (.bool false)],.ex 0,lJ):=by kernel_rfl
theorem Gm (p q:Option Addr) (N m M m2 i:Nat) (Y:List At):aH prog (qG prog) f6.ntmps (fE true (aE [(19,.bool false),(24,.bool false)])) 60 iW (jX (.slice p N m) (.slice q M m2) (kM i Y) i) (kM i Y)=some ([aC .lss .i64 (Int.ofNat i) (Int.ofNat N)=some (.bool false),aC .lss .i64 (Int.ofNat i) (Int.ofNat M)=some (.bool false)],.ex 0,kM i Y):=by kernel_rfl
theorem Gi:aH prog (qG prog) f6.ntmps (fun _=>⟨fun _=>gY.add 25 RS,fun _=>true,fun _=>none⟩) 60 (cB rX) lJ (mM 0)=some ([],.rt,mM 0):=by kernel_rfl
def Gq (T:Nat) (l:List At):List Fact:=[.slot 4 (.so 39 T),.row 39 true l,.app 39 25 4 T,.slot 5 (.im (iV 0))]
theorem Pi (K cap:Nat) (Z:List At) (h:Nat→Nat):aH prog { qG prog with x:=Ls (vR.add 25 (LC K h)) } f6.ntmps (fE true fun _=>none) 60 (cB rX) [.slot 7 (.sl 37 0 K cap),.row 37 true Z] (Gq (aF h K) (aP (el h) 0 (aF h K)))=some ([aB Z=aB (aP (el h) 0 K),K=K,K≤cap,∀j,j<K→h j<bQ,K≤131072,0<aF h K],.rt,Gq (aF h K) (aP (el h) 0 (aF h K))):=by kernel_rfl
theorem Gj (K cap:Nat) (Z:List At) (h:Nat→Nat):aH prog (qG prog) f6.ntmps (fun _=>⟨fun _=>gY.add 25 (RT K h),fun _=>true,fun _=>none⟩) 60 (cB rX) [.slot 7 (.sl 37 0 K cap),.row 37 true Z] (mM 0)=some ([aB Z=aB (aP (el h) 0 K),K=K,K≤cap,∀j,j<K→h j<bQ,K≤131072,aF h K=0],.rt,mM 0):=by kernel_rfl
theorem XK (T:Nat) (l:List At):rZ prog (Gq T l) f6.results.toList []=some ⟨l,T,25,4,true,[],[.im (iV 0)]⟩:=by
 have h:Nat.beq T T=true:=Nat.beq_refl T;show (bif Nat.beq T T then some (FS.mk l T 25 4 true [] [.im (iV 0)])else none)=_;rw[h];rfl
def Ym (v v2:Value) (h:Nat→Nat):Nat→List Fact
 | 0=>jX v v2 lJ 0
 | i+1=>jX v v2 (kM (i+1) (aP (el h) 0 (i+1))) (i+1)
theorem PA {w0:World} {v v2:Value} {N:Nat} {f:Nat→Nat} {M:Nat} {g:Nat→Nat} (hv:LV w0 v N f) (hv2:LV w0 v2 M g) :
  (eW N f M g≠0→Calls prog 6 #[v,v2] w0 (Pr w0 0 (fun _=>0) (eW N f M g))) ∧
  (eW N f M g=0→Calls prog 6 #[v,v2] w0 (Pr w0 (aF (fun i=>dH (aU f N i) (aU g M i)) (max N M)) (fun i=>dH (aU f N i) (aU g M i)) 0)):=by
 have hG:bO prog (qG prog) w0.heap.size w0:=(bE _).w _ _;have hT:∀n d:Nat,TabOkW prog gY w0.heap.size w0:=fun _ _=>eP.w _ _
 obtain⟨p,m,rfl,hx⟩:=id hv;obtain⟨q,m2,rfl,hx2⟩:=id hv2;clear hx hx2;have hC:∀num,∀n d:Nat,TabOkW prog ((JX (.slice p N m) (.slice q M m2) N f M g num n).T d) w0.heap.size w0:=fun _ _ d=>TabOkW.add (TabOkW.add (eP.w _ _) func22 (by kernel_rfl) (by kernel_rfl) fun w hw=>xH (hv.on hw) (hv2.on hw)) func24 (by kernel_rfl) (by kernel_rfl) fun w hw=>by
  cases Nat.beq d 31
  ·exact qT (hv2.on hw)
  ·exact qT (hv.on hw)
 have first:∀R:Ending→World→Prop,(∀a w,Holds f6.ntmps w0.heap.size w0 (.slot 6 (.im (.int .i64 (eW N f M g)))::eM (.slice p N m) (.slice q M m2)) a w→(Code.seq (cA (cB (cB eH))) (.seq (cA (cB (cB (cB eH)))) (.seq (.seq (cA (cA rX)) (.block 0 (.loop iW))) (cB rX)))).wp prog (bodyPost prog f6 R) a w)→Calls prog 6 #[.slice p N m,.slice q M m2] w0 R:=fun R hR=>by
  refine bP func6 (cs:=[.v (.im (.slice p N m)),.v (.im (.slice q M m2))]) (args:=[.slice p N m,.slice q M m2]) (c:=eH) rfl ⟨rfl,rfl,trivial⟩ (Nat.le_of_ble_eq_true (by kernel_rfl)) fun a w1 hA => ?_
  rw[PC];refine wp_seq (aA aG hT hG (Gl _ _) trivial hA fun a w1 hA => ?_);exact wp_seq (aA aG (hC _) hG (Gk p q N m M m2 f g) ⟨rfl,rfl,rfl,trivial⟩ hA fun a w1 hA=>hR a w1 hA)
 refine⟨fun he=>first _ fun a w hA => ?_,fun he=>first _ fun a w hA => ?_⟩
 ·exact wp_seq (aA aG hT hG (XL _ _ _) ⟨pB he,trivial⟩ hA fun a w hA=>aX (bH (l:=[.im (.slice none 0 0),.im (.int .i64 (eW N f M g))]) (r:=.many [.im (.slice none 0 0),.im (.int .i64 (eW N f M g))]) (by kernel_rfl) (by kernel_rfl) hA) fun e w h=>Pr.nil _ h)
 ·obtain⟨q1,q2,q3,q4⟩:=tR he;rw[he]at hA;refine wp_seq (aA aG hT hG (PB _ _) trivial hA fun a w1 hA => ?_);refine wp_seq (aA aG hT hG (Pl _ _) trivial hA fun a w1 hA => ?_);refine wp_seq (wp_seq (aA aG hT hG (Pk _ _) trivial hA fun a w1 hA => ?_));refine wp_block ?_;have out0:∀{a:Act} {w:World} (g:Nat→Nat),Holds f6.ntmps w0.heap.size w0 (mM 0) a w→bodyPost prog f6 (Pr w0 0 g 0) .ret a w:=fun g hA=>aX (bH (l:=[.im (.slice none 0 0),.im (.int .i64 0)]) (r:=.many [.im (.slice none 0 0),.im (.int .i64 0)]) (by kernel_rfl) (by kernel_rfl) hA) fun e w h=>Pr.nil _ h
  obtain⟨K,hK⟩:∃K,max N M=K:=⟨_,rfl⟩
  have hK1:N≤K:=hK▸Nat.le_max_left _ _;have hK2:M≤K:=hK▸Nat.le_max_right _ _;have hK3:K≤65536:=hK▸Nat.max_le.2 ⟨q1,q2⟩;have hK4:∀i,i<K→i<N∨i<M:=fun i hi=>by
   rcases Nat.lt_or_ge i N with c|c
   ·exact Or.inl c
   ·rcases Nat.lt_or_ge i M with c2|c2
    ·exact Or.inr c2
    ·have:K≤i:=hK▸Nat.max_le.2 ⟨c,c2⟩;omega
  rw[hK];clear hK
  by_cases h0:K=0
  ·subst h0;refine cH aG (fun i=>jX (.slice p N m) (.slice q M m2) lJ i) 0 (fun i hi=>by omega) (.ex 0) (by simp) lJ ⟨_,_,_,_,hG,hT,Pj p q N m M m2 0 [],bU (by omega),bU (by omega),trivial⟩ hA fun a w hA => ?_
   show (cB rX).wp _ _ _ _;exact aA aG (fun _ _=>(eP.add func25 (by kernel_rfl) (by kernel_rfl) xD).w _ _) hG Gi trivial hA fun a w hA=>out0 _ hA
  ·have hx:∀i,aU f N i<RM:=fun i=>nV q3
   have hy:∀i,aU g M i<RM:=fun i=>nV q4
   refine cH aG (Ym (.slice p N m) (.slice q M m2) (fun i=>dH (aU f N i) (aU g M i))) K (fun i hi => ?_) (.ex 0) (by simp) (kM K (aP (el (fun i=>dH (aU f N i) (aU g M i))) 0 K)) ?_ hA fun a w hA => ?_
   ·rcases hK4 i hi with c|c
    ·cases i with
     | zero=>exact⟨_,_,_,_,gR _ _ _ _ _,hC _,PE p q N m M m2 f g (aP (el (fun i=>dH (aU f N i) (aU g M i))) 0 1),bK c,rfl,rfl,hx 0,hy 0,iX _,by omega,by omega,by omega,rfl,fX (fun i=>dH (aU f N i) (aU g M i)) 0,rfl,trivial⟩
     | succ i=>exact⟨_,_,_,_,gR _ _ _ _ _,hC _,PD p q N m M m2 f g (i+1) (aP (el (fun i=>dH (aU f N i) (aU g M i))) 0 (i+1)) (aP (el (fun i=>dH (aU f N i) (aU g M i))) 0 (i+1+1)),bK c,rfl,rfl,hx _,hy _,rfl,dM (f:=el (fun i=>dH (aU f N i) (aU g M i))) (c:=4) (fun _=>rfl) _ _,iX _,by omega,by omega,by omega,rfl,fX (fun i=>dH (aU f N i) (aU g M i)) (i+1),cX (k:=1) (by omega),trivial⟩
    ·by_cases c1:i<N
     ·cases i with
      | zero=>exact⟨_,_,_,_,gR _ _ _ _ _,hC _,PE p q N m M m2 f g (aP (el (fun i=>dH (aU f N i) (aU g M i))) 0 1),bK c1,rfl,rfl,hx 0,hy 0,iX _,by omega,by omega,by omega,rfl,fX (fun i=>dH (aU f N i) (aU g M i)) 0,rfl,trivial⟩
      | succ i=>exact⟨_,_,_,_,gR _ _ _ _ _,hC _,PD p q N m M m2 f g (i+1) (aP (el (fun i=>dH (aU f N i) (aU g M i))) 0 (i+1)) (aP (el (fun i=>dH (aU f N i) (aU g M i))) 0 (i+1+1)),bK c1,rfl,rfl,hx _,hy _,rfl,dM (f:=el (fun i=>dH (aU f N i) (aU g M i))) (c:=4) (fun _=>rfl) _ _,iX _,by omega,by omega,by omega,rfl,fX (fun i=>dH (aU f N i) (aU g M i)) (i+1),cX (k:=1) (by omega),trivial⟩
     ·cases i with
      | zero=>exact⟨_,_,_,_,gR _ _ _ _ _,hC _,Gp p q N m M m2 f g (aP (el (fun i=>dH (aU f N i) (aU g M i))) 0 1),bU (by omega),bK c,rfl,rfl,hx 0,hy 0,iX _,by omega,by omega,by omega,rfl,fX (fun i=>dH (aU f N i) (aU g M i)) 0,rfl,trivial⟩
      | succ i=>exact⟨_,_,_,_,gR _ _ _ _ _,hC _,Gn p q N m M m2 f g (i+1) (aP (el (fun i=>dH (aU f N i) (aU g M i))) 0 (i+1)) (aP (el (fun i=>dH (aU f N i) (aU g M i))) 0 (i+1+1)),bU (by omega),bK c,rfl,rfl,hx _,hy _,rfl,dM (f:=el (fun i=>dH (aU f N i) (aU g M i))) (c:=4) (fun _=>rfl) _ _,iX _,by omega,by omega,by omega,rfl,fX (fun i=>dH (aU f N i) (aU g M i)) (i+1),cX (k:=1) (by omega),trivial⟩
   ·obtain⟨k,rfl⟩:∃k,K=k+1:=⟨K-1,by omega⟩
    exact⟨_,_,_,_,hG,hT,Gm p q N m M m2 (k+1) _,bU (by omega),bU (by omega),trivial⟩
   ·show (cB rX).wp _ _ _ _;obtain⟨cap,hcap,hA⟩:=hA.soSl (s:=7) (k:=37) (n:=K) (e:=25) (sz:=4) (l:=aP (el (fun i=>dH (aU f N i) (aU g M i))) 0 K) (by simp[kM]) (by simp[kM]) (by simp[kM]);have hA:Holds f6.ntmps w0.heap.size w0 [.slot 7 (.sl 37 0 K cap),.row 37 true (aP (el (fun i=>dH (aU f N i) (aU g M i))) 0 K)] a w:=hA.sub fun φ hφ=>by
     simp only[List.mem_cons,List.not_mem_nil,or_false]at hφ
     rcases hφ with rfl|rfl
     ·exact List.mem_of_getElem? (i:=0) rfl
     ·exact List.mem_of_getElem? (i:=2) rfl
    have h256:∀j,j<K→(fun i=>dH (aU f N i) (aU g M i)) j<bQ:=fun j _=>dW (gT _ _)
    by_cases ht:aF (fun i=>dH (aU f N i) (aU g M i)) K=0
    ·rw[ht];exact aA aG (fun _ _=>(eP.add func25 (by kernel_rfl) (by kernel_rfl) xE).w _ _) hG (Gj K cap _ (fun i=>dH (aU f N i) (aU g M i))) ⟨rfl,rfl,hcap,h256,by omega,ht,trivial⟩ hA fun a w hA=>out0 _ hA
    ·exact aA aG hT (rG fun w' hw=>(FsAt.none _ _).add func25 (by kernel_rfl) (by kernel_rfl) fun cs pre r h1 h2 args ha=>qR cs pre r h1 h2 args w' ha) (Pi K cap _ (fun i=>dH (aU f N i) (aU g M i))) ⟨rfl,rfl,hcap,h256,by omega,by omega,trivial⟩ hA fun a w hA=>aX (gE (XK _ _) hA) fun e w h=>Pr.fs (fun j _=>dW (gT _ _)) h
def eG:Code:=(f8.body).getD .skip
def rW:Code:=cB (cB (cB (cB eG)))
def iU:Code:=fY (fY (cB (cA rW)))
theorem OX:eG=.seq (cA eG) (.seq (cA (cB eG)) (.seq (cA (cB (cB eG))) (.seq (cA (cB (cB (cB eG)))) (.seq (.seq (cA (cA rW)) (.block 0 (.loop iU))) (cB rW))))):=by kernel_rfl
def JW (v v2:Value) (N:Nat) (f:Nat→Nat) (M:Nat) (g:Nat→Nat) (num:Nat→Option Value) (_:Nat):Cfg:=⟨fun s=>(gY.add 22 (RU v v2 N f M g)).add 24 (bif Nat.beq s 31 then LE v N f else LE v2 M g),fun _=>true,num⟩
theorem Gd (v v2:Value):aH prog (qG prog) f8.ntmps (fE true fun _=>none) 40 (cA eG) (dX 0 [.v (.im v),.v (.im v2)]) (eM v v2)=some ([],.nrm,eM v v2):=by kernel_rfl
theorem Gc (p q:Option Addr) (N m M m2:Nat) (f g:Nat→Nat):aH prog (qG prog) f8.ntmps (JW (.slice p N m) (.slice q M m2) N f M g fun _=>none) 60 (cA (cB eG)) (eM (.slice p N m) (.slice q M m2)) (.slot 6 (.im (.int .i64 (eW N f M g)))::eM (.slice p N m) (.slice q M m2))=some ([Value.slice p N m=.slice p N m,Value.slice q M m2=.slice q M m2,2=2],.nrm,.slot 6 (.im (.int .i64 (eW N f M g)))::eM (.slice p N m) (.slice q M m2)):=by kernel_rfl
theorem XJ (v v2:Value) (e:Int):aH prog (qG prog) f8.ntmps (fE true (aE [(14,.bool true)])) 60 (cA (cB (cB eG))) (.slot 6 (.im (.int .i64 e))::eM v v2) (mM e)=some ([aC .neq .i64 e 0=some (.bool true)],.rt,mM e):=by kernel_rfl
theorem OV (v v2:Value):aH prog (qG prog) f8.ntmps (fE true fun _=>none) 60 (cA (cB (cB eG))) (.slot 6 (.im (.int .i64 0))::eM v v2) (eM v v2)=some ([],.nrm,eM v v2):=by kernel_rfl
def jW (v v2:Value) (R:List Fact) (i:Nat):List Fact:=.slot 8 (.im (iI i)) :: .slot 0 (.im v) :: .slot 1 (.im v2)::R
def lI:List Fact:=[.slot 7 (.im (.slice none 0 0))]
def kL (i:Nat) (Z:List At):List Fact:=[.slot 7 (.so 37 i),.row 37 true Z,.app 37 25 4 i]
theorem Ph (v v2:Value):aH prog (qG prog) f8.ntmps (fE true fun _=>none) 60 (cA (cB (cB (cB eG)))) (eM v v2) (.slot 7 (.im (.slice none 0 0))::eM v v2)=some ([],.nrm,.slot 7 (.im (.slice none 0 0))::eM v v2):=by kernel_rfl
theorem Pg (v v2:Value):aH prog (qG prog) f8.ntmps (fE true fun _=>none) 60 (cA (cA rW)) (.slot 7 (.im (.slice none 0 0))::eM v v2) (jW v v2 lI 0)=some ([],.nrm,jW v v2 lI 0):=by kernel_rfl
theorem OZ (p q:Option Addr) (N m M m2:Nat) (f g:Nat→Nat) (Z:List At):aH prog { qG prog with x:=VB 37 1 Z } f8.ntmps (JW (.slice p N m) (.slice q M m2) N f M g (aE [(19,.bool true),(27,iI 1)])) 60 iU (jW (.slice p N m) (.slice q M m2) lI 0) (jW (.slice p N m) (.slice q M m2) (kL 1 Z) 1) =
  some ([aC .lss .i64 (Int.ofNat 0) (Int.ofNat N)=some (.bool true),Value.slice p N m=.slice p N m,Value.slice q M m2=.slice q M m2,aU f N 0<RM,aU g M 0<RM,∀v∈aB [At.q (fD (aU f N 0) (aU g M 0))],v.oneCell'=true,0<1,(0+1)*32≤140737488355328,0+1≤4611686018427387904,1=0+1,aB Z=aB ([]++[At.q (fD (aU f N 0) (aU g M 0))]),aC .add .i64 (Int.ofNat 0) 1=some (iI 1)],.nrm,jW (.slice p N m) (.slice q M m2) (kL 1 Z) 1):=by kernel_rfl
theorem OY (p q:Option Addr) (N m M m2:Nat) (f g:Nat→Nat) (i:Nat) (Y Z:List At):aH prog { qG prog with x:=VB 37 (i+1) Z } f8.ntmps (JW (.slice p N m) (.slice q M m2) N f M g (aE [(19,.bool true),(27,iI (i+1))])) 60 iU (jW (.slice p N m) (.slice q M m2) (kL i Y) i) (jW (.slice p N m) (.slice q M m2) (kL (i+1) Z) (i+1)) =
  some ([aC .lss .i64 (Int.ofNat i) (Int.ofNat N)=some (.bool true),Value.slice p N m=.slice p N m,Value.slice q M m2=.slice q M m2,aU f N i<RM,aU g M i<RM,i=i,cL Y=i*4,∀v∈aB [At.q (fD (aU f N i) (aU g M i))],v.oneCell'=true,0<1,(i+1)*32≤140737488355328,i+1≤4611686018427387904,(i+1)=i+1,aB Z=aB (Y++[At.q (fD (aU f N i) (aU g M i))]),aC .add .i64 (Int.ofNat i) 1=some (iI (i+1))],.nrm,jW (.slice p N m) (.slice q M m2) (kL (i+1) Z) (i+1)):=by kernel_rfl
theorem Gg (p q:Option Addr) (N m M m2:Nat) (f g:Nat→Nat) (Z:List At):aH prog { qG prog with x:=VB 37 1 Z } f8.ntmps (JW (.slice p N m) (.slice q M m2) N f M g (aE [(19,.bool false),(24,.bool true),(27,iI 1)])) 60 iU (jW (.slice p N m) (.slice q M m2) lI 0) (jW (.slice p N m) (.slice q M m2) (kL 1 Z) 1) =
  some ([aC .lss .i64 (Int.ofNat 0) (Int.ofNat N)=some (.bool false),aC .lss .i64 (Int.ofNat 0) (Int.ofNat M)=some (.bool true),Value.slice p N m=.slice p N m,Value.slice q M m2=.slice q M m2,aU f N 0<RM,aU g M 0<RM,∀v∈aB [At.q (fD (aU f N 0) (aU g M 0))],v.oneCell'=true,0<1,(0+1)*32≤140737488355328,0+1≤4611686018427387904,1=0+1,aB Z=aB ([]++[At.q (fD (aU f N 0) (aU g M 0))]),aC .add .i64 (Int.ofNat 0) 1=some (iI 1)],.nrm,jW (.slice p N m) (.slice q M m2) (kL 1 Z) 1):=by kernel_rfl
theorem Gf (p q:Option Addr) (N m M m2:Nat) (f g:Nat→Nat) (i:Nat) (Y Z:List At):aH prog { qG prog with x:=VB 37 (i+1) Z } f8.ntmps (JW (.slice p N m) (.slice q M m2) N f M g (aE [(19,.bool false),(24,.bool true),(27,iI (i+1))])) 60 iU (jW (.slice p N m) (.slice q M m2) (kL i Y) i) (jW (.slice p N m) (.slice q M m2) (kL (i+1) Z) (i+1)) =
  some ([aC .lss .i64 (Int.ofNat i) (Int.ofNat N)=some (.bool false),aC .lss .i64 (Int.ofNat i) (Int.ofNat M)=some (.bool true),Value.slice p N m=.slice p N m,Value.slice q M m2=.slice q M m2,aU f N i<RM,aU g M i<RM,i=i,cL Y=i*4,∀v∈aB [At.q (fD (aU f N i) (aU g M i))],v.oneCell'=true,0<1,(i+1)*32≤140737488355328,i+1≤4611686018427387904,(i+1)=i+1,aB Z=aB (Y++[At.q (fD (aU f N i) (aU g M i))]),aC .add .i64 (Int.ofNat i) 1=some (iI (i+1))],.nrm,jW (.slice p N m) (.slice q M m2) (kL (i+1) Z) (i+1)):=by kernel_rfl
theorem Pf (p q:Option Addr) (N m M m2 i:Nat) (R:List Fact):aH prog (qG prog) f8.ntmps (fE true (aE [(19,.bool false),(24,.bool false)])) 60 iU (jW (.slice p N m) (.slice q M m2) lI i) lI=some ([aC .lss .i64 (Int.ofNat i) (Int.ofNat N)=some (.bool false),aC .lss .i64 (Int.ofNat i) (Int.ofNat M)=some (.bool false)],.ex 0,lI):=by kernel_rfl
theorem Ge (p q:Option Addr) (N m M m2 i:Nat) (Y:List At):aH prog (qG prog) f8.ntmps (fE true (aE [(19,.bool false),(24,.bool false)])) 60 iU (jW (.slice p N m) (.slice q M m2) (kL i Y) i) (kL i Y)=some ([aC .lss .i64 (Int.ofNat i) (Int.ofNat N)=some (.bool false),aC .lss .i64 (Int.ofNat i) (Int.ofNat M)=some (.bool false)],.ex 0,kL i Y):=by kernel_rfl
theorem Ga:aH prog (qG prog) f8.ntmps (fun _=>⟨fun _=>gY.add 25 RS,fun _=>true,fun _=>none⟩) 60 (cB rW) lI (mM 0)=some ([],.rt,mM 0):=by kernel_rfl
def Gh (T:Nat) (l:List At):List Fact:=[.slot 4 (.so 39 T),.row 39 true l,.app 39 25 4 T,.slot 5 (.im (iV 0))]
theorem Pe (K cap:Nat) (Z:List At) (h:Nat→Nat):aH prog { qG prog with x:=Ls (vR.add 25 (LC K h)) } f8.ntmps (fE true fun _=>none) 60 (cB rW) [.slot 7 (.sl 37 0 K cap),.row 37 true Z] (Gh (aF h K) (aP (el h) 0 (aF h K)))=some ([aB Z=aB (aP (el h) 0 K),K=K,K≤cap,∀j,j<K→h j<bQ,K≤131072,0<aF h K],.rt,Gh (aF h K) (aP (el h) 0 (aF h K))):=by kernel_rfl
theorem Gb (K cap:Nat) (Z:List At) (h:Nat→Nat):aH prog (qG prog) f8.ntmps (fun _=>⟨fun _=>gY.add 25 (RT K h),fun _=>true,fun _=>none⟩) 60 (cB rW) [.slot 7 (.sl 37 0 K cap),.row 37 true Z] (mM 0)=some ([aB Z=aB (aP (el h) 0 K),K=K,K≤cap,∀j,j<K→h j<bQ,K≤131072,aF h K=0],.rt,mM 0):=by kernel_rfl
theorem XI (T:Nat) (l:List At):rZ prog (Gh T l) f8.results.toList []=some ⟨l,T,25,4,true,[],[.im (iV 0)]⟩:=by
 have h:Nat.beq T T=true:=Nat.beq_refl T;show (bif Nat.beq T T then some (FS.mk l T 25 4 true [] [.im (iV 0)])else none)=_;rw[h];rfl
def Yl (v v2:Value) (h:Nat→Nat):Nat→List Fact
 | 0=>jW v v2 lI 0
 | i+1=>jW v v2 (kL (i+1) (aP (el h) 0 (i+1))) (i+1)
theorem OU {w0:World} {v v2:Value} {N:Nat} {f:Nat→Nat} {M:Nat} {g:Nat→Nat} (hv:LV w0 v N f) (hv2:LV w0 v2 M g) :
  (eW N f M g≠0→Calls prog 8 #[v,v2] w0 (Pr w0 0 (fun _=>0) (eW N f M g))) ∧
  (eW N f M g=0→Calls prog 8 #[v,v2] w0 (Pr w0 (aF (fun i=>fD (aU f N i) (aU g M i)) (max N M)) (fun i=>fD (aU f N i) (aU g M i)) 0)):=by
 have hG:bO prog (qG prog) w0.heap.size w0:=(bE _).w _ _;have hT:∀n d:Nat,TabOkW prog gY w0.heap.size w0:=fun _ _=>eP.w _ _
 obtain⟨p,m,rfl,hx⟩:=id hv;obtain⟨q,m2,rfl,hx2⟩:=id hv2;clear hx hx2;have hC:∀num,∀n d:Nat,TabOkW prog ((JW (.slice p N m) (.slice q M m2) N f M g num n).T d) w0.heap.size w0:=fun _ _ d=>TabOkW.add (TabOkW.add (eP.w _ _) func22 (by kernel_rfl) (by kernel_rfl) fun w hw=>xH (hv.on hw) (hv2.on hw)) func24 (by kernel_rfl) (by kernel_rfl) fun w hw=>by
  cases Nat.beq d 31
  ·exact qT (hv2.on hw)
  ·exact qT (hv.on hw)
 have first:∀R:Ending→World→Prop,(∀a w,Holds f8.ntmps w0.heap.size w0 (.slot 6 (.im (.int .i64 (eW N f M g)))::eM (.slice p N m) (.slice q M m2)) a w→(Code.seq (cA (cB (cB eG))) (.seq (cA (cB (cB (cB eG)))) (.seq (.seq (cA (cA rW)) (.block 0 (.loop iU))) (cB rW)))).wp prog (bodyPost prog f8 R) a w)→Calls prog 8 #[.slice p N m,.slice q M m2] w0 R:=fun R hR=>by
  refine bP func8 (cs:=[.v (.im (.slice p N m)),.v (.im (.slice q M m2))]) (args:=[.slice p N m,.slice q M m2]) (c:=eG) rfl ⟨rfl,rfl,trivial⟩ (Nat.le_of_ble_eq_true (by kernel_rfl)) fun a w1 hA => ?_
  rw[OX];refine wp_seq (aA aG hT hG (Gd _ _) trivial hA fun a w1 hA => ?_);exact wp_seq (aA aG (hC _) hG (Gc p q N m M m2 f g) ⟨rfl,rfl,rfl,trivial⟩ hA fun a w1 hA=>hR a w1 hA)
 refine⟨fun he=>first _ fun a w hA => ?_,fun he=>first _ fun a w hA => ?_⟩
 ·exact wp_seq (aA aG hT hG (XJ _ _ _) ⟨pB he,trivial⟩ hA fun a w hA=>aX (bH (l:=[.im (.slice none 0 0),.im (.int .i64 (eW N f M g))]) (r:=.many [.im (.slice none 0 0),.im (.int .i64 (eW N f M g))]) (by kernel_rfl) (by kernel_rfl) hA) fun e w h=>Pr.nil _ h)
 ·obtain⟨q1,q2,q3,q4⟩:=tR he;rw[he]at hA;refine wp_seq (aA aG hT hG (OV _ _) trivial hA fun a w1 hA => ?_);refine wp_seq (aA aG hT hG (Ph _ _) trivial hA fun a w1 hA => ?_);refine wp_seq (wp_seq (aA aG hT hG (Pg _ _) trivial hA fun a w1 hA => ?_));refine wp_block ?_;have out0:∀{a:Act} {w:World} (g:Nat→Nat),Holds f8.ntmps w0.heap.size w0 (mM 0) a w→bodyPost prog f8 (Pr w0 0 g 0) .ret a w:=fun g hA=>aX (bH (l:=[.im (.slice none 0 0),.im (.int .i64 0)]) (r:=.many [.im (.slice none 0 0),.im (.int .i64 0)]) (by kernel_rfl) (by kernel_rfl) hA) fun e w h=>Pr.nil _ h
  obtain⟨K,hK⟩:∃K,max N M=K:=⟨_,rfl⟩
  have hK1:N≤K:=hK▸Nat.le_max_left _ _;have hK2:M≤K:=hK▸Nat.le_max_right _ _;have hK3:K≤65536:=hK▸Nat.max_le.2 ⟨q1,q2⟩;have hK4:∀i,i<K→i<N∨i<M:=fun i hi=>by
   rcases Nat.lt_or_ge i N with c|c
   ·exact Or.inl c
   ·rcases Nat.lt_or_ge i M with c2|c2
    ·exact Or.inr c2
    ·have:K≤i:=hK▸Nat.max_le.2 ⟨c,c2⟩;omega
  rw[hK];clear hK
  by_cases h0:K=0
  ·subst h0;refine cH aG (fun i=>jW (.slice p N m) (.slice q M m2) lI i) 0 (fun i hi=>by omega) (.ex 0) (by simp) lI ⟨_,_,_,_,hG,hT,Pf p q N m M m2 0 [],bU (by omega),bU (by omega),trivial⟩ hA fun a w hA => ?_
   show (cB rW).wp _ _ _ _;exact aA aG (fun _ _=>(eP.add func25 (by kernel_rfl) (by kernel_rfl) xD).w _ _) hG Ga trivial hA fun a w hA=>out0 _ hA
  ·have hx:∀i,aU f N i<RM:=fun i=>nV q3
   have hy:∀i,aU g M i<RM:=fun i=>nV q4
   refine cH aG (Yl (.slice p N m) (.slice q M m2) (fun i=>fD (aU f N i) (aU g M i))) K (fun i hi => ?_) (.ex 0) (by simp) (kL K (aP (el (fun i=>fD (aU f N i) (aU g M i))) 0 K)) ?_ hA fun a w hA => ?_
   ·rcases hK4 i hi with c|c
    ·cases i with
     | zero=>exact⟨_,_,_,_,gR _ _ _ _ _,hC _,OZ p q N m M m2 f g (aP (el (fun i=>fD (aU f N i) (aU g M i))) 0 1),bK c,rfl,rfl,hx 0,hy 0,iX _,by omega,by omega,by omega,rfl,fX (fun i=>fD (aU f N i) (aU g M i)) 0,rfl,trivial⟩
     | succ i=>exact⟨_,_,_,_,gR _ _ _ _ _,hC _,OY p q N m M m2 f g (i+1) (aP (el (fun i=>fD (aU f N i) (aU g M i))) 0 (i+1)) (aP (el (fun i=>fD (aU f N i) (aU g M i))) 0 (i+1+1)),bK c,rfl,rfl,hx _,hy _,rfl,dM (f:=el (fun i=>fD (aU f N i) (aU g M i))) (c:=4) (fun _=>rfl) _ _,iX _,by omega,by omega,by omega,rfl,fX (fun i=>fD (aU f N i) (aU g M i)) (i+1),cX (k:=1) (by omega),trivial⟩
    ·by_cases c1:i<N
     ·cases i with
      | zero=>exact⟨_,_,_,_,gR _ _ _ _ _,hC _,OZ p q N m M m2 f g (aP (el (fun i=>fD (aU f N i) (aU g M i))) 0 1),bK c1,rfl,rfl,hx 0,hy 0,iX _,by omega,by omega,by omega,rfl,fX (fun i=>fD (aU f N i) (aU g M i)) 0,rfl,trivial⟩
      | succ i=>exact⟨_,_,_,_,gR _ _ _ _ _,hC _,OY p q N m M m2 f g (i+1) (aP (el (fun i=>fD (aU f N i) (aU g M i))) 0 (i+1)) (aP (el (fun i=>fD (aU f N i) (aU g M i))) 0 (i+1+1)),bK c1,rfl,rfl,hx _,hy _,rfl,dM (f:=el (fun i=>fD (aU f N i) (aU g M i))) (c:=4) (fun _=>rfl) _ _,iX _,by omega,by omega,by omega,rfl,fX (fun i=>fD (aU f N i) (aU g M i)) (i+1),cX (k:=1) (by omega),trivial⟩
     ·cases i with
      | zero=>exact⟨_,_,_,_,gR _ _ _ _ _,hC _,Gg p q N m M m2 f g (aP (el (fun i=>fD (aU f N i) (aU g M i))) 0 1),bU (by omega),bK c,rfl,rfl,hx 0,hy 0,iX _,by omega,by omega,by omega,rfl,fX (fun i=>fD (aU f N i) (aU g M i)) 0,rfl,trivial⟩
      | succ i=>exact⟨_,_,_,_,gR _ _ _ _ _,hC _,Gf p q N m M m2 f g (i+1) (aP (el (fun i=>fD (aU f N i) (aU g M i))) 0 (i+1)) (aP (el (fun i=>fD (aU f N i) (aU g M i))) 0 (i+1+1)),bU (by omega),bK c,rfl,rfl,hx _,hy _,rfl,dM (f:=el (fun i=>fD (aU f N i) (aU g M i))) (c:=4) (fun _=>rfl) _ _,iX _,by omega,by omega,by omega,rfl,fX (fun i=>fD (aU f N i) (aU g M i)) (i+1),cX (k:=1) (by omega),trivial⟩
   ·obtain⟨k,rfl⟩:∃k,K=k+1:=⟨K-1,by omega⟩
    exact⟨_,_,_,_,hG,hT,Ge p q N m M m2 (k+1) _,bU (by omega),bU (by omega),trivial⟩
   ·show (cB rW).wp _ _ _ _;obtain⟨cap,hcap,hA⟩:=hA.soSl (s:=7) (k:=37) (n:=K) (e:=25) (sz:=4) (l:=aP (el (fun i=>fD (aU f N i) (aU g M i))) 0 K) (by simp[kL]) (by simp[kL]) (by simp[kL]);have hA:Holds f8.ntmps w0.heap.size w0 [.slot 7 (.sl 37 0 K cap),.row 37 true (aP (el (fun i=>fD (aU f N i) (aU g M i))) 0 K)] a w:=hA.sub fun φ hφ=>by
     simp only[List.mem_cons,List.not_mem_nil,or_false]at hφ
     rcases hφ with rfl|rfl
     ·exact List.mem_of_getElem? (i:=0) rfl
     ·exact List.mem_of_getElem? (i:=2) rfl
    have h256:∀j,j<K→(fun i=>fD (aU f N i) (aU g M i)) j<bQ:=fun j _=>dW (lG _ _)
    by_cases ht:aF (fun i=>fD (aU f N i) (aU g M i)) K=0
    ·rw[ht];exact aA aG (fun _ _=>(eP.add func25 (by kernel_rfl) (by kernel_rfl) xE).w _ _) hG (Gb K cap _ (fun i=>fD (aU f N i) (aU g M i))) ⟨rfl,rfl,hcap,h256,by omega,ht,trivial⟩ hA fun a w hA=>out0 _ hA
    ·exact aA aG hT (rG fun w' hw=>(FsAt.none _ _).add func25 (by kernel_rfl) (by kernel_rfl) fun cs pre r h1 h2 args ha=>qR cs pre r h1 h2 args w' ha) (Pe K cap _ (fun i=>fD (aU f N i) (aU g M i))) ⟨rfl,rfl,hcap,h256,by omega,by omega,trivial⟩ hA fun a w hA=>aX (gE (XI _ _) hA) fun e w h=>Pr.fs (fun j _=>dW (lG _ _)) h
def fU:Code:=(f12.body).getD .skip
def PI:Code:=cB (cB (cB (cB fU)))
def oW:Code:=fY (fY (cB (cA PI)))
theorem XZ:fU=.seq (cA fU) (.seq (cA (cB fU)) (.seq (cA (cB (cB fU))) (.seq (cA (cB (cB (cB fU)))) (.seq (.seq (cA (cA PI)) (.block 0 (.loop oW))) (cB PI))))):=by kernel_rfl
def rcC (v:Value) (N:Nat) (f:Nat→Nat) (num:Nat→Option Value) (_:Nat):Cfg:=⟨fun s=>gY.add 22 (RW v N f),fun _=>true,num⟩
def GQ (v:Value) (c:Nat):List Fact:=[.slot 0 (.im v),.slot 3 (.pt 3 0),.row 3 true [.q c]]
theorem Pq (v:Value) (c:Nat):aH prog (qG prog) f12.ntmps (fE true fun _=>none) 40 (cA fU) (dX 0 [.v (.im v),.v (.fl [.q c])]) (GQ v c)=some ([],.nrm,GQ v c):=by kernel_rfl
theorem Pp (p:Option Addr) (N m c:Nat) (f:Nat→Nat):aH prog (qG prog) f12.ntmps (rcC (.slice p N m) N f fun _=>none) 60 (cA (cB fU)) (GQ (.slice p N m) c) (.slot 6 (.im (.int .i64 (fB N f c)))::GQ (.slice p N m) c)=some ([Value.slice p N m=.slice p N m,1=1,1=1,c<bQ,1≤1],.nrm,.slot 6 (.im (.int .i64 (fB N f c)))::GQ (.slice p N m) c):=by kernel_rfl
theorem Gz (v:Value) (c:Nat) (e:Int):aH prog (qG prog) f12.ntmps (fE true (aE [(15,.bool true)])) 60 (cA (cB (cB fU))) (.slot 6 (.im (.int .i64 e))::GQ v c) (mM e)=some ([aC .neq .i64 e 0=some (.bool true)],.rt,mM e):=by kernel_rfl
theorem XY (v:Value) (c:Nat):aH prog (qG prog) f12.ntmps (fE true fun _=>none) 60 (cA (cB (cB fU))) (.slot 6 (.im (.int .i64 0))::GQ v c) (GQ v c)=some ([],.nrm,GQ v c):=by kernel_rfl
def KD (v:Value) (c:Nat) (R:List Fact) (i:Nat):List Fact:=.slot 8 (.im (iI i)) :: .slot 0 (.im v) :: .slot 3 (.pt 3 0) :: .row 3 true [.q c]::R
def uG:List Fact:=[.slot 7 (.im (.slice none 0 0))]
def KC (i:Nat) (Z:List At):List Fact:=[.slot 7 (.so 31 i),.row 31 true Z,.app 31 25 4 i]
theorem Yr (v:Value) (c:Nat):aH prog (qG prog) f12.ntmps (fE true fun _=>none) 60 (cA (cB (cB (cB fU)))) (GQ v c) (.slot 7 (.im (.slice none 0 0))::GQ v c)=some ([],.nrm,.slot 7 (.im (.slice none 0 0))::GQ v c):=by kernel_rfl
theorem Yq (v:Value) (c:Nat):aH prog (qG prog) f12.ntmps (fE true fun _=>none) 60 (cA (cA PI)) (.slot 7 (.im (.slice none 0 0))::GQ v c) (KD v c uG 0)=some ([],.nrm,KD v c uG 0):=by kernel_rfl
theorem Pt (w:World) (b o N m c x:Nat) (Z:List At):aH prog { qG prog with x:=Xm w 31 1 Z (aE [(26,0)]) (aE [(27,[.q x])]) } f12.ntmps (fE true (aE [(20,.bool true),(22,iI 1)])) 60 oW (KD (aS b o N m) c uG 0) (KD (aS b o N m) c (KC 1 Z) 1) =
  some ([aC .lss .i64 (Int.ofNat 0) (Int.ofNat N)=some (.bool true),Int.ofNat 0=Int.ofNat 0,0<N,oldOf w b (o+0*4) [.q x],cL [.q x]=4,x<RM,c<RM,∀v∈aB [At.q (dF x c)],v.oneCell'=true,0<1,(0+1)*32≤140737488355328,0+1≤4611686018427387904,1=0+1,aB Z=aB ([]++[At.q (dF x c)]),aC .add .i64 (Int.ofNat 0) 1=some (iI 1)],.nrm,KD (aS b o N m) c (KC 1 Z) 1):=by kernel_rfl
theorem Ps (w:World) (b o N m c x i:Nat) (Y Z:List At):aH prog { qG prog with x:=Xm w 31 (i+1) Z (aE [(26,i)]) (aE [(27,[.q x])]) } f12.ntmps (fE true (aE [(20,.bool true),(22,iI (i+1))])) 60 oW (KD (aS b o N m) c (KC i Y) i) (KD (aS b o N m) c (KC (i+1) Z) (i+1)) =
  some ([aC .lss .i64 (Int.ofNat i) (Int.ofNat N)=some (.bool true),Int.ofNat i=Int.ofNat i,i<N,oldOf w b (o+i*4) [.q x],cL [.q x]=4,x<RM,c<RM,i=i,cL Y=i*4,∀v∈aB [At.q (dF x c)],v.oneCell'=true,0<1,(i+1)*32≤140737488355328,i+1≤4611686018427387904,(i+1)=i+1,aB Z=aB (Y++[At.q (dF x c)]),aC .add .i64 (Int.ofNat i) 1=some (iI (i+1))],.nrm,KD (aS b o N m) c (KC (i+1) Z) (i+1)):=by kernel_rfl
theorem Yp (p:Option Addr) (N m c i:Nat):aH prog (qG prog) f12.ntmps (fE true (aE [(20,.bool false)])) 60 oW (KD (.slice p N m) c uG i) uG=some ([aC .lss .i64 (Int.ofNat i) (Int.ofNat N)=some (.bool false)],.ex 0,uG):=by kernel_rfl
theorem Pu (p:Option Addr) (N m c i:Nat) (Y:List At):aH prog (qG prog) f12.ntmps (fE true (aE [(20,.bool false)])) 60 oW (KD (.slice p N m) c (KC i Y) i) (KC i Y)=some ([aC .lss .i64 (Int.ofNat i) (Int.ofNat N)=some (.bool false)],.ex 0,KC i Y):=by kernel_rfl
theorem Pn:aH prog (qG prog) f12.ntmps (fun _=>⟨fun _=>gY.add 25 RS,fun _=>true,fun _=>none⟩) 60 (cB PI) uG (mM 0)=some ([],.rt,mM 0):=by kernel_rfl
def Ys (T:Nat) (l:List At):List Fact:=[.slot 4 (.so 33 T),.row 33 true l,.app 33 25 4 T,.slot 5 (.im (iV 0))]
theorem Yo (K cap:Nat) (Z:List At) (h:Nat→Nat):aH prog { qG prog with x:=Ls (vR.add 25 (LC K h)) } f12.ntmps (fE true fun _=>none) 60 (cB PI) [.slot 7 (.sl 31 0 K cap),.row 31 true Z] (Ys (aF h K) (aP (el h) 0 (aF h K)))=some ([aB Z=aB (aP (el h) 0 K),K=K,K≤cap,∀j,j<K→h j<bQ,K≤131072,0<aF h K],.rt,Ys (aF h K) (aP (el h) 0 (aF h K))):=by kernel_rfl
theorem Po (K cap:Nat) (Z:List At) (h:Nat→Nat):aH prog (qG prog) f12.ntmps (fun _=>⟨fun _=>gY.add 25 (RT K h),fun _=>true,fun _=>none⟩) 60 (cB PI) [.slot 7 (.sl 31 0 K cap),.row 31 true Z] (mM 0)=some ([aB Z=aB (aP (el h) 0 K),K=K,K≤cap,∀j,j<K→h j<bQ,K≤131072,aF h K=0],.rt,mM 0):=by kernel_rfl
theorem Gy (T:Nat) (l:List At):rZ prog (Ys T l) f12.results.toList []=some ⟨l,T,25,4,true,[],[.im (iV 0)]⟩:=by
 have h:Nat.beq T T=true:=Nat.beq_refl T;show (bif Nat.beq T T then some (FS.mk l T 25 4 true [] [.im (iV 0)])else none)=_;rw[h];rfl
def Yt (v:Value) (c:Nat) (h:Nat→Nat):Nat→List Fact
 | 0=>KD v c uG 0
 | i+1=>KD v c (KC (i+1) (aP (el h) 0 (i+1))) (i+1)
theorem Dh {w0:World} {v:Value} {N c:Nat} {f:Nat→Nat} (hv:LV w0 v N f) (hc:c<bQ) :
  (fB N f c≠0→Calls prog 12 #[v,.agg (aB [At.q c]).toArray] w0 (Pr w0 0 (fun _=>0) (fB N f c))) ∧
  (fB N f c=0→Calls prog 12 #[v,.agg (aB [At.q c]).toArray] w0 (Pr w0 (aF (fun i=>dF (f i) c) N) (fun i=>dF (f i) c) 0)):=by
 have hG:bO prog (qG prog) w0.heap.size w0:=(bE _).w _ _;have hT:∀n d:Nat,TabOkW prog gY w0.heap.size w0:=fun _ _=>eP.w _ _
 obtain⟨p,m,rfl,hm0,h256,hmem⟩:=id hv;have hC:∀num,∀n d:Nat,TabOkW prog ((rcC (.slice p N m) N f num n).T d) w0.heap.size w0:=fun _ _ d=>TabOkW.add (eP.w _ _) func22 (by kernel_rfl) (by kernel_rfl) fun w hw=>xI (hv.on hw)
 have first:∀R:Ending→World→Prop,(∀a w,Holds f12.ntmps w0.heap.size w0 (.slot 6 (.im (.int .i64 (fB N f c)))::GQ (.slice p N m) c) a w→(Code.seq (cA (cB (cB fU))) (.seq (cA (cB (cB (cB fU)))) (.seq (.seq (cA (cA PI)) (.block 0 (.loop oW))) (cB PI)))).wp prog (bodyPost prog f12 R) a w)→Calls prog 12 #[.slice p N m,.agg (aB [At.q c]).toArray] w0 R:=fun R hR=>by
  refine bP func12 (cs:=[.v (.im (.slice p N m)),.v (.fl [.q c])]) (args:=[.slice p N m,.agg (aB [At.q c]).toArray]) (c:=fU) rfl ⟨rfl,rfl,trivial⟩ (Nat.le_of_ble_eq_true (by kernel_rfl)) fun a w1 hA => ?_
  rw[XZ];refine wp_seq (aA aG hT hG (Pq _ _) trivial hA fun a w1 hA => ?_);exact wp_seq (aA aG (hC _) hG (Pp p N m c f) ⟨rfl,rfl,rfl,hc,Nat.le_refl _,trivial⟩ hA fun a w1 hA=>hR a w1 hA)
 refine⟨fun he=>first _ fun a w hA => ?_,fun he=>first _ fun a w hA => ?_⟩
 ·exact wp_seq (aA aG hT hG (Gz _ _ _) ⟨pB he,trivial⟩ hA fun a w hA=>aX (bH (l:=[.im (.slice none 0 0),.im (.int .i64 (fB N f c))]) (r:=.many [.im (.slice none 0 0),.im (.int .i64 (fB N f c))]) (by kernel_rfl) (by kernel_rfl) hA) fun e w h=>Pr.nil _ h)
 ·obtain⟨q1,q2,q3⟩:=pJ he;rw[he]at hA;refine wp_seq (aA aG hT hG (XY _ _) trivial hA fun a w1 hA => ?_);refine wp_seq (aA aG hT hG (Yr _ _) trivial hA fun a w1 hA => ?_);refine wp_seq (wp_seq (aA aG hT hG (Yq _ _) trivial hA fun a w1 hA => ?_));refine wp_block ?_;have out0:∀{a:Act} {w:World} (g:Nat→Nat),Holds f12.ntmps w0.heap.size w0 (mM 0) a w→bodyPost prog f12 (Pr w0 0 g 0) .ret a w:=fun g hA=>aX (bH (l:=[.im (.slice none 0 0),.im (.int .i64 0)]) (r:=.many [.im (.slice none 0 0),.im (.int .i64 0)]) (by kernel_rfl) (by kernel_rfl) hA) fun e w h=>Pr.nil _ h
  by_cases h0:N=0
  ·subst h0;refine cH aG (fun i=>KD (.slice p 0 m) c uG i) 0 (fun i hi=>by omega) (.ex 0) (by simp) uG ⟨_,_,_,_,hG,hT,Yp p 0 m c 0,bU (by omega),trivial⟩ hA fun a w hA => ?_
   show (cB PI).wp _ _ _ _;exact aA aG (fun _ _=>(eP.add func25 (by kernel_rfl) (by kernel_rfl) xD).w _ _) hG Pn trivial hA fun a w hA=>out0 _ hA
  ·obtain⟨b,o,rfl,hb,hr⟩:=hmem (by omega);refine cH aG (Yt (aS b o N m) c (fun i=>dF (f i) c)) N (fun i hi => ?_) (.ex 0) (by simp) (KC N (aP (el (fun i=>dF (f i) c)) 0 N)) ?_ hA fun a w hA => ?_
   ·cases i with
    | zero=>exact⟨_,_,_,_,MR w0 _ _ _ _ _,hT,Pt w0 b o N m c (f 0) (aP (el (fun i=>dF (f i) c)) 0 1),bK hi,rfl,hi,cJ hb hr hi,rfl,q2 0 hi,q3,iX _,by omega,by omega,by omega,rfl,fX (fun i=>dF (f i) c) 0,rfl,trivial⟩
    | succ i=>exact⟨_,_,_,_,MR w0 _ _ _ _ _,hT,Ps w0 b o N m c (f (i+1)) (i+1) (aP (el (fun i=>dF (f i) c)) 0 (i+1)) (aP (el (fun i=>dF (f i) c)) 0 (i+1+1)),bK hi,rfl,hi,cJ hb hr hi,rfl,q2 _ hi,q3,rfl,dM (f:=el (fun i=>dF (f i) c)) (c:=4) (fun _=>rfl) _ _,iX _,by omega,by omega,by omega,rfl,fX (fun i=>dF (f i) c) (i+1),cX (k:=1) (by omega),trivial⟩
   ·obtain⟨k,rfl⟩:∃k,N=k+1:=⟨N-1,by omega⟩
    exact⟨_,_,_,_,hG,hT,Pu (some ⟨b,o,none⟩) (k+1) m c (k+1) _,bU (by omega),trivial⟩
   ·show (cB PI).wp _ _ _ _;obtain⟨cap,hcap,hA⟩:=hA.soSl (s:=7) (k:=31) (n:=N) (e:=25) (sz:=4) (l:=aP (el (fun i=>dF (f i) c)) 0 N) (by simp[KC]) (by simp[KC]) (by simp[KC]);have hA:Holds f12.ntmps w0.heap.size w0 [.slot 7 (.sl 31 0 N cap),.row 31 true (aP (el (fun i=>dF (f i) c)) 0 N)] a w:=hA.sub fun φ hφ=>by
     simp only[List.mem_cons,List.not_mem_nil,or_false]at hφ
     rcases hφ with rfl|rfl
     ·exact List.mem_of_getElem? (i:=0) rfl
     ·exact List.mem_of_getElem? (i:=2) rfl
    have h256:∀j,j<N→(fun i=>dF (f i) c) j<bQ:=fun j _=>dW (eB _ _)
    by_cases ht:aF (fun i=>dF (f i) c) N=0
    ·rw[ht];exact aA aG (fun _ _=>(eP.add func25 (by kernel_rfl) (by kernel_rfl) xE).w _ _) hG (Po N cap _ (fun i=>dF (f i) c)) ⟨rfl,rfl,hcap,h256,by omega,ht,trivial⟩ hA fun a w hA=>out0 _ hA
    ·exact aA aG hT (rG fun w' hw=>(FsAt.none _ _).add func25 (by kernel_rfl) (by kernel_rfl) fun cs pre r h1 h2 args ha=>qR cs pre r h1 h2 args w' ha) (Yo N cap _ (fun i=>dF (f i) c)) ⟨rfl,rfl,hcap,h256,by omega,by omega,trivial⟩ hA fun a w hA=>aX (gE (Gy _ _) hA) fun e w h=>Pr.fs (fun j _=>dW (eB _ _)) h
def Oh (v:Value) (N:Nat) (f:Nat→Nat) (num:Nat→Option Value) (_:Nat):Cfg:=⟨fun _=>(gY.add 22 (Af v N f)).add 25 (Iw v N f),fun _=>true,num⟩
def Ft (v:Value) (N:Nat) (f:Nat→Nat) (num:Nat→Option Value) (_:Nat):Cfg:=⟨fun _=>gY.add 22 (Af v N f),fun _=>true,num⟩
theorem OA (p:Option Addr) (N m:Nat) (f:Nat→Nat):fH prog (qG prog) (Ft (.slice p N m) N f (aE [(9,.bool true)])) f16 60 [.v (.im (.slice p N m))]=some ([Value.slice p N m=.slice p N m,1=1,aC .neq .i64 (qX N f) 0=some (.bool true)],.many [.im (.slice none 0 0),.im (.int .i64 (qX N f))]):=by kernel_rfl
theorem WN (p:Option Addr) (N m:Nat) (f:Nat→Nat):fH prog (qG prog) (Oh (.slice p N m) N f (aE [(9,.bool false)])) f16 60 [.v (.im (.slice p N m))]=some ([Value.slice p N m=.slice p N m,1=1,aC .neq .i64 (qX N f) 0=some (.bool false),Value.slice p N m=.slice p N m,aF f N=0],.many [.im (.slice none 0 0),.im (.int .i64 0)]):=by kernel_rfl
def GO:Code:=(f16.body).getD .skip
def Fs (T:Nat) (l:List At):List Fact:=[.slot 2 (.so 12 T),.row 12 true l,.app 12 25 4 T,.slot 3 (.im (iV 0))]
theorem WO (p:Option Addr) (N m:Nat) (f:Nat→Nat):aH prog { qG prog with x:=Ls (vR.add 25 (Ix (.slice p N m) N f)) } f16.ntmps (Ft (.slice p N m) N f (aE [(9,.bool false)])) 60 GO (dX 0 [.v (.im (.slice p N m))]) (Fs (aF f N) (aP (el f) 0 (aF f N)))=some ([Value.slice p N m=.slice p N m,1=1,aC .neq .i64 (qX N f) 0=some (.bool false),Value.slice p N m=.slice p N m,0<aF f N],.rt,Fs (aF f N) (aP (el f) 0 (aF f N))):=by kernel_rfl
theorem Fr (T:Nat) (l:List At):rZ prog (Fs T l) f16.results.toList []=some ⟨l,T,25,4,true,[],[.im (iV 0)]⟩:=by
 have h:Nat.beq T T=true:=Nat.beq_refl T;show (bif Nat.beq T T then some (FS.mk l T 25 4 true [] [.im (iV 0)])else none)=_;rw[h];rfl
theorem Df {w0:World} {v:Value} {N:Nat} {f:Nat→Nat} (hv:LV w0 v N f) (hz:Ln v) :
  (qX N f≠0→Calls prog 16 #[v] w0 (Pr w0 0 (fun _=>0) (qX N f))) ∧
  (qX N f=0→Calls prog 16 #[v] w0 (Pr w0 (aF f N) f 0)):=by
 obtain⟨p,m,rfl,hm0,h256,_⟩:=id hv;have hp:p=none→m=0:=fun e=>hz N m (by rw[e])
 have hC:N≤131072→∀num,∀n d:Nat,TabOkW prog ((Oh (.slice p N m) N f num n).T d) w0.heap.size w0:=fun hN _ _ d=>TabOkW.add (TabOkW.add (eP.w _ _) func22 (by kernel_rfl) (by kernel_rfl) fun w hw=>IN (hv.on hw)) func25 (by kernel_rfl) (by kernel_rfl) fun w hw=>ZO (hv.on hw) hN hp
 have hD:∀num,∀n d:Nat,TabOkW prog ((Ft (.slice p N m) N f num n).T d) w0.heap.size w0:=fun _ _ d=>TabOkW.add (eP.w _ _) func22 (by kernel_rfl) (by kernel_rfl) fun w hw=>IN (hv.on hw)
 refine⟨fun he => ?_,fun he => ?_⟩
 ·exact (bC aG (hD (aE [(9,.bool true)])) ((bE _).w _ _) func16 (OA p N m f) ⟨rfl,rfl,pB he,trivial⟩ (args:=[.slice p N m]) ⟨rfl,trivial⟩).mono fun e w h=>Pr.nil _ h
 ·have hN:=(TJ he).1;have e9:aC .neq .i64 (qX N f) 0=some (.bool false):=by rw[he]; rfl
  by_cases h0:aF f N=0
  ·rw[h0];exact (bC aG (hC (by omega) _) ((bE _).w _ _) func16 (WN p N m f) ⟨rfl,rfl,e9,rfl,h0,trivial⟩ (args:=[.slice p N m]) ⟨rfl,trivial⟩).mono fun e w h=>Pr.nil _ h
  ·refine bP func16 (cs:=[.v (.im (.slice p N m))]) (args:=[.slice p N m]) (c:=GO) rfl ⟨rfl,trivial⟩ (Nat.le_of_ble_eq_true (by kernel_rfl)) fun a w1 hA => ?_
   exact aA aG (hD _) (rG fun w' hw=>(FsAt.none _ _).add func25 (by kernel_rfl) (by kernel_rfl) (ZP (hv.on hw) (by omega) hp)) (WO p N m f) ⟨rfl,rfl,e9,rfl,by omega,trivial⟩ hA fun a w hA=>aX (gE (Fr _ _) hA) fun e w h=>Pr.fs (fun j hj=>h256 j (Nat.lt_of_lt_of_le hj (cI f N))) h
def reC (v:Value) (N:Nat) (f:Nat→Nat) (num:Nat→Option Value) (_:Nat):Cfg:=⟨fun _=>gY.add 22 (RW v N f),fun _=>true,num⟩
def reD (v:Value) (N:Nat) (f:Nat→Nat) (num:Nat→Option Value) (_:Nat):Cfg:=⟨fun _=>(gY.add 22 (RW v N f)).add 37 (Ir v N f),fun _=>true,num⟩
theorem WQ (p:Option Addr) (N m x:Nat) (f:Nat→Nat):fH prog (qG prog) (reC (.slice p N m) N f (aE [(13,.bool true)])) f18 60 [.v (.im (.slice p N m)),.v (.fl [.q x])]=some ([Value.slice p N m=.slice p N m,1=1,1=1,x<bQ,1≤1,aC .neq .i64 (fB N f x) 0=some (.bool true)],.many [.fl MH,.im (.int .i64 (fB N f x))]):=by kernel_rfl
theorem WP (p:Option Addr) (N m x:Nat) (f:Nat→Nat):fH prog (qG prog) (reD (.slice p N m) N f (aE [(13,.bool false)])) f18 60 [.v (.im (.slice p N m)),.v (.fl [.q x])]=some ([Value.slice p N m=.slice p N m,1=1,1=1,x<bQ,1≤1,aC .neq .i64 (fB N f x) 0=some (.bool false),Value.slice p N m=.slice p N m,x<RM],.many [.fl [.q (mO x N f N)],.im (.int .i64 0)]):=by kernel_rfl
theorem zQ {w0:World} {v:Value} {N x:Nat} {f:Nat→Nat} (hv:LV w0 v N f) (hx:x<bQ) :
  (fB N f x≠0→bI prog 18 (.many [.fl MH,.im (.int .i64 (fB N f x))]) [v,.agg (aB [At.q x]).toArray] w0) ∧
  (fB N f x=0→bI prog 18 (.many [.fl [.q (mO x N f N)],.im (.int .i64 0)]) [v,.agg (aB [At.q x]).toArray] w0):=by
 obtain⟨p,m,rfl,_⟩:=id hv;have hC:∀num,∀n d:Nat,TabOkW prog ((reC (.slice p N m) N f num n).T d) w0.heap.size w0:=fun _ _ d=>TabOkW.add (eP.w _ _) func22 (by kernel_rfl) (by kernel_rfl) fun w hw=>xI (hv.on hw)
 refine⟨fun he => ?_,fun he => ?_⟩
 ·exact bC aG (hC _) ((bE _).w _ _) func18 (WQ p N m x f) ⟨rfl,rfl,rfl,hx,Nat.le_refl _,pB he,trivial⟩ (args:=[.slice p N m,.agg (aB [At.q x]).toArray]) ⟨rfl,rfl,trivial⟩
 ·obtain⟨q1,q2,q3⟩:=pJ he;exact bC aG (fun _ d=>TabOkW.add (TabOkW.add (eP.w _ _) func22 (by kernel_rfl) (by kernel_rfl) fun w hw=>xI (hv.on hw)) func37 (by kernel_rfl) (by kernel_rfl) fun w hw=>ZK (hv.on hw) (by omega) q2) ((bE _).w _ _) func18 (WP p N m x f) ⟨rfl,rfl,rfl,hx,Nat.le_refl _,by rw[he]; rfl,rfl,q3,trivial⟩ (args:=[.slice p N m,.agg (aB [At.q x]).toArray]) ⟨rfl,rfl,trivial⟩
def jC:Code:=(f14.body).getD .skip
def UT:Code:=cB (cB (cB jC))
def JV:Code:=cB UT
def Lv:Code:=cB (cB (cB JV))
def kG:Code:=fY (fY (cB (cA Lv)))
def Fy:Code:=fY (fY (cB (fY (cA (cB kG)))))
theorem XH:jC=.seq (cA jC) (.seq (cA (cB jC)) (.seq (cA (cB (cB jC))) (.seq (.region 4 (aK (cA UT)) false) JV))):=by kernel_rfl
theorem Yi:JV=.seq (cA JV) (.seq (cA (cB JV)) (.seq (cA (cB (cB JV))) (.seq (.seq (cA (cA Lv)) (.block 0 (.loop kG))) (cB Lv)))):=by kernel_rfl
theorem OT:kG=.seq (cA kG) (.seq (.block 1 (.seq (cA (fY (cA (cB kG)))) (.block 2 (.loop Fy)))) (cB (cB kG))):=by kernel_rfl
def rmC (v v2:Value) (N:Nat) (f:Nat→Nat) (M:Nat) (g:Nat→Nat) (num:Nat→Option Value) (_:Nat):Cfg:=⟨fun s=>gY.add 22 (RU v v2 N f M g),fun _=>true,num⟩
theorem Ol (v v2:Value):aH prog (qG prog) f14.ntmps (fE true fun _=>none) 40 (cA jC) (dX 0 [.v (.im v),.v (.im v2)]) (eM v v2)=some ([],.nrm,eM v v2):=by kernel_rfl
theorem Oj (p q:Option Addr) (N m M m2:Nat) (f g:Nat→Nat):aH prog (qG prog) f14.ntmps (rmC (.slice p N m) (.slice q M m2) N f M g fun _=>none) 60 (cA (cB jC)) (eM (.slice p N m) (.slice q M m2)) (.slot 6 (.im (.int .i64 (eW N f M g)))::eM (.slice p N m) (.slice q M m2))=some ([Value.slice p N m=.slice p N m,Value.slice q M m2=.slice q M m2,2=2],.nrm,.slot 6 (.im (.int .i64 (eW N f M g)))::eM (.slice p N m) (.slice q M m2)):=by kernel_rfl
theorem Fx (v v2:Value) (e:Int):aH prog (qG prog) f14.ntmps (fE true (aE [(15,.bool true)])) 60 (cA (cB (cB jC))) (.slot 6 (.im (.int .i64 e))::eM v v2) (mM e)=some ([aC .neq .i64 e 0=some (.bool true)],.rt,mM e):=by kernel_rfl
theorem XG (v v2:Value):aH prog (qG prog) f14.ntmps (fE true fun _=>none) 60 (cA (cB (cB jC))) (.slot 6 (.im (.int .i64 0))::eM v v2) (eM v v2)=some ([],.nrm,eM v v2):=by kernel_rfl
theorem Pa (v v2:Value):cP prog (qG prog) f14.ntmps bL ((aK (cA UT)).extract 0 1) (eM v v2) (.slot 17 (.im v)::eM v v2)=some ([],.slot 17 (.im v)::eM v v2):=by kernel_rfl
theorem Oz (u v2:Value):cP prog (qG prog) f14.ntmps bL ((aK (cA UT)).extract 2 3) [.slot 18 (.im u),.slot 1 (.im v2)] [.slot 19 (.im v2),.slot 18 (.im u)]=some ([],[.slot 19 (.im v2),.slot 18 (.im u)]):=by kernel_rfl
theorem Oy (u u2:Value):cP prog (qG prog) f14.ntmps bL ((aK (cA UT)).extract 4 6) [.slot 20 (.im u2),.slot 18 (.im u)] (eM u u2)=some ([],eM u u2):=by kernel_rfl
theorem Ox (p q:Option Addr) (A m B m2:Nat):aH prog (qG prog) f14.ntmps (fE true (aE [(23,.bool true)])) 60 (cA JV) (eM (.slice p A m) (.slice q B m2)) (mM 0)=some ([aC .eql .i64 (Int.ofNat A) 0=some (.bool true)],.rt,mM 0):=by kernel_rfl
theorem Ow (p q:Option Addr) (A m B m2:Nat):aH prog (qG prog) f14.ntmps (fE true (aE [(23,.bool false),(27,.bool true)])) 60 (cA JV) (eM (.slice p A m) (.slice q B m2)) (mM 0)=some ([aC .eql .i64 (Int.ofNat A) 0=some (.bool false),aC .eql .i64 (Int.ofNat B) 0=some (.bool true)],.rt,mM 0):=by kernel_rfl
theorem Ov (p q:Option Addr) (A m B m2:Nat):aH prog (qG prog) f14.ntmps (fE true (aE [(23,.bool false),(27,.bool false)])) 60 (cA JV) (eM (.slice p A m) (.slice q B m2)) (eM (.slice p A m) (.slice q B m2))=some ([aC .eql .i64 (Int.ofNat A) 0=some (.bool false),aC .eql .i64 (Int.ofNat B) 0=some (.bool false)],.nrm,eM (.slice p A m) (.slice q B m2)):=by kernel_rfl
theorem Ou (p q:Option Addr) (A m B m2 s d:Nat):aH prog (qG prog) f14.ntmps (fE true (aE [(33,iI s),(34,iI d),(35,.bool true)])) 60 (cA (cB JV)) (eM (.slice p A m) (.slice q B m2)) (mM 72)=some ([aC .add .i64 (Int.ofNat A) (Int.ofNat B)=some (iI s),aC .sub .i64 (Int.ofNat s) 2=some (iI d),aC .geq .i64 (Int.ofNat d) 65536=some (.bool true)],.rt,mM 72):=by kernel_rfl
theorem Ot (p q:Option Addr) (A m B m2 s d:Nat):aH prog (qG prog) f14.ntmps (fE true (aE [(33,iI s),(34,iI d),(35,.bool false)])) 60 (cA (cB JV)) (eM (.slice p A m) (.slice q B m2)) (eM (.slice p A m) (.slice q B m2))=some ([aC .add .i64 (Int.ofNat A) (Int.ofNat B)=some (iI s),aC .sub .i64 (Int.ofNat s) 2=some (iI d),aC .geq .i64 (Int.ofNat d) 65536=some (.bool false)],.nrm,eM (.slice p A m) (.slice q B m2)):=by kernel_rfl
def Ww (v v2:Value) (n:Nat) (Z:List At):List Fact:=.slot 7 (.sl 42 0 n n) :: .row 42 true Z::eM v v2
theorem Yj (p q:Option Addr) (A m B m2 s n:Nat) (Z:List At):aH prog { qG prog with x:=xM 42 n Z } f14.ntmps (fE true (aE [(40,iI s),(41,iI n)])) 60 (cA (cB (cB JV))) (eM (.slice p A m) (.slice q B m2)) (Ww (.slice p A m) (.slice q B m2) n Z)=some ([aC .add .i64 (Int.ofNat A) (Int.ofNat B)=some (iI s),aC .sub .i64 (Int.ofNat s) 1=some (iI n),∃e,∀w:World,(Instr.makeSlice 22 (iI n) (iI n)).run prog w=.ok (.slice (some ⟨w.heap.size,0,none⟩) n n) (w.alloc (.cells (aB Z).toArray e))],.nrm,Ww (.slice p A m) (.slice q B m2) n Z):=by kernel_rfl
def zL (v v2:Value) (n:Nat) (Z:List At) (i:Nat):List Fact:=.slot 8 (.im (iI i))::Ww v v2 n Z
def Fz (v v2:Value) (n:Nat) (Z:List At) (i k:Nat):List Fact:=.slot 9 (.im (iI k))::zL v v2 n Z i
theorem Pd (v v2:Value) (n:Nat) (Z:List At):aH prog (qG prog) f14.ntmps (fE true fun _=>none) 60 (cA (cA Lv)) (Ww v v2 n Z) (zL v v2 n Z 0)=some ([],.nrm,zL v v2 n Z 0):=by kernel_rfl
theorem Yh (p q:Option Addr) (A m B m2 n i:Nat) (Z:List At):aH prog (qG prog) f14.ntmps (fE true (aE [(46,.bool true)])) 60 (cA kG) (zL (.slice p A m) (.slice q B m2) n Z i) (zL (.slice p A m) (.slice q B m2) n Z i)=some ([aC .lss .i64 (Int.ofNat i) (Int.ofNat A)=some (.bool true)],.nrm,zL (.slice p A m) (.slice q B m2) n Z i):=by kernel_rfl
theorem Yg (p q:Option Addr) (A m B m2 n i:Nat) (Z:List At):aH prog (qG prog) f14.ntmps (fE true (aE [(46,.bool false)])) 60 (cA kG) (zL (.slice p A m) (.slice q B m2) n Z i) [.slot 7 (.sl 42 0 n n),.row 42 true Z]=some ([aC .lss .i64 (Int.ofNat i) (Int.ofNat A)=some (.bool false)],.ex 0,[.slot 7 (.sl 42 0 n n),.row 42 true Z]):=by kernel_rfl
theorem Pb (v v2:Value) (n i:Nat) (Z:List At):aH prog (qG prog) f14.ntmps (fE true fun _=>none) 60 (cA (fY (cA (cB kG)))) (zL v v2 n Z i) (Fz v v2 n Z i 0)=some ([],.nrm,Fz v v2 n Z i 0):=by kernel_rfl
theorem Om (w:World) (b o A m b' o' B m2 n i k x y z:Nat) (Z Z':List At):aH prog { qG prog with x:=xOS w (aE [(63,i+k),(67,i),(71,k),(75,i+k)]) (aE [(64,[.q y]),(68,[.q x]),(72,[.q z])]) (aE [(75,Z')]) } f14.ntmps (fE true (aE [(52,.bool true),(58,iI (i+k)),(62,iI (i+k)),(54,iI (k+1))])) 60 Fy (Fz (aS b o A m) (aS b' o' B m2) n Z i k) (Fz (aS b o A m) (aS b' o' B m2) n Z' i (k+1)) =
  some ([aC .lss .i64 (Int.ofNat k) (Int.ofNat B)=some (.bool true),aC .add .i64 (Int.ofNat i) (Int.ofNat k)=some (iI (i+k)),aC .add .i64 (Int.ofNat i) (Int.ofNat k)=some (iI (i+k)),Int.ofNat (i+k)=Int.ofNat (i+k),i+k<n,qP Z (0+(i+k)*4) 4=some [.q y],Int.ofNat i=Int.ofNat i,i<A,oldOf w b (o+i*4) [.q x],cL [.q x]=4,Int.ofNat k=Int.ofNat k,k<B,oldOf w b' (o'+k*4) [.q z],cL [.q z]=4,x<RM,z<RM,y<RM,dF x z<RM,Int.ofNat (i+k)=Int.ofNat (i+k),i+k<n,put Z (0+(i+k)*4) [.q (dH y (dF x z))]=some Z',aC .add .i64 (Int.ofNat k) 1=some (iI (k+1))],.nrm,Fz (aS b o A m) (aS b' o' B m2) n Z' i (k+1)):=by kernel_rfl
theorem Oo (p q:Option Addr) (A m B m2 n i k:Nat) (Z:List At):aH prog (qG prog) f14.ntmps (fE true (aE [(52,.bool false)])) 60 Fy (Fz (.slice p A m) (.slice q B m2) n Z i k) (zL (.slice p A m) (.slice q B m2) n Z i)=some ([aC .lss .i64 (Int.ofNat k) (Int.ofNat B)=some (.bool false)],.ex 2,zL (.slice p A m) (.slice q B m2) n Z i):=by kernel_rfl
theorem Pc (v v2:Value) (n i:Nat) (Z:List At):aH prog (qG prog) f14.ntmps (fE true (aE [(48,iI (i+1))])) 60 (cB (cB kG)) (zL v v2 n Z i) (zL v v2 n Z (i+1))=some ([aC .add .i64 (Int.ofNat i) 1=some (iI (i+1))],.nrm,zL v v2 n Z (i+1)):=by kernel_rfl
def Yk (T:Nat) (l:List At):List Fact:=[.slot 4 (.so 77 T),.row 77 true l,.app 77 25 4 T,.slot 5 (.im (iV 0))]
theorem Yf (K cap:Nat) (Z:List At) (h:Nat→Nat):aH prog { qG prog with x:=Ls (vR.add 25 (LC K h)) } f14.ntmps (fE true fun _=>none) 60 (cB Lv) [.slot 7 (.sl 42 0 K cap),.row 42 true Z] (Yk (aF h K) (aP (el h) 0 (aF h K)))=some ([aB Z=aB (aP (el h) 0 K),K=K,K≤cap,∀j,j<K→h j<bQ,K≤131072,0<aF h K],.rt,Yk (aF h K) (aP (el h) 0 (aF h K))):=by kernel_rfl
theorem Fv (T:Nat) (l:List At):rZ prog (Yk T l) f14.results.toList []=some ⟨l,T,25,4,true,[],[.im (iV 0)]⟩:=by
 have h:Nat.beq T T=true:=Nat.beq_refl T;show (bif Nat.beq T T then some (FS.mk l T 25 4 true [] [.im (iV 0)])else none)=_;rw[h];rfl
theorem IK {a b:Nat} {t:Bool} (h:decide (b≤a)=t):aC .geq .i64 (Int.ofNat a) (Int.ofNat b)=some (.bool t):=by
 show some (Value.bool (decide (Int.ofNat a≥Int.ofNat b)))=_;rw[←h]
 by_cases c:b≤a
 ·rw[decide_eq_true c,decide_eq_true (show Int.ofNat a≥Int.ofNat b from Int.ofNat_le.2 c)]
 ·rw[decide_eq_false c,decide_eq_false (show ¬Int.ofNat a≥Int.ofNat b from fun q=>c (Int.ofNat_le.1 q))]
theorem OS {W:World} {b o A m b' o' B m2 n i:Nat} {f g H:Nat→Nat} {Q:Exit→Act→World→Prop} (hb:b<W.heap.size) (hr:W.rangeAt b o (aB (aP (el f) 0 A))) (hb2:b'<W.heap.size) (hr2:W.rangeAt b' o' (aB (aP (el g) 0 B))) (hn:n=A+(B-1)) (hA:A≤65536) (hB:B≤65536) (hf:bD A f) (hg:bD B g) (hH:bD n H) (hi:i<A) {a:Act} {w:World}
  (hL:Holds f14.ntmps W.heap.size W (zL (aS b o A m) (aS b' o' B m2) n (aP (el H) 0 n) i) a w) {R:Act→World→Prop}
  (hR:∀a w,Holds f14.ntmps W.heap.size W (zL (aS b o A m) (aS b' o' B m2) n (aP (el (GP f g H i B)) 0 n) (i+1)) a w→R a w):kG.wp prog (Exit.then R Q) a w:=by
 have hG:bO prog (qG prog) W.heap.size W:=(bE _).w _ _;have hT:∀n d:Nat,TabOkW prog gY W.heap.size W:=fun _ _=>eP.w _ _
 rw[OT];refine wp_seq (aA aG hT hG (Yh (some ⟨b,o,none⟩) (some ⟨b',o',none⟩) A m B m2 n i _) ⟨bK hi,trivial⟩ hL fun a w hL => ?_);refine wp_seq (wp_block (wp_seq (aA aG hT hG (Pb _ _ n i _) trivial hL fun a w hL => ?_)));refine wp_block ?_;refine cH aG (fun k=>Fz (aS b o A m) (aS b' o' B m2) n (aP (el (GP f g H i k)) 0 n) i k) B (fun k hk => ?_) (.ex 2) (by simp) (zL (aS b o A m) (aS b' o' B m2) n (aP (el (GP f g H i B)) 0 n) i) ⟨_,_,_,_,hG,hT,Oo (some ⟨b,o,none⟩) (some ⟨b',o',none⟩) A m B m2 n i B _,bU (Nat.le_refl _),trivial⟩ hL fun a w hL => ?_
 ·have hik:i+k<n:=by omega
  have oa:aC .add .i64 (Int.ofNat i) (Int.ofNat k)=some (iI (i+k)):=cX (by omega);exact⟨_,_,_,_,Es W _ _ _,hT,Om W b o A m b' o' B m2 n i k (f i) (GP f g H i k (i+k)) (g k) (aP (el (GP f g H i k)) 0 n) (aP (el (GP f g H i (k+1))) 0 n),
   bK hk,oa,oa,rfl,hik,DA hik,rfl,hi,cJ hb hr hi,rfl,rfl,hk,cJ hb2 hr2 hk,rfl,hf i hi,hg k hk,DN hH k _ hik,eB _ _,rfl,hik,DT hik,cX (k:=1) (by omega),trivial⟩
 ·show (cB (cB kG)).wp _ _ _ _;exact aA aG hT hG (Pc _ _ n i _) ⟨cX (k:=1) (by omega),trivial⟩ hL fun a w hL=>hR a w hL
theorem On {w0:World} {v v2:Value} {N:Nat} {f:Nat→Nat} {M:Nat} {g:Nat→Nat} (hv:LV w0 v N f) (hv2:LV w0 v2 M g) (hz:Ln v) (hz2:Ln v2):Calls prog 14 #[v,v2] w0 (Pr w0 (Lz N f M g) (kQ (aF f N) f (aF g M) g) (sM N f M g)):=by
 have hG:∀(base:Nat) (w:World),bO prog (qG prog) base w:=fun _ _=>(bE _).w _ _
 have hT:∀(base:Nat) (w:World) (n d:Nat),TabOkW prog gY base w:=fun _ _ _ _=>eP.w _ _
 have hTp:∀(base:Nat) (w:World) (d:Nat),TabOkW prog dB base w:=fun _ _ _=>aY.w _ _
 obtain⟨p0,m0,rfl,hm,hx⟩:=id hv;obtain⟨q0,m1,rfl,hm2,hx2⟩:=id hv2;clear hx hx2;have hC:∀num,∀n d:Nat,TabOkW prog ((rmC (.slice p0 N m0) (.slice q0 M m1) N f M g num n).T d) w0.heap.size w0:=fun _ _ _=>TabOkW.add (eP.w _ _) func22 (by kernel_rfl) (by kernel_rfl) fun w hw=>xH (hv.on hw) (hv2.on hw)
 refine bP func14 (cs:=[.v (.im (.slice p0 N m0)),.v (.im (.slice q0 M m1))]) (args:=[.slice p0 N m0,.slice q0 M m1]) (c:=jC) rfl ⟨rfl,rfl,trivial⟩ (Nat.le_of_ble_eq_true (by kernel_rfl)) fun a w1 hL => ?_
 rw[XH];refine wp_seq (aA aG (hT _ _) (hG _ _) (Ol _ _) trivial hL fun a w1 hL => ?_);refine wp_seq (aA aG (hC _) (hG _ _) (Oj p0 q0 N m0 M m1 f g) ⟨rfl,rfl,rfl,trivial⟩ hL fun a w1 hL => ?_);unfold Lz sM
 by_cases he:eW N f M g=0
 ·rw[if_neg (show ¬eW N f M g≠0 from fun q=>q he),if_neg (show ¬eW N f M g≠0 from fun q=>q he)];rw[he]at hL;obtain⟨q1,q2,q3,q4⟩:=tR he;have a1:=cI f N;have a2:=cI g M;have a3:=eR f N;have a4:=eR g M;refine wp_seq (aA aG (hT _ _) (hG _ _) (XG _ _) trivial hL fun a w1 hL => ?_);have hp:p0=none→m0=0:=fun e=>hz N m0 (by rw[e])
  have hq:q0=none→m1=0:=fun e=>hz2 M m1 (by rw[e])
  refine wp_seq (bV (l:=List.range' 0 ((aK (cA UT)).extract 0 1).size++(1::(List.range' 2 ((aK (cA UT)).extract 2 3).size++(3::(List.range' 4 ((aK (cA UT)).extract 4 6).size++[]))))) (by kernel_rfl) ?_);refine aI (c:=bL) (hTp _ _) (hG _ _) (Pa _ _) trivial (by kernel_rfl) hL fun a w1 hL => ?_
  obtain⟨o,ho,⟨ts,hoo⟩,hod,hog⟩:∃o,(aK (cA UT))[1]?=some o∧(∃ts,o.op=.call ⟨.value (.func 25),#[.tmp 17],ts⟩)∧o.dst=some 18∧o.guard=none:=⟨_,rfl,⟨_,rfl⟩,rfl,rfl⟩
  refine eK hL ho hoo hod hog (Nat.le_of_ble_eq_true (by kernel_rfl)) (vs:=[.slice p0 N m0]) rfl (ks:=[1]) (keep:=[(1,.im (.slice q0 M m1))]) rfl rfl (bF func25 (by kernel_rfl) (by kernel_rfl)) (Cy (hv.on hL.below) (by omega) hp) fun e W1 hW => ?_
  obtain⟨p,m,rfl,hb,l1⟩:=hW;refine⟨_,rfl,fun a hF => ?_⟩;have hF:Holds f14.ntmps W1.heap.size W1 [.slot 18 (.im (.slice p (aF f N) m)),.slot 1 (.im (.slice q0 M m1))] a W1:=hF;have C1:Below w0.heap.size w0 W1:=hL.below.trans (hb.mono hL.below.size);have k2:=hv2.on C1;clear hL hb;refine aI (c:=bL) (hTp _ _) (hG _ _) (Oz _ _) trivial (by kernel_rfl) hF fun a w1 hL => ?_
  clear hF;obtain⟨o,ho,⟨ts,hoo⟩,hod,hog⟩:∃o,(aK (cA UT))[3]?=some o∧(∃ts,o.op=.call ⟨.value (.func 25),#[.tmp 19],ts⟩)∧o.dst=some 20∧o.guard=none:=⟨_,rfl,⟨_,rfl⟩,rfl,rfl⟩
  refine eK hL ho hoo hod hog (Nat.le_of_ble_eq_true (by kernel_rfl)) (vs:=[.slice q0 M m1]) rfl (ks:=[18]) (keep:=[(18,.im (.slice p (aF f N) m))]) rfl rfl (bF func25 (by kernel_rfl) (by kernel_rfl)) (Cy (k2.on hL.below) (by omega) hq) fun e W hW => ?_
  obtain⟨q,m2,rfl,hb,l2⟩:=hW;refine⟨_,rfl,fun a hF => ?_⟩;have hF:Holds f14.ntmps W.heap.size W [.slot 20 (.im (.slice q (aF g M) m2)),.slot 18 (.im (.slice p (aF f N) m))] a W:=hF;have C2:Below W1.heap.size W1 W:=hL.below.trans (hb.mono hL.below.size);have BW:Below w0.heap.size w0 W:=C1.trans (C2.mono C1.size);have l1:=l1.on C2;clear hL hb;refine aI (c:=bL) (hTp _ _) (hG _ _) (Oy _ _) trivial (by kernel_rfl) hF fun a w1 hL => ?_
  clear hF;show JV.wp _ _ _ _;have hfA:bD (aF f N) f:=fun j hj=>q3 j (by omega)
  have hgB:bD (aF g M) g:=fun j hj=>q4 j (by omega)
  generalize aF f N=A at *;generalize aF g M=B at *;rw[Yi];have out:∀{a:Act} {w:World} (c:Int),Holds f14.ntmps W.heap.size W (mM c) a w→bodyPost prog f14 (Pr w0 0 (kQ A f B g) c) .ret a w:=fun c hL=>aX (bH (l:=[.im (.slice none 0 0),.im (.int .i64 c)]) (r:=.many [.im (.slice none 0 0),.im (.int .i64 c)]) (by kernel_rfl) (by kernel_rfl) hL) fun e w h=>(Pr.nil _ h).up BW
  by_cases h0:A=0∨B=0
  ·rw[if_pos h0,if_pos h0]
   by_cases hA0:A=0
   ·exact wp_seq (aA aG (hT _ _) (hG _ _) (Ox p q A m B m2) ⟨gJ (b:=0) (decide_eq_true hA0),trivial⟩ hL fun a w hL=>out 0 hL)
   ·exact wp_seq (aA aG (hT _ _) (hG _ _) (Ow p q A m B m2) ⟨gJ (b:=0) (decide_eq_false hA0),gJ (b:=0) (decide_eq_true (by omega)),trivial⟩ hL fun a w hL=>out 0 hL)
  ·rw[if_neg h0,if_neg h0];refine wp_seq (aA aG (hT _ _) (hG _ _) (Ov p q A m B m2) ⟨gJ (b:=0) (decide_eq_false (by omega)),gJ (b:=0) (decide_eq_false (by omega)),trivial⟩ hL fun a w1 hL => ?_);have e1:aC .add .i64 (Int.ofNat A) (Int.ofNat B)=some (iI (A+B)):=cX (by omega);have e2:aC .sub .i64 (Int.ofNat (A+B)) 2=some (iI (A+B-2)):=pS (k:=2) (by omega) (by omega)
   by_cases hb:A+(B-1)>65536
   ·rw[if_pos hb,if_pos hb];exact wp_seq (aA aG (hT _ _) (hG _ _) (Ou p q A m B m2 (A+B) (A+B-2)) ⟨e1,e2,IK (b:=65536) (decide_eq_true (by omega)),trivial⟩ hL fun a w hL=>out 72 hL)
   ·rw[if_neg hb,if_neg hb];refine wp_seq (aA aG (hT _ _) (hG _ _) (Ot p q A m B m2 (A+B) (A+B-2)) ⟨e1,e2,IK (b:=65536) (decide_eq_false (by omega)),trivial⟩ hL fun a w1 hL => ?_);obtain⟨n,hn⟩:∃n,A+(B-1)=n:=⟨_,rfl⟩
    have e3:aC .sub .i64 (Int.ofNat (A+B)) 1=some (iI n):=by
     have h:=@pS (A+B) 1 (by omega) (by omega);rw[show A+B-1=n by omega]at h;exact h
    refine wp_seq (aA aG (hT _ _) (MQ 42 n (aP (el (UU f g B 0)) 0 n) _ _) (Yj p q A m B m2 (A+B) n (aP (el (UU f g B 0)) 0 n)) ⟨e1,e3,QQ (t:=22) (e:=25) (z:=[.q 0]) (v:=.int .u64 0) (n:=4) (by8:=32) (by kernel_rfl) (by kernel_rfl) rfl tM (by omega) (by omega) (by omega),trivial⟩ hL fun a w1 hL => ?_);refine wp_seq (wp_seq (aA aG (hT _ _) (hG _ _) (Pd _ _ n _) trivial hL fun a w1 hL => ?_));refine wp_block ?_;have hA1:0<A:=by omega
    have hB1:0<B:=by omega
    have hA2:A≤65536:=by omega
    have hB2:B≤65536:=by omega
    have hn1:0<n:=by omega
    have hn2:n≤131072:=by omega
    have hn3:∀j,j<n→0+j<A+(B-1):=fun j hj=>by omega
    obtain⟨p',m',hve,_,_,hmem⟩:=id l1;obtain⟨q',m2',hve2,_,_,hmem2⟩:=id l2;obtain⟨b,o,hp',hbb,hbr⟩:=hmem hA1;obtain⟨b',o',hq',hbb2,hbr2⟩:=hmem2 hB1;clear hmem hmem2;obtain⟨rfl,_,rfl⟩:=Value.slice.inj hve;obtain⟨rfl,_,rfl⟩:=Value.slice.inj hve2;subst hp'; subst hq';have hnc:∀j,j<n→UU f g B A (0+j)=kQ A f B g (0+j):=fun j hj=>Oq (hn3 j hj) hA1 hB1
    have hlast:kQ A f B g (n-1)≠0:=by
     rw[←hn];exact IY hA1 hB1 hfA hgB (a3 hA1) (a4 hB1)
    have htl:aF (kQ A f B g) n=n:=oK (Nat.le_refl _) (fun j h1 h2=>absurd h2 (Nat.not_lt.2 h1)) fun _=>hlast
    rw[hn];refine jO (fun i a w=>Holds f14.ntmps W.heap.size W (zL (aS b o A m) (aS b' o' B m2) n (aP (el (UU f g B i)) 0 n) i) a w) A (fun i hi a w hL R hR => ?_) (fun a w hL R => ?_) (by exact hL)
    ·exact OS hbb hbr hbb2 hbr2 hn.symm hA2 hB2 hfA hgB (DM f g B n i) hi hL fun a w hL=>hR a w hL
    ·rw[OT];refine wp_seq (aA aG (hT _ _) (hG _ _) (Yg (some ⟨b,o,none⟩) (some ⟨b',o',none⟩) A m B m2 n A _) ⟨bU (Nat.le_refl _),trivial⟩ hL fun a w hL => ?_);show (cB Lv).wp _ _ _ _;have hz:=Yf n n (aP (el (UU f g B A)) 0 n) (kQ A f B g);rw[htl]at hz;exact aA aG (hT _ _) (rG fun w' hw=>(FsAt.none _ _).add func25 (by kernel_rfl) (by kernel_rfl) fun cs pre r h1 h2 args ha=>qR cs pre r h1 h2 args w' ha) hz ⟨by rw[rD n 0 hnc],rfl,Nat.le_refl _,fun j _=>dW (tO _ _ _ _ _),hn2,hn1,trivial⟩ hL fun a w hL=>aX (gE (Fv _ _) hL) fun e w h=>(Pr.fs (fun j _=>dW (tO _ _ _ _ _)) h).up BW
 ·rw[if_pos he,if_pos he];exact wp_seq (aA aG (hT _ _) (hG _ _) (Fx _ _ _) ⟨pB he,trivial⟩ hL fun a w hL=>aX (bH (l:=[.im (.slice none 0 0),.im (.int .i64 (eW N f M g))]) (r:=.many [.im (.slice none 0 0),.im (.int .i64 (eW N f M g))]) (by kernel_rfl) (by kernel_rfl) hL) fun e w h=>Pr.nil _ h)
end Go.Proofs.YtjjnbgoepbiojaaGreat.Ex
