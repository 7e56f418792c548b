/- Pr11 -/
import Derived.Laws.MakeOwn
import Derived.Test.YtjjnbgoepbiojaaGreatPr10
import Derived.Test.YtjjnbgoepbiojaaGreatPr05
import Derived.Test.YtjjnbgoepbiojaaGreatPr04
import Derived.Test.YtjjnbgoepbiojaaGreatPr08
import Derived.Test.YtjjnbgoepbiojaaGreatProg
set_option maxRecDepth 100000
set_option linter.unusedVariables false
set_option linter.unusedSimpArgs false
set_option linter.unnecessarySimpa false
noncomputable section
namespace Go.Proofs.YtjjnbgoepbiojaaGreat.Ex
open Go.Proofs.Tryz
open Go.RowKit
def eW (N:Nat) (f:Nat→Nat) (M:Nat) (g:Nat→Nat):Int:=if N≤65536∧M≤65536 then (if bD N f∧bD M g then 0 else 21)else 72
theorem TI (N:Nat) (f:Nat→Nat) (M:Nat) (g:Nat→Nat):Bx 2 (qL N M) (qL f g)=eW N f M g:=by
 have e1:jB 2 (qL N M)↔(N≤65536∧M≤65536):=⟨fun h=>⟨h 0 (by omega),h 1 (by omega)⟩,fun h j hj=>by
  unfold qL;split
  ·exact h.1
  ·exact h.2⟩
 have e2:jH 2 (qL N M) (qL f g)↔(bD N f∧bD M g):=⟨fun h=>⟨h 0 (by omega),h 1 (by omega)⟩,fun h j hj=>by
  unfold qL;split
  ·exact h.1
  ·exact h.2⟩
 unfold Bx eW;simp only[e1,e2]
theorem Il (N:Nat) (f:Nat→Nat) (M:Nat) (g:Nat→Nat) (h:Nat→Nat):Dy 2 (qL N M) (qL f g) 0 h=eW N f M g:=by
 have e3:bD 0 h↔True:=⟨fun _=>trivial,fun _ j hj=>by omega⟩;rw[←TI];unfold Dy Bx;simp only[e3,and_true]
theorem tR {N M:Nat} {f g:Nat→Nat} (h:eW N f M g=0):N≤65536∧M≤65536∧bD N f∧bD M g:=by
 unfold eW at h
 by_cases h1:N≤65536∧M≤65536
 ·rw[if_pos h1]at h
  by_cases h2:bD N f∧bD M g
  ·exact⟨h1.1,h1.2,h2.1,h2.2⟩
  ·rw[if_neg h2]at h; cases h
 ·rw[if_neg h1]at h; cases h
theorem RI {w:World} {a b:Value} {bl o m:Nat} (h1:bl<w.heap.size) (h2:w.rangeAt bl o (aB [At.c a,At.c b])):HV w (aS bl o 2 m) 2 (qL a b):=⟨bl,o,m,rfl,h1,h2⟩
def Kc (v v2:Value) (N:Nat) (f:Nat→Nat) (M:Nat) (g:Nat→Nat):iP
 | [.s [.c u,.c t] n m]=>some ([u=v,t=v2,n=2],.one (.im (.int .i64 (eW N f M g))))
 | _=>none
theorem IP {w:World} {v v2:Value} {N:Nat} {f:Nat→Nat} {M:Nat} {g:Nat→Nat} (hv:LV w v N f) (hv2:LV w v2 M g) (hN:N≤4611686018427387904) (hM:M≤4611686018427387904):∀cs pre r,Kc v v2 N f M g cs=some (pre,r)→aR pre→∀(args:List Value),cO w cs args→bI prog 28 r args w:=by
 intro cs pre r hg hp args ha;unfold Kc at hg;split at hg
 ·rename_i u t n m;cases hg
  match args,ha with
  | [a1],ha =>
   obtain⟨rfl,rfl,rfl,_⟩:=hp;obtain⟨b,o,rfl,hb,hr⟩:=ha.1;rw[←TI];exact tQ (vs:=qL u t) (RI (m:=m) hb hr) (fun j hj=>by
    unfold qL;split
    ·exact hv
    ·exact hv2) (by omega) (fun j hj=>by unfold qL; split<;>assumption)
  | [],ha=>exact ha.elim
  | _::_::_,ha=>exact ha.2.elim
 ·cases hg
def RU (v v2:Value) (N:Nat) (f:Nat→Nat) (M:Nat) (g:Nat→Nat):iP
 | [.s [.c u,.c t] n m,.v (.im (.slice none 0 0))]=>some ([u=v,t=v2,n=2],.one (.im (.int .i64 (eW N f M g))))
 | _=>none
theorem xH {w:World} {v v2:Value} {N:Nat} {f:Nat→Nat} {M:Nat} {g:Nat→Nat} (hv:LV w v N f) (hv2:LV w v2 M g):∀cs pre r,RU v v2 N f M g cs=some (pre,r)→aR pre→∀(args:List Value),cO w cs args→bI prog 22 r args w:=by
 intro cs pre r hg hp args ha;unfold RU at hg;split at hg
 ·rename_i u t n m;cases hg
  match args,ha with
  | [a1,a2],ha =>
   obtain⟨rfl,rfl,rfl,_⟩:=hp;obtain⟨b,o,rfl,hb,hr⟩:=ha.1;have h2:a2=.slice none 0 0:=ha.2.1;subst h2;rw[←Il N f M g fun _=>0];exact tE (vs:=qL u t) (RI (m:=m) hb hr) (fun j hj=>by
    unfold qL;split
    ·exact hv
    ·exact hv2) (by omega) (LV.nil0 w _) (by omega)
  | [],ha=>exact ha.elim
  | [_],ha=>exact ha.2.elim
  | _::_::_::_,ha=>exact ha.2.2.elim
 ·cases hg
def cbC (v v2:Value) (N:Nat) (f:Nat→Nat) (M:Nat) (g:Nat→Nat) (_:Nat):Cfg:=⟨fun s=>dB.add 42 (bif Nat.beq s 9 then SC v N f else SC v2 M g),fun _=>true,fun _=>none⟩
def cbP (w:World) (fv v v2:Value) (b3 b4 b5 x y:Nat):List Prop:=[oldOf w b5 0 [.c fv],oldOf w b3 0 [.c v],v=v,oldOf w b4 0 [.c v2],v2=v2,x<RM,y<RM]
theorem WY (w:World) (v v2:Value) (N:Nat) (f:Nat→Nat) (M:Nat) (g:Nat→Nat) (i b3 b4 b5:Nat):fH prog { qG prog with x:=xO w (fun _=>none) (fun _=>none) (aE [(6,fG 21 []),(7,v),(10,v2)]) } (cbC v v2 N f M g) f41 60 [.v (.im (iI i)),.v (.im (aT b5 0)),.v (.im (aT b3 0)),.v (.im (aT b4 0))]=some (cbP w (fG 21 []) v v2 b3 b4 b5 (aU f N i) (aU g M i),.one (.fl [.q (dH (aU f N i) (aU g M i))])):=by kernel_rfl
theorem WX (w:World) (v v2:Value) (N:Nat) (f:Nat→Nat) (M:Nat) (g:Nat→Nat) (i b3 b4 b5:Nat):fH prog { qG prog with x:=xO w (fun _=>none) (fun _=>none) (aE [(6,fG 26 []),(7,v),(10,v2)]) } (cbC v v2 N f M g) f41 60 [.v (.im (iI i)),.v (.im (aT b5 0)),.v (.im (aT b3 0)),.v (.im (aT b4 0))]=some (cbP w (fG 26 []) v v2 b3 b4 b5 (aU f N i) (aU g M i),.one (.fl [.q (fD (aU f N i) (aU g M i))])):=by kernel_rfl
theorem nV {N i:Nat} {f:Nat→Nat} (h:bD N f):aU f N i<RM:=by
 unfold aU;split
 ·exact h _ (by assumption)
 ·exact fK
theorem TL {w:World} {v v2:Value} {N:Nat} {f:Nat→Nat} {M:Nat} {g:Nat→Nat} (hv:LV w v N f) (hv2:LV w v2 M g):∀n d:Nat,TabOkW prog ((cbC v v2 N f M g n).T d) w.heap.size w:=fun _ d =>
 TabOkW.add (aY.w _ _) func42 (by kernel_rfl) (by kernel_rfl) fun w' hw=>by
  cases Nat.beq d 9
  ·exact xJ (hv2.on hw)
  ·exact xJ (hv.on hw)
theorem vO {w:World} {v v2:Value} {N:Nat} {f:Nat→Nat} {M:Nat} {g:Nat→Nat} {i b3 b4 b5:Nat} (hv:LV w v N f) (hv2:LV w v2 M g) (hf:bD N f) (hg:bD M g) (o5:oldOf w b5 0 [.c (fG 21 [])]) (o3:oldOf w b3 0 [.c v]) (o4:oldOf w b4 0 [.c v2]):bI prog 41 (.one (.fl [.q (dH (aU f N i) (aU g M i))])) [iI i,aT b5 0,aT b3 0,aT b4 0] w :=
 bC aG (TL hv hv2) (cE w _ _ _) func41 (WY w v v2 N f M g i b3 b4 b5) ⟨o5,o3,rfl,o4,rfl,nV hf,nV hg,trivial⟩ (args:=[iI i,aT b5 0,aT b3 0,aT b4 0]) ⟨rfl,rfl,rfl,rfl,trivial⟩
theorem vM {w:World} {v v2:Value} {N:Nat} {f:Nat→Nat} {M:Nat} {g:Nat→Nat} {i b3 b4 b5:Nat} (hv:LV w v N f) (hv2:LV w v2 M g) (hf:bD N f) (hg:bD M g) (o5:oldOf w b5 0 [.c (fG 26 [])]) (o3:oldOf w b3 0 [.c v]) (o4:oldOf w b4 0 [.c v2]):bI prog 41 (.one (.fl [.q (fD (aU f N i) (aU g M i))])) [iI i,aT b5 0,aT b3 0,aT b4 0] w :=
 bC aG (TL hv hv2) (cE w _ _ _) func41 (WX w v v2 N f M g i b3 b4 b5) ⟨o5,o3,rfl,o4,rfl,nV hf,nV hg,trivial⟩ (args:=[iI i,aT b5 0,aT b3 0,aT b4 0]) ⟨rfl,rfl,rfl,rfl,trivial⟩
def iL:Code:=(f20.body).getD .skip
theorem Bs:iL=.seq (cA iL) (.seq (cA (cB iL)) (cB (cB iL))):=by kernel_rfl
def CF (v v2 fv:Value):List Fact:=[.slot 3 (.pt 3 0),.row 3 true [.c v],.slot 4 (.pt 4 0),.row 4 true [.c v2],.slot 5 (.pt 5 0),.row 5 true [.c fv]]
def Mg (v v2:Value) (N:Nat) (f:Nat→Nat) (M:Nat) (g:Nat→Nat) (num:Nat→Option Value) (_:Nat):Cfg:=⟨fun _=>dB.add 28 (Kc v v2 N f M g),fun _=>true,num⟩
theorem Up (p q:Option Addr) (N m M m2 id:Nat):aH prog (qG prog) f20.ntmps (cF fun _=>none) 40 (cA iL) (dX 0 [.v (.im (.slice p N m)),.v (.im (.slice q M m2)),.v (.im (fG id []))]) (CF (.slice p N m) (.slice q M m2) (fG id []))=some ([],.nrm,CF (.slice p N m) (.slice q M m2) (fG id [])):=by kernel_rfl
theorem Kt (p q:Option Addr) (N m M m2:Nat) (fv:Value) (f g:Nat→Nat):aH prog (qG prog) f20.ntmps (Mg (.slice p N m) (.slice q M m2) N f M g (aE [(14,.bool true)])) 60 (cA (cB iL)) (CF (.slice p N m) (.slice q M m2) fv) (coZ (eW N f M g))=some ([Value.slice p N m=.slice p N m,Value.slice q M m2=.slice q M m2,2=2,aC .neq .i64 (eW N f M g) 0=some (.bool true)],.rt,coZ (eW N f M g)):=by kernel_rfl
theorem Br (p q:Option Addr) (N m M m2:Nat) (fv:Value) (f g:Nat→Nat):aH prog (qG prog) f20.ntmps (Mg (.slice p N m) (.slice q M m2) N f M g (aE [(14,.bool false)])) 60 (cA (cB iL)) (CF (.slice p N m) (.slice q M m2) fv) (CF (.slice p N m) (.slice q M m2) fv)=some ([Value.slice p N m=.slice p N m,Value.slice q M m2=.slice q M m2,2=2,aC .neq .i64 (eW N f M g) 0=some (.bool false)],.nrm,CF (.slice p N m) (.slice q M m2) fv):=by kernel_rfl
def aAq (caps:List Value) (K:Nat) (h:Nat→Nat):Tab2:=(lY.add 30 (uL 41 caps K h)).add 29 (RR K h)
def cmY (n:Nat) (l:List At):List Fact:=[.slot 6 (.sl 23 0 n n),.row 23 true l,.slot 7 (.im (.int .i64 0))]
theorem Zz (w:World) (p q:Option Addr) (N m M m2 b3 b4 b5 K:Nat) (h:Nat→Nat):aH prog { qG prog with x:=xB w (aE [(16,.slice p N m),(18,.slice q M m2)]) (aAq [aT b5 0,aT b3 0,aT b4 0] K h) } f20.ntmps (cF (aE [(20,iI K)])) 60 (cB (cB iL)) (kX [(3,.im (aT b3 0)),(4,.im (aT b4 0)),(5,.im (aT b5 0))]) (cmY (aF h K) (aP (el h) 0 (aF h K))) =
  some ([oldOf w b3 0 [.c (.slice p N m)],oldOf w b4 0 [.c (.slice q M m2)],Value.int .i64 (if Int.ofNat M>Int.ofNat N then Int.ofNat M else Int.ofNat N)=iI K,iI K=iI K,fG 41 [aT b5 0,aT b3 0,aT b4 0]=fG 41 [aT b5 0,aT b3 0,aT b4 0],aB (aP (el h) 0 K)=aB (aP (el h) 0 K),K=K,K≤K,bD K h,K≤131072],.rt,cmY (aF h K) (aP (el h) 0 (aF h K))):=by kernel_rfl
theorem YX (N M:Nat):Value.int .i64 (if Int.ofNat M>Int.ofNat N then Int.ofNat M else Int.ofNat N)=iI (max N M):=by
 have e:(if Int.ofNat M>Int.ofNat N then Int.ofNat M else Int.ofNat N)=Int.ofNat (max N M):=by
  by_cases h:M>N
  ·rw[if_pos (show Int.ofNat M>Int.ofNat N from Int.ofNat_lt.2 h),Nat.max_eq_right (by omega)]
  ·rw[if_neg (show ¬Int.ofNat M>Int.ofNat N from fun q=>h (Int.ofNat_lt.1 q)),Nat.max_eq_left (by omega)]
 rw[e]; rfl
theorem FR.up {r:FR} {w0 W:World} {e:Ending} {w':World} (B:Below w0.heap.size w0 W) (h:r.ok W e w'):r.ok w0 e w':=h.older B
theorem oD {w0:World} {v v2:Value} {N M id:Nat} {f g:Nat→Nat} {op:Nat→Nat→Nat} (hv:LV w0 v N f) (hv2:LV w0 v2 M g) (hN:N≤4611686018427387904) (hM:M≤4611686018427387904) (hop:∀x y,op x y<RM)
  (hc:∀(w:World) (i b3 b4 b5:Nat),LV w v N f→LV w v2 M g→bD N f→bD M g→oldOf w b5 0 [.c (fG id [])]→oldOf w b3 0 [.c v]→oldOf w b4 0 [.c v2]→bI prog 41 (.one (.fl [.q (op (aU f N i) (aU g M i))])) [iI i,aT b5 0,aT b3 0,aT b4 0] w) :
  (eW N f M g≠0→bI prog 20 (.many [.im (.slice none 0 0),.im (.int .i64 (eW N f M g))]) [v,v2,fG id []] w0) ∧
  (eW N f M g=0→Calls prog 20 #[v,v2,fG id []] w0 (fun e w'=>FR.ok ⟨aP (el fun i=>op (aU f N i) (aU g M i)) 0 (aF (fun i=>op (aU f N i) (aU g M i)) (max N M)),aF (fun i=>op (aU f N i) (aU g M i)) (max N M),aF (fun i=>op (aU f N i) (aU g M i)) (max N M),[.im (.int .i64 0)]⟩ w0 e w')):=by
 have hG:bO prog (qG prog) w0.heap.size w0:=(bE _).w _ _;obtain⟨p,m,rfl,_⟩:=_root_.id hv;obtain⟨q,m2,rfl,_⟩:=_root_.id hv2;have hC:∀num,∀n d:Nat,TabOkW prog ((Mg (.slice p N m) (.slice q M m2) N f M g num n).T d) w0.heap.size w0:=fun _ _ _=>TabOkW.add (aY.w _ _) func28 (by kernel_rfl) (by kernel_rfl) fun w hw=>IP (hv.on hw) (hv2.on hw) hN hM
 have first:∀R:Ending→World→Prop,(∀a w,Holds f20.ntmps w0.heap.size w0 (CF (.slice p N m) (.slice q M m2) (fG id [])) a w→(Code.seq (cA (cB iL)) (cB (cB iL))).wp prog (bodyPost prog f20 R) a w)→Calls prog 20 #[.slice p N m,.slice q M m2,fG id []] w0 R:=fun R hR=>by
  refine bP func20 (cs:=[.v (.im (.slice p N m)),.v (.im (.slice q M m2)),.v (.im (fG id []))]) (args:=[.slice p N m,.slice q M m2,fG id []]) (c:=iL) rfl ⟨rfl,rfl,rfl,trivial⟩ (Nat.le_of_ble_eq_true (by kernel_rfl)) fun a w1 hA => ?_
  rw[Bs];exact wp_seq (aA aG (fun _ _=>aY.w _ _) hG (Up p q N m M m2 id) trivial hA fun a w1 hA=>hR a w1 hA)
 refine⟨fun he=>first _ fun a w hA => ?_,fun he=>first _ fun a w hA => ?_⟩
 ·exact wp_seq (aA aG (hC _) hG (Kt p q N m M m2 _ f g) ⟨rfl,rfl,rfl,pB he,trivial⟩ hA fun a w hA=>bH (l:=[.im (.slice none 0 0),.im (.int .i64 (eW N f M g))]) (r:=.many [.im (.slice none 0 0),.im (.int .i64 (eW N f M g))]) (by kernel_rfl) (by kernel_rfl) hA)
 ·obtain⟨q1,q2,q3,q4⟩:=tR he;refine wp_seq (aA aG (hC _) hG (Br p q N m M m2 _ f g) ⟨rfl,rfl,rfl,by rw[he]; rfl,trivial⟩ hA fun a w1 hA => ?_);obtain⟨b3,hA⟩:=hA.at (k:=3) (l:=[.c (.slice p N m)]) (by simp[CF]);obtain⟨b4,hA⟩:=hA.at (k:=4) (l:=[.c (.slice q M m2)]) (by simp[CF]);obtain⟨b5,hA⟩:=hA.at (k:=5) (l:=[.c (fG id [])]) (by simp[CF]);have o3:oldOf w1 b3 0 [.c (.slice p N m)]:=hA.old (k:=3) (by simp[CF]) (by simp);have o4:oldOf w1 b4 0 [.c (.slice q M m2)]:=hA.old (k:=4) (by simp[CF]) (by simp);have o5:oldOf w1 b5 0 [.c (fG id [])]:=hA.old (k:=5) (by simp[CF]) (by simp);have hF:=hA.fresh [(3,.im (aT b3 0)),(4,.im (aT b4 0)),(5,.im (aT b5 0))] (fun z hz=>by
   simp only[List.mem_cons,List.not_mem_nil,or_false]at hz
   rcases hz with rfl|rfl|rfl
   ·exact hA.ptr (s:=3) (k:=3) (by simp[CF]) (by simp)
   ·exact hA.ptr (s:=4) (k:=4) (by simp[CF]) (by simp)
   ·exact hA.ptr (s:=5) (k:=5) (by simp[CF]) (by simp))
  have hb1:=hA.below;clear hA;have hlv:=hv.on hb1;have hlv2:=hv2.on hb1;have hK:max N M≤65536:=Nat.max_le.2 ⟨q1,q2⟩;refine aA aG (fun _ _=>aY.w _ _) (nJ fun w' hw=>((FrAt.none _ _).add func30 (by kernel_rfl) (by kernel_rfl) (iY (by omega) (fun args w=>bF func41 (by kernel_rfl) (by kernel_rfl) args w) fun i hi w3 hw3 => ?_)).add func29 (by kernel_rfl) (by kernel_rfl) fun cs pre r h1 h2 args ha=>xC cs pre r h1 h2 args w' ha) (Zz w1 p q N m M m2 b3 b4 b5 (max N M) fun i=>op (aU f N i) (aU g M i)) ⟨o3,o4,YX N M,rfl,rfl,rfl,rfl,Nat.le_refl _,fun j _=>hop _ _,by omega,trivial⟩ hF fun a w2 hA2=>aX (dE (r:=⟨aP (el fun i=>op (aU f N i) (aU g M i)) 0 (aF (fun i=>op (aU f N i) (aU g M i)) (max N M)),aF (fun i=>op (aU f N i) (aU g M i)) (max N M),aF (fun i=>op (aU f N i) (aU g M i)) (max N M),[.im (.int .i64 0)]⟩) (by kernel_rfl) hA2) fun e w h=>h.older hb1
  have B3:=hw.trans (hw3.mono hw.size);exact hc w3 i b3 b4 b5 (hlv.on B3) (hlv2.on B3) q3 q4 (oldOf.go B3 (Nat.le_refl _) o5) (oldOf.go B3 (Nat.le_refl _) o3) (oldOf.go B3 (Nat.le_refl _) o4)
def Ka (v v2:Value) (N:Nat) (f:Nat→Nat) (M:Nat) (g:Nat→Nat):List CA→Option (List Prop×FR)
 | [.v (.im u),.v (.im t),.v (.im fv)]=>some ([u=v,t=v2,fv=fG 21 []],⟨aP (el (fun i=>dH (aU f N i) (aU g M i))) 0 (aF (fun i=>dH (aU f N i) (aU g M i)) (max N M)),aF (fun i=>dH (aU f N i) (aU g M i)) (max N M),aF (fun i=>dH (aU f N i) (aU g M i)) (max N M),[.im (.int .i64 0)]⟩)
 | _=>none
def SB (v v2:Value) (N:Nat) (f:Nat→Nat) (M:Nat) (g:Nat→Nat):iP
 | [.v (.im u),.v (.im t),.v (.im fv)]=>some ([u=v,t=v2,fv=fG 21 []],.many [.im (.slice none 0 0),.im (.int .i64 (eW N f M g))])
 | _=>none
theorem Ak {w:World} {v v2:Value} {N:Nat} {f:Nat→Nat} {M:Nat} {g:Nat→Nat} (hv:LV w v N f) (hv2:LV w v2 M g) (hN:N≤4611686018427387904) (hM:M≤4611686018427387904) (he:eW N f M g=0):∀cs pre r,Ka v v2 N f M g cs=some (pre,r)→aR pre→∀(args:List Value),cO w cs args→Calls prog 20 args.toArray w (fun e w'=>r.ok w e w'):=by
 intro cs pre r hg hp args ha;unfold Ka at hg;split at hg
 ·cases hg
  match args,ha with
  | [a1,a2,a3],ha =>
   obtain⟨rfl,rfl,rfl,_⟩:=hp;have h1:a1=_:=ha.1;have h2:a2=_:=ha.2.1;have h3:a3=_:=ha.2.2.1;subst h1; subst h2; subst h3;exact (oD (op:=dH) hv hv2 hN hM gT fun w i b3 b4 b5=>vO).2 he
  | [],ha=>exact ha.elim
  | [_],ha=>exact ha.2.elim
  | [_,_],ha=>exact ha.2.2.elim
  | _::_::_::_::_,ha=>exact ha.2.2.2.elim
 ·cases hg
theorem SA {w:World} {v v2:Value} {N:Nat} {f:Nat→Nat} {M:Nat} {g:Nat→Nat} (hv:LV w v N f) (hv2:LV w v2 M g) (hN:N≤4611686018427387904) (hM:M≤4611686018427387904) (he:eW N f M g≠0):∀cs pre r,SB v v2 N f M g cs=some (pre,r)→aR pre→∀(args:List Value),cO w cs args→bI prog 20 r args w:=by
 intro cs pre r hg hp args ha;unfold SB at hg;split at hg
 ·cases hg
  match args,ha with
  | [a1,a2,a3],ha =>
   obtain⟨rfl,rfl,rfl,_⟩:=hp;have h1:a1=_:=ha.1;have h2:a2=_:=ha.2.1;have h3:a3=_:=ha.2.2.1;subst h1; subst h2; subst h3;exact (oD (op:=dH) hv hv2 hN hM gT fun w i b3 b4 b5=>vO).1 he
  | [],ha=>exact ha.elim
  | [_],ha=>exact ha.2.elim
  | [_,_],ha=>exact ha.2.2.elim
  | _::_::_::_::_,ha=>exact ha.2.2.2.elim
 ·cases hg
theorem OK (v v2:Value) (N:Nat) (f:Nat→Nat) (M:Nat) (g:Nat→Nat):fH prog (qG prog) (fun _=>⟨fun _=>dB.add 20 (SB v v2 N f M g),fun _=>true,fun _=>none⟩) f5 60 [.v (.im v),.v (.im v2)]=some ([v=v,v2=v2,fG 21 []=fG 21 []],.many [.im (.slice none 0 0),.im (.int .i64 (eW N f M g))]):=by kernel_rfl
theorem OJ (v v2:Value) (N:Nat) (f:Nat→Nat) (M:Nat) (g:Nat→Nat):AT prog { qG prog with x:=FY (lY.add 20 (Ka v v2 N f M g)) } (cF fun _=>none) f5 60 [.v (.im v),.v (.im v2)]=some ([v=v,v2=v2,fG 21 []=fG 21 []],⟨aP (el (fun i=>dH (aU f N i) (aU g M i))) 0 (aF (fun i=>dH (aU f N i) (aU g M i)) (max N M)),aF (fun i=>dH (aU f N i) (aU g M i)) (max N M),aF (fun i=>dH (aU f N i) (aU g M i)) (max N M),[.im (.int .i64 0)]⟩):=by kernel_rfl
theorem UH {w0:World} {v v2:Value} {N:Nat} {f:Nat→Nat} {M:Nat} {g:Nat→Nat} (hv:LV w0 v N f) (hv2:LV w0 v2 M g) (hN:N≤4611686018427387904) (hM:M≤4611686018427387904) :
  (eW N f M g≠0→Calls prog 5 #[v,v2] w0 (Pr w0 0 (fun _=>0) (eW N f M g))) ∧
  (eW N f M g=0→Calls prog 5 #[v,v2] w0 (Pr w0 (aF (fun i=>dH (aU f N i) (aU g M i)) (max N M)) (fun i=>dH (aU f N i) (aU g M i)) 0)):=by
 refine⟨fun he => ?_,fun he => ?_⟩
 ·exact (bC aG (fun _ _=>TabOkW.add (aY.w _ _) func20 (by kernel_rfl) (by kernel_rfl) fun w hw=>SA (hv.on hw) (hv2.on hw) hN hM he) ((bE _).w _ _) func5 (OK v v2 N f M g) ⟨rfl,rfl,rfl,trivial⟩ (args:=[v,v2]) ⟨rfl,rfl,trivial⟩).mono fun e w h=>Pr.nil _ h
 ·exact (gD aG (fun _ _=>aY.w _ _) (fS fun w' hw=>(FrAt.none _ _).add func20 (by kernel_rfl) (by kernel_rfl) (Ak (hv.on hw) (hv2.on hw) hN hM he)) func5 (OJ v v2 N f M g) ⟨rfl,rfl,rfl,trivial⟩ (args:=[v,v2]) ⟨rfl,rfl,trivial⟩).mono fun e w h=>Pr.fr (fun j _=>dW (gT _ _)) h
def Jz (v v2:Value) (N:Nat) (f:Nat→Nat) (M:Nat) (g:Nat→Nat):List CA→Option (List Prop×FR)
 | [.v (.im u),.v (.im t),.v (.im fv)]=>some ([u=v,t=v2,fv=fG 26 []],⟨aP (el (fun i=>fD (aU f N i) (aU g M i))) 0 (aF (fun i=>fD (aU f N i) (aU g M i)) (max N M)),aF (fun i=>fD (aU f N i) (aU g M i)) (max N M),aF (fun i=>fD (aU f N i) (aU g M i)) (max N M),[.im (.int .i64 0)]⟩)
 | _=>none
def RZ (v v2:Value) (N:Nat) (f:Nat→Nat) (M:Nat) (g:Nat→Nat):iP
 | [.v (.im u),.v (.im t),.v (.im fv)]=>some ([u=v,t=v2,fv=fG 26 []],.many [.im (.slice none 0 0),.im (.int .i64 (eW N f M g))])
 | _=>none
theorem Aj {w:World} {v v2:Value} {N:Nat} {f:Nat→Nat} {M:Nat} {g:Nat→Nat} (hv:LV w v N f) (hv2:LV w v2 M g) (hN:N≤4611686018427387904) (hM:M≤4611686018427387904) (he:eW N f M g=0):∀cs pre r,Jz v v2 N f M g cs=some (pre,r)→aR pre→∀(args:List Value),cO w cs args→Calls prog 20 args.toArray w (fun e w'=>r.ok w e w'):=by
 intro cs pre r hg hp args ha;unfold Jz at hg;split at hg
 ·cases hg
  match args,ha with
  | [a1,a2,a3],ha =>
   obtain⟨rfl,rfl,rfl,_⟩:=hp;have h1:a1=_:=ha.1;have h2:a2=_:=ha.2.1;have h3:a3=_:=ha.2.2.1;subst h1; subst h2; subst h3;exact (oD (op:=fD) hv hv2 hN hM lG fun w i b3 b4 b5=>vM).2 he
  | [],ha=>exact ha.elim
  | [_],ha=>exact ha.2.elim
  | [_,_],ha=>exact ha.2.2.elim
  | _::_::_::_::_,ha=>exact ha.2.2.2.elim
 ·cases hg
theorem RY {w:World} {v v2:Value} {N:Nat} {f:Nat→Nat} {M:Nat} {g:Nat→Nat} (hv:LV w v N f) (hv2:LV w v2 M g) (hN:N≤4611686018427387904) (hM:M≤4611686018427387904) (he:eW N f M g≠0):∀cs pre r,RZ v v2 N f M g cs=some (pre,r)→aR pre→∀(args:List Value),cO w cs args→bI prog 20 r args w:=by
 intro cs pre r hg hp args ha;unfold RZ at hg;split at hg
 ·cases hg
  match args,ha with
  | [a1,a2,a3],ha =>
   obtain⟨rfl,rfl,rfl,_⟩:=hp;have h1:a1=_:=ha.1;have h2:a2=_:=ha.2.1;have h3:a3=_:=ha.2.2.1;subst h1; subst h2; subst h3;exact (oD (op:=fD) hv hv2 hN hM lG fun w i b3 b4 b5=>vM).1 he
  | [],ha=>exact ha.elim
  | [_],ha=>exact ha.2.elim
  | [_,_],ha=>exact ha.2.2.elim
  | _::_::_::_::_,ha=>exact ha.2.2.2.elim
 ·cases hg
theorem OI (v v2:Value) (N:Nat) (f:Nat→Nat) (M:Nat) (g:Nat→Nat):fH prog (qG prog) (fun _=>⟨fun _=>dB.add 20 (RZ v v2 N f M g),fun _=>true,fun _=>none⟩) f7 60 [.v (.im v),.v (.im v2)]=some ([v=v,v2=v2,fG 26 []=fG 26 []],.many [.im (.slice none 0 0),.im (.int .i64 (eW N f M g))]):=by kernel_rfl
theorem OH (v v2:Value) (N:Nat) (f:Nat→Nat) (M:Nat) (g:Nat→Nat):AT prog { qG prog with x:=FY (lY.add 20 (Jz v v2 N f M g)) } (cF fun _=>none) f7 60 [.v (.im v),.v (.im v2)]=some ([v=v,v2=v2,fG 26 []=fG 26 []],⟨aP (el (fun i=>fD (aU f N i) (aU g M i))) 0 (aF (fun i=>fD (aU f N i) (aU g M i)) (max N M)),aF (fun i=>fD (aU f N i) (aU g M i)) (max N M),aF (fun i=>fD (aU f N i) (aU g M i)) (max N M),[.im (.int .i64 0)]⟩):=by kernel_rfl
theorem NK {w0:World} {v v2:Value} {N:Nat} {f:Nat→Nat} {M:Nat} {g:Nat→Nat} (hv:LV w0 v N f) (hv2:LV w0 v2 M g) (hN:N≤4611686018427387904) (hM:M≤4611686018427387904) :
  (eW N f M g≠0→Calls prog 7 #[v,v2] w0 (Pr w0 0 (fun _=>0) (eW N f M g))) ∧
  (eW N f M g=0→Calls prog 7 #[v,v2] w0 (Pr w0 (aF (fun i=>fD (aU f N i) (aU g M i)) (max N M)) (fun i=>fD (aU f N i) (aU g M i)) 0)):=by
 refine⟨fun he => ?_,fun he => ?_⟩
 ·exact (bC aG (fun _ _=>TabOkW.add (aY.w _ _) func20 (by kernel_rfl) (by kernel_rfl) fun w hw=>RY (hv.on hw) (hv2.on hw) hN hM he) ((bE _).w _ _) func7 (OI v v2 N f M g) ⟨rfl,rfl,rfl,trivial⟩ (args:=[v,v2]) ⟨rfl,rfl,trivial⟩).mono fun e w h=>Pr.nil _ h
 ·exact (gD aG (fun _ _=>aY.w _ _) (fS fun w' hw=>(FrAt.none _ _).add func20 (by kernel_rfl) (by kernel_rfl) (Aj (hv.on hw) (hv2.on hw) hN hM he)) func7 (OH v v2 N f M g) ⟨rfl,rfl,rfl,trivial⟩ (args:=[v,v2]) ⟨rfl,rfl,trivial⟩).mono fun e w h=>Pr.fr (fun j _=>dW (lG _ _)) h
theorem WM (w:World) (b o N m i x y b2 b3:Nat):fH prog { qG prog with x:=xO w (aE [(7,i)]) (aE [(8,[.q x]),(9,[.q y])]) (aE [(5,aS b o N m)]) } (cF fun _=>none) f31 60 [.v (.im (iI i)),.v (.im (aT b2 0)),.v (.im (aT b3 0))]=some ([oldOf w b2 0 [.c (aS b o N m)],Int.ofNat i=Int.ofNat i,i<N,oldOf w b (o+i*4) [.q x],cL [.q x]=4,oldOf w b3 0 [.q y],cL [.q y]=4,x<RM,y<RM],.one (.fl [.q (dF x y)])):=by kernel_rfl
def dV:Code:=(f11.body).getD .skip
theorem WF:dV=.seq (cA dV) (.seq (.seq (.region 1 (aK (cA (cA (cB dV)))) false) (cB (cA (cB dV)))) (cB (cB dV))):=by kernel_rfl
def yE (v:Value) (x:Nat):List Fact:=[.slot 2 (.pt 2 0),.row 2 true [.c v],.slot 3 (.pt 3 0),.row 3 true [.q x]]
theorem Oe (p:Option Addr) (N m x:Nat):aH prog (qG prog) f11.ntmps (cF fun _=>none) 40 (cA dV) (dX 0 [.v (.im (.slice p N m)),.v (.fl [.q x])]) (yE (.slice p N m) x)=some ([],.nrm,yE (.slice p N m) x):=by kernel_rfl
def Lu (v:Value) (x:Nat):List Fact:=.slot 7 (.im v) :: .slot 9 (.sl 9 0 1 1) :: .row 9 true [.q x]::yE v x
theorem Od (p:Option Addr) (N m x:Nat):cP prog (qG prog) f11.ntmps bL ((aK (cA (cA (cB dV)))).extract 0 3) (yE (.slice p N m) x) (Lu (.slice p N m) x)=some ([],Lu (.slice p N m) x):=by kernel_rfl
def De (v:Value) (x b:Nat):List Fact:=.slot 10 (.sl 10 0 2 2) :: .row 10 true [.c v,.c (aS b 0 1 1)] :: .row 9 true [.q x] :: .at 9 b::yE v x
theorem Oc (p:Option Addr) (N m x b:Nat):cP prog (qG prog) f11.ntmps bL ((aK (cA (cA (cB dV)))).extract 3 4) (.slot 9 (.im (aS b 0 1 1)) :: .at 9 b::Lu (.slice p N m) x) (De (.slice p N m) x b)=some ([],De (.slice p N m) x b):=by kernel_rfl
theorem Ob (v:Value) (x b:Nat) (e:Int):cP prog (qG prog) f11.ntmps bL ((aK (cA (cA (cB dV)))).extract 5 6) (.slot 11 (.im (.int .i64 e))::De v x b) (.slot 6 (.im (.int .i64 e))::yE v x)=some ([],.slot 6 (.im (.int .i64 e))::yE v x):=by kernel_rfl
def mM (e:Int):List Fact:=[.slot 4 (.im (.slice none 0 0)),.slot 5 (.im (.int .i64 e))]
theorem Fj (v:Value) (x:Nat) (e:Int):aH prog (qG prog) f11.ntmps (cF (aE [(13,.bool true)])) 40 (cB (cA (cB dV))) (.slot 6 (.im (.int .i64 e))::yE v x) (mM e)=some ([aC .neq .i64 e 0=some (.bool true)],.rt,mM e):=by kernel_rfl
theorem WE (v:Value) (x:Nat):aH prog (qG prog) f11.ntmps (cF fun _=>none) 40 (cB (cA (cB dV))) (.slot 6 (.im (.int .i64 0))::yE v x) (yE v x)=some ([],.nrm,yE v x):=by kernel_rfl
def aAp (caps:List Value) (K:Nat) (h:Nat→Nat):Tab2:=(lY.add 30 (uL 31 caps K h)).add 29 (RR K h)
def scY (n:Nat) (l:List At):List Fact:=[.slot 4 (.sl 19 0 n n),.row 19 true l,.slot 5 (.im (.int .i64 0))]
theorem Ye (w:World) (p:Option Addr) (N m b2 b3:Nat) (h:Nat→Nat):aH prog { qG prog with x:=xB w (aE [(15,.slice p N m)]) (aAp [aT b2 0,aT b3 0] N h) } f11.ntmps (cF fun _=>none) 60 (cB (cB dV)) (kX [(2,.im (aT b2 0)),(3,.im (aT b3 0))]) (scY (aF h N) (aP (el h) 0 (aF h N))) =
  some ([oldOf w b2 0 [.c (.slice p N m)],iI N=iI N,fG 31 [aT b2 0,aT b3 0]=fG 31 [aT b2 0,aT b3 0],aB (aP (el h) 0 N)=aB (aP (el h) 0 N),N=N,N≤N,bD N h,N≤131072],.rt,scY (aF h N) (aP (el h) 0 (aF h N))):=by kernel_rfl
theorem Dd {w0:World} {v:Value} {N x:Nat} {f:Nat→Nat} (hv:LV w0 v N f) (hN:N≤4611686018427387904) (hx:x<bQ) :
  (fB N f x≠0→Calls prog 11 #[v,.agg (aB [At.q x]).toArray] w0 (Pr w0 0 (fun _=>0) (fB N f x))) ∧
  (fB N f x=0→Calls prog 11 #[v,.agg (aB [At.q x]).toArray] w0 (Pr w0 (aF (fun i=>dF (f i) x) N) (fun i=>dF (f i) x) 0)):=by
 have hG:bO prog (qG prog) w0.heap.size w0:=(bE _).w _ _;have hT:∀n d:Nat,TabOkW prog dB w0.heap.size w0:=fun _ _=>aY.w _ _
 obtain⟨p,m,rfl,_,h256,hmem⟩:=id hv;have first:∀R:Ending→World→Prop,(∀a w,Holds f11.ntmps w0.heap.size w0 (.slot 6 (.im (.int .i64 (fB N f x)))::yE (.slice p N m) x) a w→(cB (cA (cB dV))).wp prog (Exit.then (fun a w=>(cB (cB dV)).wp prog (bodyPost prog f11 R) a w) (bodyPost prog f11 R)) a w)→Calls prog 11 #[.slice p N m,.agg (aB [At.q x]).toArray] w0 R:=fun R hR=>by
  refine bP func11 (cs:=[.v (.im (.slice p N m)),.v (.fl [.q x])]) (args:=[.slice p N m,.agg (aB [At.q x]).toArray]) (c:=dV) rfl ⟨rfl,rfl,trivial⟩ (Nat.le_of_ble_eq_true (by kernel_rfl)) fun a w1 hA => ?_
  rw[WF];refine wp_seq (aA aG hT hG (Oe p N m x) trivial hA fun a w1 hA => ?_);refine wp_seq (wp_seq (bV (l:=List.range' 0 ((aK (cA (cA (cB dV)))).extract 0 3).size++(List.range' 3 ((aK (cA (cA (cB dV)))).extract 3 4).size++(4::(List.range' 5 ((aK (cA (cA (cB dV)))).extract 5 6).size++[])))) (by kernel_rfl) ?_));refine aI (c:=bL) (hT 0) hG (Od p N m x) trivial (by kernel_rfl) hA fun a w1 hA => ?_
  obtain⟨b,hA⟩:=hA.at (k:=9) (l:=[.q x]) (by simp[Lu]);have hA:=hA.im (s:=9) (k:=9) (o:=0) (n:=1) (m:=1) (b:=b) (by simp[Lu]) (by simp);have hA:Holds _ _ _ (.slot 9 (.im (aS b 0 1 1)) :: .at 9 b::Lu (.slice p N m) x) a w1:=hA;refine aI (c:=bL) (hT 0) hG (Oc p N m x b) trivial (by kernel_rfl) hA fun a w1 hA => ?_
  have o1:oldOf w1 b 0 [.q x]:=hA.old (k:=9) (by simp[De]) (by simp[De]);obtain⟨b2,hB⟩:=hA.at (k:=10) (l:=[.c (.slice p N m),.c (aS b 0 1 1)]) (by simp[De]);have o2:oldOf w1 b2 0 [.c (.slice p N m),.c (aS b 0 1 1)]:=hB.old (k:=10) (by simp[De]) (by simp);have h10:=(hB.im (s:=10) (k:=10) (o:=0) (n:=2) (m:=2) (b:=b2) (by simp[De]) (by simp)).slot (s:=10) (v:=aS b2 0 2 2) (by simp);obtain⟨o,ho,⟨ts,hoo⟩,hod,hog⟩:∃o,(aK (cA (cA (cB dV))))[4]?=some o∧(∃ts,o.op=.call ⟨.value (.func 28),#[.tmp 10],ts⟩)∧o.dst=some 11∧o.guard=none:=⟨_,rfl,⟨_,rfl⟩,rfl,rfl⟩
  refine eD ho hog (mU hoo (vs:=[aS b2 0 2 2]) (by simp[Act.eval,h10]) (fun args=>bF func28 (by kernel_rfl) (by kernel_rfl) args _) (tS (hv.on hA.below) hN hx o1 o2) fun w2 hb => ?_);rw[hod];have hA:=hA.put hb (d:=11) (Nat.le_of_ble_eq_true (by kernel_rfl)) (.im (.int .i64 (fB N f x))) (nT (by kernel_rfl));exact aI (c:=bL) (hT 0) hG (Ob _ x b _) trivial (by kernel_rfl) hA fun a w1 hA=>hR a w1 hA
 refine⟨fun he=>first _ fun a w hA => ?_,fun he=>first _ fun a w hA => ?_⟩
 ·exact aA aG hT hG (Fj _ x _) ⟨pB he,trivial⟩ hA fun a w hA=>aX (bH (l:=[.im (.slice none 0 0),.im (.int .i64 (fB N f x))]) (r:=.many [.im (.slice none 0 0),.im (.int .i64 (fB N f x))]) (by kernel_rfl) (by kernel_rfl) hA) fun e w h=>Pr.nil _ h
 ·obtain⟨q1,q2,q3⟩:=pJ he;rw[he]at hA;refine aA aG hT hG (WE _ x) trivial hA fun a w1 hA => ?_
  show (cB (cB dV)).wp _ _ _ _;obtain⟨b2,hA⟩:=hA.at (k:=2) (l:=[.c (.slice p N m)]) (by simp[yE]);obtain⟨b3,hA⟩:=hA.at (k:=3) (l:=[.q x]) (by simp[yE]);have o2:oldOf w1 b2 0 [.c (.slice p N m)]:=hA.old (k:=2) (by simp[yE]) (by simp);have o3:oldOf w1 b3 0 [.q x]:=hA.old (k:=3) (by simp[yE]) (by simp);have hF:=hA.fresh [(2,.im (aT b2 0)),(3,.im (aT b3 0))] (fun z hz=>by
   simp only[List.mem_cons,List.not_mem_nil,or_false]at hz
   rcases hz with rfl|rfl
   ·exact hA.ptr (s:=2) (k:=2) (by simp[yE]) (by simp)
   ·exact hA.ptr (s:=3) (k:=3) (by simp[yE]) (by simp))
  have hb1:=hA.below;clear hA;refine aA aG (fun _ _=>aY.w _ _) (nJ fun w' hw=>((FrAt.none _ _).add func30 (by kernel_rfl) (by kernel_rfl) (iY (by omega) (fun args w=>bF func31 (by kernel_rfl) (by kernel_rfl) args w) fun i hi w3 hw3 => ?_)).add func29 (by kernel_rfl) (by kernel_rfl) fun cs pre r h1 h2 args ha=>xC cs pre r h1 h2 args w' ha) (Ye w1 p N m b2 b3 fun i=>dF (f i) x) ⟨o2,rfl,rfl,rfl,rfl,Nat.le_refl _,fun j _=>eB _ _,by omega,trivial⟩ hF fun a w2 hA2=>aX (dE (r:=⟨aP (el fun i=>dF (f i) x) 0 (aF (fun i=>dF (f i) x) N),aF (fun i=>dF (f i) x) N,aF (fun i=>dF (f i) x) N,[.im (.int .i64 0)]⟩) (by kernel_rfl) hA2) fun e w h=>Pr.fr (fun j _=>dW (eB _ _)) (h.older hb1)
  have B3:=hw.trans (hw3.mono hw.size);obtain⟨b,o,rfl,hb,hr⟩:=hmem (by omega);have C3:=hb1.trans (B3.mono hb1.size);exact bC aG (fun _ _=>aY.w _ _) (cE w3 _ _ _) func31 (WM w3 b o N m i (f i) x b2 b3) ⟨oldOf.go B3 (Nat.le_refl _) o2,rfl,hi,cJ (Nat.lt_of_lt_of_le hb C3.size) (dC C3 hb hr) hi,rfl,oldOf.go B3 (Nat.le_refl _) o3,rfl,q2 i hi,q3,trivial⟩ (args:=[iI i,aT b2 0,aT b3 0]) ⟨rfl,rfl,rfl,trivial⟩
end Go.Proofs.YtjjnbgoepbiojaaGreat.Ex
namespace Go.Proofs.YtjjnbgoepbiojaaGreat
open Go.Proofs.Tryz
open Go.ChangeShapes Go.WideShapes Go.ChangeAt Go.RowKit
def LAt (w:World) (g off len:Nat) (A:Nat→Nat→Nat):Prop:=∀k,k<len →
 w.cell? ⟨g,off+k*4,none⟩=some (.int .u64 (A k 0))∧w.cell? ⟨g,off+k*4+1,none⟩=some (.int .u64 (A k 1)) ∧
 w.cell? ⟨g,off+k*4+2,none⟩=some (.int .u64 (A k 2))∧w.cell? ⟨g,off+k*4+3,none⟩=some (.int .u64 (A k 3))
def LOk (len:Nat) (A:Nat→Nat→Nat):Prop:=∀k,k<len→cK (A k 0) (A k 1) (A k 2) (A k 3)
theorem LAt.same {w w':World} {g off len:Nat} {A:Nat→Nat→Nat} {B:Nat} (h:LAt w g off len A) (hg:0<len→g<B) (hb:Below B w w'):LAt w' g off len A :=
 fun k hk=>have hg:=hg (Nat.lt_of_le_of_lt (Nat.zero_le _) hk); ⟨(hb.cell (p:=⟨g,off+k*4,none⟩) hg).trans (h k hk).1,(hb.cell (p:=⟨g,off+k*4+1,none⟩) hg).trans (h k hk).2.1,
  (hb.cell (p:=⟨g,off+k*4+2,none⟩) hg).trans (h k hk).2.2.1,(hb.cell (p:=⟨g,off+k*4+3,none⟩) hg).trans (h k hk).2.2.2⟩
set_option maxHeartbeats 1000000 in
theorem wY (F:FC) (hF:F.Ok) (b g off len cap:Nat) (A:Nat→Nat→Nat) (hA:LOk len A) (hm:len≤9223372036854775807) (w:World) (hk:KIs w b F) (hg:0<len→g<w.heap.size) (hl:LAt w g off len A) :
  Calls prog 97 #[.pointer (some ⟨b,0,none⟩),.slice (some ⟨g,off,none⟩) len cap] w fun e w'=>(∃t:Bool,e=.returned (.bool t)∧(t=true↔∀k,k<len→aD (A k 0) (A k 1) (A k 2) (A k 3)<F.M))∧Below w.heap.size w w':=by
 have HK:=Lib.hid hk;have HL:=Lib.hid hl;have HG:=Lib.hid hg;clear hg;have HA:=Lib.hid hA;have HF:=Lib.hid hF;clear hk hl hA hF
 go_enter func97,ntmps97
 go_wp2_with fail
 go_loopw [9] (fun t wr=>∃k:Nat,k≤len∧t=.int .i64 k∧Hid (∀j,j<k→aD (A j 0) (A j 1) (A j 2) (A j 3)<F.M)∧Below w.heap.size w wr) (fun t _=>len-(intOf t).toNat)
 case atStart=>exact⟨0,Nat.zero_le _,rfl,Lib.hid (fun j h=>absurd h (by omega)),Below.refl _ _⟩
 case round =>
  obtain⟨k,hk,rfl,ha,hbl⟩:=hrel
  by_cases hlt:k<len
  ·obtain⟨a0,a1,a2,a3,e0,e1,e2,e3⟩:∃a0 a1 a2 a3:Nat,a0=A k 0∧a1=A k 1∧a2=A k 2∧a3=A k 3:=⟨_,_,_,_,rfl,rfl,rfl,rfl⟩
   have hc:=(HL.out.same HG.out hbl) k hlt;have hok:=HA.out k hlt;rw[←e0,←e1,←e2,←e3]at hc hok;have c0:=hc.1; have c1:=hc.2.1; have c2:=hc.2.2.1; have c3:=hc.2.2.2;clear hc;have HB:=Lib.hid hbl;have HR:=Lib.hid (HK.out.same hbl);clear hbl;have HE:=Lib.hid (And.intro e0 (And.intro e1 (And.intro e2 e3)));have HO:=Lib.hid hok;clear e0 e1 e2 e3 hok;have hsz:w.heap.size≤wr.heap.size:=HB.out.size;go_wp2_with fail;refine (dI F HF.out b a0 a1 a2 a3 HO.out _ (HR.out.same ((Below.refl _ _).alloc (Nat.le_refl _) _))).mono ?_
   rintro e w2 ⟨rfl,hb2⟩
   have HW:=Lib.hid ((HB.out.alloc hsz (.cells #[.int .u64 a0,.int .u64 a1,.int .u64 a2,.int .u64 a3] 25)).trans (hb2.mono (by simp; omega)));clear hb2 c0 c1 c2 c3
   by_cases hv:aD a0 a1 a2 a3<F.M
   ·rw[show wU (aD a0 a1 a2 a3) F.M=true from decide_eq_true hv];have HN:=Lib.hid (show ∀j,j<k+1→aD (A j 0) (A j 1) (A j 2) (A j 3)<F.M from fun j h=>by
     by_cases e:j=k
     ·subst e; rw[←HE.out.1,←HE.out.2.1,←HE.out.2.2.1,←HE.out.2.2.2]; exact hv
     ·exact ha.out j (by omega))
    clear hv;go_wp2_with fail
    go_round
    case rel=>exact⟨k+1,by omega,by go_num,HN,HW.out⟩
    case measure=>simp[intOf]; omega
   ·rw[show wU (aD a0 a1 a2 a3) F.M=false from decide_eq_false hv];have HN:=Lib.hid (show ¬ ∀j,j<len→aD (A j 0) (A j 1) (A j 2) (A j 3)<F.M from fun h=>hv (by
     have:=h k hlt
     rwa [←HE.out.1,←HE.out.2.1,←HE.out.2.2.1,←HE.out.2.2.2]at this))
    clear hv;go_wp2_with fail;go_ret;exact⟨⟨false,rfl,⟨fun h=>(by cases h),fun h=>absurd h HN.out⟩⟩,HW.out⟩
  ·obtain rfl:k=len:=by omega
   have HB:=Lib.hid hbl;clear hbl;go_wp2_with fail;go_ret;exact⟨⟨true,rfl,⟨fun _=>ha.out,fun _=>rfl⟩⟩,HB.out⟩
def CD (A:Nat→Nat→Nat) (j:Nat):Nat:=aD (A j 0) (A j 1) (A j 2) (A j 3)
set_option maxRecDepth 20000 in
set_option maxHeartbeats 4000000 in
theorem ES (p:Option Addr) (cap b:Nat) (w:World) :
  Calls prog 97 #[.pointer (some ⟨b,0,none⟩),.slice p 0 cap] w fun e w'=>e=.returned (.bool true)∧w'=w:=by
 go_enter func97,ntmps97
 go_wp2_with fail;refine wp_loop_rounds 2 ?_;rw[rounds_succ];go_wp2_with fail;go_ret;exact⟨rfl,rfl⟩
open Go.RowKit
def FIs (W:World) (o:Option Addr) (len:Nat) (A:Nat→Nat→Nat):Prop:=len*32≤140737488351232∧LOk len A∧(0<len→∃g off,o=some ⟨g,off,none⟩∧g<W.heap.size∧LAt W g off len A)
theorem FIs.on {W w:World} {o:Option Addr} {len:Nat} {A:Nat→Nat→Nat} (h:FIs W o len A) (hb:Below W.heap.size W w):FIs w o len A:=by
 refine⟨h.1,h.2.1,fun hl => ?_⟩;obtain⟨g,off,e,hg,hc⟩:=h.2.2 hl;exact⟨g,off,e,Nat.lt_of_lt_of_le hg hb.size,hc.same (fun _=>hg) hb⟩
def UF (M:Nat) (len:Nat) (A:Nat→Nat→Nat):Prop:=∀k,k<len→CD A k<M
theorem tD (F:FC) (hF:F.Ok) (b:Nat) (o:Option Addr) (len cap:Nat) (A:Nat→Nat→Nat) (w:World) (hk:KIs w b F) (h:FIs w o len A) :
  Calls prog 97 #[.pointer (some ⟨b,0,none⟩),.slice o len cap] w fun e w'=>(∃t:Bool,e=.returned (.bool t)∧(t=true↔UF F.M len A))∧Below w.heap.size w w':=by
 by_cases h0:0<len
 ·obtain⟨g,off,rfl,hg,hc⟩:=h.2.2 h0;exact wY F hF b g off len cap A h.2.1 (by have:=h.1; omega) w hk (fun _=>hg) hc
 ·obtain rfl:len=0:=by omega
  refine (ES o cap b w).mono ?_
  rintro e w' ⟨he,rfl⟩
  exact⟨⟨true,he,fun _ k hk=>absurd hk (by omega),fun _=>rfl⟩,Below.refl _ _⟩
def BG (M:Nat) (X Y:Nat→Nat):Nat→Nat
 | 0=>0
 | n+1=>(BG M X Y n+X n*Y n)%M
theorem TC {F:FC} (hF:F.Ok) {s x y d:Nat} (h:s*F.R%F.M=d):(s+x*y*F.Ri%F.M)%F.M*F.R%F.M=(d+x*y)%F.M:=by
 have e1:(s+x*y*F.Ri%F.M)%F.M*F.R%F.M=(s*F.R+x*y*F.Ri*F.R)%F.M:=by
  rw[Nat.mod_mul_mod,Nat.add_mul,Nat.add_mod,Nat.mod_mul_mod,←Nat.add_mod]
 have e2:x*y*F.Ri*F.R%F.M=x*y%F.M:=by rw[Nat.mul_right_comm]; exact iB hF _
 rw[e1,Nat.add_mod,h,e2,Nat.add_mod_mod]
set_option maxHeartbeats 4000000 in
theorem Bd (f:Int) (F:FC) (hf:FieldIs f F) (p q:Option Addr) (la ca lb cb:Nat) (A B:Nat→Nat→Nat) (h1:la=lb) (h2:la≤65536) (ia:UF F.M la A) (ib:UF F.M lb B) (w:World) (hA:FIs w p la A) (hB:FIs w q lb B) :
  Calls prog 76 #[.int .i64 f,.slice p la ca,.slice q lb cb] w (Cu 0 (BG F.M (CD A) (CD B) la) w):=by
 subst h1;have hok:=hf.ok;have hpos:=hf.ok.pos;have IA:=Lib.hid ia;have IB:=Lib.hid ib;clear ia ib;have HA:=Lib.hid hA;have HB:=Lib.hid hB;clear hA hB
 go_enter func76,ntmps76
 go_wp2_with fail;have HM:=Lib.hid ((Mem.nil w).new (w.heap.size) 0 0 0 0 25 (by simp));refine (eV f F hf _).mono ?_
 rintro e w1 ⟨rfl,hbl⟩
 have KK:=Lib.hid (KIs.new w1 F 84);have B1:=Lib.hid (HM.out.on hbl);clear HM hbl;have HM:=Lib.hid (show Mem w (w1.alloc (.cells #[.int .u64 F.m0,.int .u64 F.m1,.int .u64 F.m2,.int .u64 F.m3,.int .u64 F.inv,.int .u64 F.s0,.int .u64 F.s1,.int .u64 F.s2,.int .u64 F.s3] 84)) [(w.heap.size,0,0,0,0)]from B1.out.on ((Below.refl _ _).alloc (Nat.le_refl _) _));clear B1;have t1:decide ((65536:Int)<(la:Int))=false:=decide_eq_false (by omega);go_wp2_with fail;refine (tD F hf.ok w1.heap.size p la ca A _ KK.out (HA.out.on HM.out.1)).mono ?_
 rintro e w2 ⟨⟨t,rfl,ht⟩,hbl⟩
 obtain rfl:t=true:=ht.2 IA.out;have KK':=Lib.hid (KK.out.same hbl);have HM':=Lib.hid (HM.out.on hbl);clear hbl KK ht;have KK:=KK';clear KK';clear HM;have HM:=HM';clear HM';go_wp2_with fail;refine (tD F hf.ok w1.heap.size q la cb B _ KK.out (HB.out.on HM.out.1)).mono ?_
 rintro e w3 ⟨⟨t,rfl,ht⟩,hbl⟩
 obtain rfl:t=true:=ht.2 IB.out;have KK':=Lib.hid (KK.out.same hbl);have HM':=Lib.hid (HM.out.on hbl);clear hbl KK ht;have KK:=KK';clear KK';clear HM;have HM:=HM';clear HM';go_wp2_with fail;have kl:w1.heap.size<w3.heap.size:=KK.out.lt;have ls:w.heap.size<w3.heap.size:=HM.out.lt (b:=w.heap.size) (c0:=0) (c1:=0) (c2:=0) (c3:=0) (by simp);have HM':=Lib.hid (HM.out.new w3.heap.size 0 0 0 0 25 rfl);have KK':=Lib.hid (KK.out.same ((Below.refl _ w3).alloc (Nat.le_refl _) (.cells #[.int .u64 (0:Nat),.int .u64 (0:Nat),.int .u64 (0:Nat),.int .u64 (0:Nat)] 25)));clear KK;have KK:=KK';clear KK';clear HM;have HM:=HM';clear HM';obtain⟨W5,hW5⟩:∃W5,W5=(w3.alloc (.cells #[.int .u64 (0:Nat),.int .u64 (0:Nat),.int .u64 (0:Nat),.int .u64 (0:Nat)] 25)):=⟨_,rfl⟩
 obtain⟨gs,hgs⟩:∃gs,gs=w3.heap.size:=⟨_,rfl⟩
 rw[←hgs]at HM kl ls ⊢;clear hgs hW5 W5
 go_loopw [43] (fun t wr=>∃(k s0 s1 s2 s3:Nat),k≤la∧t=.int .i64 k∧cK s0 s1 s2 s3∧Hid (aD s0 s1 s2 s3<F.M∧aD s0 s1 s2 s3*F.R%F.M=BG F.M (CD A) (CD B) k)∧Hid (Mem w wr [(gs,s0,s1,s2,s3),(w.heap.size,0,0,0,0)])∧Hid (KIs wr w1.heap.size F)) (fun t _=>la-(intOf t).toNat)
 case atStart=>exact⟨0,0,0,0,0,Nat.zero_le _,rfl,Mk,Lib.hid ⟨hpos,by rw[show aD 0 0 0 0=0 from rfl,Nat.zero_mul,Nat.zero_mod]; rfl⟩,HM,KK⟩
 case round =>
  clear HM KK;obtain⟨k,s0,s1,s2,s3,hk,rfl,hs,HV,HM,KK⟩:=hrel
  by_cases hlt:k<la
  ·obtain⟨g,off,rfl,hg,hla⟩:=HA.out.2.2 (by omega);obtain⟨g2,off2,rfl,hg2,hlb⟩:=HB.out.2.2 (by omega);obtain⟨a0,a1,a2,a3,e0,e1,e2,e3⟩:∃a0 a1 a2 a3:Nat,a0=A k 0∧a1=A k 1∧a2=A k 2∧a3=A k 3:=⟨_,_,_,_,rfl,rfl,rfl,rfl⟩
   obtain⟨b0,b1,b2,b3,d0,d1,d2,d3⟩:∃b0 b1 b2 b3:Nat,b0=B k 0∧b1=B k 1∧b2=B k 2∧b3=B k 3:=⟨_,_,_,_,rfl,rfl,rfl,rfl⟩
   have hoka:=HA.out.2.1 k hlt;have hokb:=HB.out.2.1 k hlt;have hva:CD A k=aD a0 a1 a2 a3:=by unfold CD; rw[←e0,←e1,←e2,←e3]
   have hvb:CD B k=aD b0 b1 b2 b3:=by unfold CD; rw[←d0,←d1,←d2,←d3]
   have hlb':aD b0 b1 b2 b3<F.M:=by rw[←hvb]; exact IB.out k hlt
   rw[←e0,←e1,←e2,←e3]at hoka;rw[←d0,←d1,←d2,←d3]at hokb;have HCA:=Lib.hid (show ∀wx,Below w.heap.size w wx→wx.cell? ⟨g,off+k*4,none⟩=some (.int .u64 (a0:Nat))∧wx.cell? ⟨g,off+k*4+1,none⟩=some (.int .u64 (a1:Nat))∧wx.cell? ⟨g,off+k*4+2,none⟩=some (.int .u64 (a2:Nat))∧wx.cell? ⟨g,off+k*4+3,none⟩=some (.int .u64 (a3:Nat))from fun wx hx=>by
    have q:=(hla.same (fun _=>hg) hx) k hlt;rw[←e0,←e1,←e2,←e3]at q;exact q)
   have HCB:=Lib.hid (show ∀wx,Below w.heap.size w wx→wx.cell? ⟨g2,off2+k*4,none⟩=some (.int .u64 (b0:Nat))∧wx.cell? ⟨g2,off2+k*4+1,none⟩=some (.int .u64 (b1:Nat))∧wx.cell? ⟨g2,off2+k*4+2,none⟩=some (.int .u64 (b2:Nat))∧wx.cell? ⟨g2,off2+k*4+3,none⟩=some (.int .u64 (b3:Nat))from fun wx hx=>by
    have q:=(hlb.same (fun _=>hg2) hx) k hlt;rw[←d0,←d1,←d2,←d3]at q;exact q)
   have HO:=Lib.hid (And.intro hoka hokb);have HE:=Lib.hid (And.intro hva (And.intro hvb hlb'));clear e0 e1 e2 e3 d0 d1 d2 d3 hla hlb hoka hokb hva hvb hlb';go_wp2_with fail;refine dJ (fun wx=>Below wr.heap.size wr wx) 11 (by kernel_rfl) ?_;have HS:=aV wr.heap.size wr 1;have H8:=Lib.hid HS;refine aL (i:=0) (v:=.agg #[.int .u64 s0,.int .u64 s1,.int .u64 s2,.int .u64 s3]) rfl (by kernel_rfl) (by kernel_rfl) (by kernel_rfl) (by kernel_rfl) (fun _ _ _ h=>h) HS (Or.inl ⟨by kernel_rfl,fun wx hx => ?_⟩) ?_
   ·have kr:=(HM.out.on hx).row (b:=gs) (c0:=s0) (c1:=s1) (c2:=s2) (c3:=s3) (by simp);have x0:=kr.c0; have x1:=kr.c1; have x2:=kr.c2; have x3:=kr.c3;clear kr;clear HS hx;go_simp
   simp only[Act.put,List.setIfInBounds_toArray,List.set_cons_zero,List.set_cons_succ];refine aL (i:=1) (v:=.slice (some ⟨g,off,none⟩) la ca) rfl (by kernel_rfl) (by kernel_rfl) (by kernel_rfl) (by kernel_rfl) (fun _ _ _ h=>h) HS (Or.inl ⟨by kernel_rfl,fun wx hx => ?_⟩) ?_
   ·clear HS hx;go_simp
   simp only[Act.put,List.setIfInBounds_toArray,List.set_cons_zero,List.set_cons_succ];refine aL (i:=2) (v:=.int .i64 k) rfl (by kernel_rfl) (by kernel_rfl) (by kernel_rfl) (by kernel_rfl) (fun _ _ _ h=>h) HS (Or.inl ⟨by kernel_rfl,fun wx hx => ?_⟩) ?_
   ·clear HS hx;go_simp
   simp only[Act.put,List.setIfInBounds_toArray,List.set_cons_zero,List.set_cons_succ];refine aL (i:=3) (v:=.pointer (some ⟨g,off+k*4,none⟩)) rfl (by kernel_rfl) (by kernel_rfl) (by kernel_rfl) (by kernel_rfl) (fun _ _ _ h=>h) HS (Or.inl ⟨by kernel_rfl,fun wx hx => ?_⟩) ?_
   ·clear HS hx;go_simp
   simp only[Act.put,List.setIfInBounds_toArray,List.set_cons_zero,List.set_cons_succ];refine aL (i:=4) (v:=.agg #[.int .u64 a0,.int .u64 a1,.int .u64 a2,.int .u64 a3]) rfl (by kernel_rfl) (by kernel_rfl) (by kernel_rfl) (by kernel_rfl) (fun _ _ _ h=>h) HS (Or.inl ⟨by kernel_rfl,fun wx hx => ?_⟩) ?_
   ·have q:=HCA.out wx (HM.out.on hx).1;have x0:=q.1; have x1:=q.2.1; have x2:=q.2.2.1; have x3:=q.2.2.2;clear q;clear HS hx;go_simp
   simp only[Act.put,List.setIfInBounds_toArray,List.set_cons_zero,List.set_cons_succ];refine aL (i:=5) (v:=.slice (some ⟨g2,off2,none⟩) la cb) rfl (by kernel_rfl) (by kernel_rfl) (by kernel_rfl) (by kernel_rfl) (fun _ _ _ h=>h) HS (Or.inl ⟨by kernel_rfl,fun wx hx => ?_⟩) ?_
   ·clear HS hx;go_simp
   simp only[Act.put,List.setIfInBounds_toArray,List.set_cons_zero,List.set_cons_succ];refine aL (i:=6) (v:=.int .i64 k) rfl (by kernel_rfl) (by kernel_rfl) (by kernel_rfl) (by kernel_rfl) (fun _ _ _ h=>h) HS (Or.inl ⟨by kernel_rfl,fun wx hx => ?_⟩) ?_
   ·clear HS hx;go_simp
   simp only[Act.put,List.setIfInBounds_toArray,List.set_cons_zero,List.set_cons_succ];refine aL (i:=7) (v:=.pointer (some ⟨g2,off2+k*4,none⟩)) rfl (by kernel_rfl) (by kernel_rfl) (by kernel_rfl) (by kernel_rfl) (fun _ _ _ h=>h) HS (Or.inl ⟨by kernel_rfl,fun wx hx => ?_⟩) ?_
   ·clear HS hx;go_simp
   simp only[Act.put,List.setIfInBounds_toArray,List.set_cons_zero,List.set_cons_succ];refine aL (i:=8) (v:=.agg #[.int .u64 b0,.int .u64 b1,.int .u64 b2,.int .u64 b3]) rfl (by kernel_rfl) (by kernel_rfl) (by kernel_rfl) (by kernel_rfl) (fun _ _ _ h=>h) HS (Or.inl ⟨by kernel_rfl,fun wx hx => ?_⟩) ?_
   ·have q:=HCB.out wx (HM.out.on hx).1;have x0:=q.1; have x1:=q.2.1; have x2:=q.2.2.1; have x3:=q.2.2.2;clear q;clear HS hx;go_simp
   simp only[Act.put,List.setIfInBounds_toArray,List.set_cons_zero,List.set_cons_succ];clear HS;refine aM (i:=9) (by kernel_rfl) rfl (fun K hK => ?_);go_simp;refine (eN F hok w1.heap.size a0 a1 a2 a3 b0 b1 b2 b3 HO.out.1 HO.out.2 HE.out.2.2 _ (KK.out.same H8.out)).mono ?_
   rintro e v1 ⟨p0,p1,p2,p3,rfl,hp,hv,hbl⟩
   have HVp:=Lib.hid hv;clear hv;have HS:=H8.out.trans (hbl.mono H8.out.size);clear H8 hbl;have H8:=Lib.hid HS;refine hK.out _ _ (Or.inr HS) (fun _ => ?_);clear hK K;clear HS;refine aM (i:=10) (by kernel_rfl) rfl (fun K hK => ?_);go_simp;refine (sG F hok w1.heap.size s0 s1 s2 s3 p0 p1 p2 p3 hs hp HV.out.1 (by rw[HVp.out]; exact Nat.mod_lt _ hpos) _ (KK.out.same H8.out)).mono ?_
   rintro e v2 ⟨u0,u1,u2,u3,rfl,hu,hv,hbl⟩
   have HVu:=Lib.hid (show aD u0 u1 u2 u3<F.M∧aD u0 u1 u2 u3*F.R%F.M=BG F.M (CD A) (CD B) (k+1) by
    rw[hv,HVp.out];refine⟨Nat.mod_lt _ hpos,?_⟩;rw[TC hok HV.out.2,←HE.out.1,←HE.out.2.1];rfl)
   clear hv;have HS:=H8.out.trans (hbl.mono H8.out.size);clear H8 hbl;have H8:=Lib.hid HS;refine hK.out _ _ (Or.inr HS) (fun _ => ?_);clear hK K;clear HS;have HM':=Lib.hid (HM.out.on H8.out);have KK':=Lib.hid (KK.out.same H8.out);clear HM KK H8;have HM:=HM';have KK:=KK';clear HM' KK';have kr:=HM.out.row (b:=gs) (c0:=s0) (c1:=s1) (c2:=s2) (c3:=s3) (by simp);have y0:=kr.c0; have y1:=kr.c1; have y2:=kr.c2; have y3:=kr.c3; have yf:=kr.fr;clear kr;have yl:=HM.out.lt (b:=gs) (c0:=s0) (c1:=s1) (c2:=s2) (c3:=s3) (by simp);refine aM (i:=11) (by kernel_rfl) rfl (fun K hK => ?_);go_simp;have HM':=Lib.hid (HM.out.put u0 u1 u2 u3 (by omega) (by intro r hr; simp at hr; subst hr; show w.heap.size≠gs; omega));have KK':=Lib.hid (KK.out.set4 (d:=gs) (by omega) u0 u1 u2 u3);clear HM KK;have HM:=HM';have KK:=KK';clear HM' KK';refine hK.out _ _ (Or.inl rfl) (fun _ => ?_);clear hK K;refine cW (by kernel_rfl) ?_;go_wp2_with fail
   go_roundw
   case rel=>exact⟨k+1,u0,u1,u2,u3,by omega,by go_num,hu,HVu,HM,KK⟩
   case measure=>simp[intOf]; omega
  ·obtain rfl:la=k:=by omega
   obtain⟨wo,rfl⟩:∃wo,wo=wr:=⟨_,rfl⟩
   have kr:=HM.out.row (b:=gs) (c0:=s0) (c1:=s1) (c2:=s2) (c3:=s3) (by simp);have x0:=kr.c0; have x1:=kr.c1; have x2:=kr.c2; have x3:=kr.c3;clear kr;have xl:=HM.out.lt (b:=gs) (c0:=s0) (c1:=s1) (c2:=s2) (c3:=s3) (by simp);clear hk hlt;go_wp2_with fail;refine (iJ F hok w1.heap.size s0 s1 s2 s3 hs _ KK.out).mono ?_
   rintro e w4 ⟨u0,u1,u2,u3,rfl,hu,hv,hbl⟩
   have HVu:=Lib.hid (show aD u0 u1 u2 u3=BG F.M (CD A) (CD B) la by rw[hv]; exact HV.out.2);have HM':=Lib.hid (HM.out.on hbl);clear hv hbl x0 x1 x2 x3 xl;clear HM;have HM:=HM';clear HM';have kr:=HM.out.row (b:=w.heap.size) (c0:=0) (c1:=0) (c2:=0) (c3:=0) (by simp);have y0:=kr.c0; have y1:=kr.c1; have y2:=kr.c2; have y3:=kr.c3; have yf:=kr.fr;clear kr;have yl:=HM.out.lt (b:=w.heap.size) (c0:=0) (c1:=0) (c2:=0) (c3:=0) (by simp);go_wp2_with fail;refine bodyPost_ret (v:=.tuple #[.agg #[.int .u64 u0,.int .u64 u1,.int .u64 u2,.int .u64 u3],.int .i64 0]) (by simp[results,results76,go_sem, *]) rfl ?_;refine⟨_,_,_,_,rfl,hu,HVu.out,?_⟩;exact bZ HM.out.1 (Nat.le_refl _) _ _ _ _
end Go.Proofs.YtjjnbgoepbiojaaGreat
namespace Go.Proofs.YtjjnbgoepbiojaaGreat.Ex
open Go.Proofs.Tryz
open Go.RowKit
theorem QR {w:World} {p:Option Addr} {N m:Nat} {f:Nat→Nat} (h:LV w (.slice p N m) N f) (hN:N≤65536):FIs w p N (fun j c=>fw (f j) c):=by
 obtain⟨p',m',e,h2,h3,h4⟩:=h;cases e;refine⟨by omega,fun k hk=>eI _,fun h0 => ?_⟩;obtain⟨b,o,rfl,hb,hr⟩:=h4 h0;refine⟨b,o,rfl,hb,fun k hk => ?_⟩;have hc:w.rangeAt b (o+k*4) (aB [At.q (f k)]):=(cJ hb hr hk).2;have hc:w.rangeAt b (o+k*4) [.int .u64 (fw (f k) 0:Nat),.int .u64 (fw (f k) 1:Nat),.int .u64 (fw (f k) 2:Nat),.int .u64 (fw (f k) 3:Nat)]:=hc;exact⟨hc 0 _ rfl,hc 1 _ rfl,hc 2 _ rfl,hc 3 _ rfl⟩
theorem SY {f:Nat→Nat} {j:Nat} (h:f j<bQ):CD (fun j c=>fw (f j) c) j=f j:=fW h
def CE (f g:Nat→Nat):Nat→Nat
 | 0=>0
 | n+1=>dH (CE f g n) (dF (f n) (g n))
theorem TA (f g:Nat→Nat):∀n,CE f g n<RM
 | 0=>fK
 | n+1=>gT _ _
theorem TB {f g X Y:Nat→Nat}:∀n,(∀j,j<n→X j=f j)→(∀j,j<n→Y j=g j)→BG RM X Y n=CE f g n
 | 0,_,_=>rfl
 | n+1,h1,h2=>by
  show (BG RM X Y n+X n*Y n)%RM=(CE f g n+(f n*g n)%RM)%RM;rw[TB n (fun j hj=>h1 j (by omega)) (fun j hj=>h2 j (by omega)),h1 n (by omega),h2 n (by omega),Nat.add_mod_mod]
theorem LQ {w:World} {v v2:Value} {N:Nat} {f g:Nat→Nat} (hv:LV w v N f) (hv2:LV w v2 N g) (hN:N≤65536) (hf:bD N f) (hg:bD N g):bI prog 76 (.many [.fl [.q (CE f g N)],.im (.int .i64 0)]) [.int .i64 2,v,v2] w:=by
 obtain⟨p,m,rfl,_⟩:=id hv;obtain⟨q,m2,rfl,_⟩:=id hv2;have e1:∀j,j<N→CD (fun j c=>fw (f j) c) j=f j:=fun j hj=>SY (dW (hf j hj))
 have e2:∀j,j<N→CD (fun j c=>fw (g j) c) j=g j:=fun j hj=>SY (dW (hg j hj))
 refine (Bd 2 Go.Proofs.YtjjnbgoepbiojaaGreat.FR nZ p q N m N m2 _ _ rfl hN (fun k hk=>by rw[e1 k hk]; exact hf k hk) (fun k hk=>by rw[e2 k hk]; exact hg k hk) w (QR hv hN) (QR hv2 hN)).mono ?_
 rintro e w' ⟨s0,s1,s2,s3,rfl,hs,hw,hb⟩
 rw[show BG Go.Proofs.YtjjnbgoepbiojaaGreat.FR.M _ _ N=CE f g N from TB N e1 e2]at hw;obtain⟨rfl,rfl,rfl,rfl⟩:=lS hs (dW (TA f g N)) hw;exact⟨rfl,hb⟩
def Jw (v v2:Value) (N:Nat) (f g:Nat→Nat):iP
 | [.v (.im (.int .i64 2)),.v (.im u),.v (.im t)]=>some ([u=v,t=v2],.many [.fl [.q (CE f g N)],.im (.int .i64 0)])
 | _=>none
theorem Ai {w:World} {v v2:Value} {N:Nat} {f g:Nat→Nat} (hv:LV w v N f) (hv2:LV w v2 N g) (hN:N≤65536) (hf:bD N f) (hg:bD N g):∀cs pre r,Jw v v2 N f g cs=some (pre,r)→aR pre→∀(args:List Value),cO w cs args→bI prog 76 r args w:=by
 intro cs pre r hg' hp args ha;unfold Jw at hg';split at hg'
 ·cases hg'
  match args,ha with
  | [a1,a2,a3],ha =>
   have h1:a1=.int .i64 2:=ha.1;have h2:a2=_:=ha.2.1;have h3:a3=_:=ha.2.2.1;obtain⟨rfl,rfl,_⟩:=hp;subst h1; subst h2; subst h3;exact LQ hv hv2 hN hf hg
  | [],ha=>exact ha.elim
  | [_],ha=>exact ha.2.elim
  | [_,_],ha=>exact ha.2.2.elim
  | _::_::_::_::_,ha=>exact ha.2.2.2.elim
 ·cases hg'
theorem LV.piece {w:World} {b o N m i k:Nat} {f:Nat→Nat} (h:LV w (aS b o N m) N f) (hi:i+k≤N):LV w (aS b (o+i*4) k (m-i)) k (fun j=>f (i+j)):=by
 obtain⟨p',m',e,h2,h3,h4⟩:=h;cases e;refine⟨_,_,rfl,by omega,fun j hj=>h3 _ (by omega),fun h0 => ?_⟩;obtain⟨b',o',e,hb,hr⟩:=h4 (by omega);cases e;refine⟨b,o+i*4,rfl,hb,?_⟩;have key:∀(n s:Nat),i+s+n≤N→w.rangeAt b (o+(i+s)*4) (aB (aP (el fun j=>f (i+j)) s n)):=fun n=>by
  induction n with
  | zero=>intro s _ j v hj; simp[aP,aB]at hj
  | succ n ih =>
   intro s hs j v hj;have hj:(aB (el (fun j=>f (i+j)) s++aP (el fun j=>f (i+j)) (s+1) n))[j]?=some v:=hj;rw[aN]at hj
   by_cases hj4:j<4
   ·rw[List.getElem?_append_left (by exact hj4)]at hj;exact (cJ hb hr (show i+s<N by omega)).2 j v hj
   ·rw[List.getElem?_append_right (by show 4≤j; omega)]at hj;have:=ih (s+1) (by omega) (j-4) v hj
    rwa [show o+(i+(s+1))*4+(j-4)=o+(i+s)*4+j by omega]at this
 exact key k 0 (by omega)
theorem NV {b o N m i j:Nat} (h1:i≤j) (h2:j≤m) (h3:i<m) (w:World):(Instr.sliceAt 22 (aS b o N m) (some (iI i)) (some (iI j)) none).run prog w=.ok (aS b (o+i*4) (j-i) (m-i)) w:=by
 have hmi:¬m=i:=by omega
 have hu:prog.underlying 22=some (.slice 25):=underlying22;have hs:dG prog 25=some 4:=by kernel_rfl
 simp[Instr.sliceAt,Instr.slice,run_underlying hu,Instr.sliceBounds,Instr.sliceBound,asIntOf,bG hs,Addr.add_mid,Nat.add_assoc,h1,h2,hmi,aS,iI]
 try omega
theorem XB (w:World) (b o N m l k x i b3 b5:Nat):fH prog { qG prog with x:=xO w (aE [(9,k)]) (aE [(10,[.q x])]) (aE [(5,aS b o N m),(6,iI l)]) } (cF (aE [(8,iI k)])) f74 60 [.v (.im (iI i)),.v (.im (aT b3 0)),.v (.im (aT b5 0))]=some ([oldOf w b3 0 [.c (aS b o N m)],oldOf w b5 0 [.c (iI l)],aC .sub .i64 (Int.ofNat l) (Int.ofNat i)=some (iI k),Int.ofNat k=Int.ofNat k,k<N,oldOf w b (o+k*4) [.q x],cL [.q x]=4],.one (.fl [.q x])):=by kernel_rfl
theorem LY {w:World} {b o N m i b3 b5:Nat} {f:Nat→Nat} (hv:LV w (aS b o N m) N f) (hN:N≤65536) (hi:i<N) (o3:oldOf w b3 0 [.c (aS b o N m)]) (o5:oldOf w b5 0 [.c (iI (N-1))]):bI prog 74 (.one (.fl [.q (f (N-1-i))])) [iI i,aT b3 0,aT b5 0] w:=by
 obtain⟨p',m',e,h2,h3,h4⟩:=id hv;cases e;obtain⟨b',o',e,hb,hr⟩:=h4 (by omega);cases e;exact bC aG (fun _ _=>aY.w _ _) (cE w _ _ _) func74 (XB w b o N m (N-1) (N-1-i) (f (N-1-i)) i b3 b5) ⟨o3,o5,pS (by omega) (by omega),rfl,by omega,cJ hb hr (by omega),rfl,trivial⟩ (args:=[iI i,aT b3 0,aT b5 0]) ⟨rfl,rfl,rfl,trivial⟩
def b2C (v v2:Value) (n:Nat) (f g:Nat→Nat) (num:Nat→Option Value) (_:Nat):Cfg:=⟨fun _=>dB.add 76 (Jw v v2 n f g),fun _=>true,num⟩
theorem XA (w:World) (a oa A ma t ot B mt l i fr en s1:Nat) (d d2:Int) (n:Nat) (f g:Nat→Nat) (b2 b5 b6:Nat):fH prog { qG prog with x:=xO w (fun _=>none) (fun _=>none) (aE [(11,iI l),(16,aS a oa A ma),(20,aS a oa A ma),(23,aS a (oa+fr*4) n (ma-fr)),(24,aS t ot B mt),(25,iI l),(30,iI l),(35,aS t (ot+s1*4) n (mt-s1))]) } (b2C (aS a (oa+fr*4) n (ma-fr)) (aS t (ot+s1*4) n (mt-s1)) n f g (aE [(12,iV d),(13,iI fr),(15,iI (i+1)),(18,iI en),(27,iV d2),(29,iI s1),(32,iV d2),(34,iI (s1+n))])) f75 60 [.v (.im (iI i)),.v (.im (aT b5 0)),.v (.im (aT b2 0)),.v (.im (aT b6 0))] =
  some ([oldOf w b5 0 [.c (iI l)],aC .sub .i64 (Int.ofNat i) (Int.ofNat l)=some (iV d),Value.int .i64 (if 0>d then 0 else d)=iI fr,aC .add .i64 (Int.ofNat i) 1=some (iI (i+1)),oldOf w b2 0 [.c (aS a oa A ma)],Value.int .i64 (if Int.ofNat A<Int.ofNat (i+1)then Int.ofNat A else Int.ofNat (i+1))=iI en,
   oldOf w b2 0 [.c (aS a oa A ma)],∀w:World,(Instr.sliceAt 22 (aS a oa A ma) (some (iI fr)) (some (iI en)) none).run prog w=.ok (aS a (oa+fr*4) n (ma-fr)) w,oldOf w b6 0 [.c (aS t ot B mt)],oldOf w b5 0 [.c (iI l)],aC .sub .i64 (Int.ofNat l) (Int.ofNat i)=some (iV d2),aC .add .i64 d2 (Int.ofNat fr)=some (iI s1),oldOf w b5 0 [.c (iI l)],aC .sub .i64 (Int.ofNat l) (Int.ofNat i)=some (iV d2),aC .add .i64 d2 (Int.ofNat en)=some (iI (s1+n)),
   ∀w:World,(Instr.sliceAt 22 (aS t ot B mt) (some (iI s1)) (some (iI (s1+n))) none).run prog w=.ok (aS t (ot+s1*4) n (mt-s1)) w,aS a (oa+fr*4) n (ma-fr)=aS a (oa+fr*4) n (ma-fr),aS t (ot+s1*4) n (mt-s1)=aS t (ot+s1*4) n (mt-s1)],.one (.fl [.q (CE f g n)])):=by kernel_rfl
def kQ (A:Nat) (f:Nat→Nat) (B:Nat) (g:Nat→Nat) (i:Nat):Nat:=CE (fun m=>f (i-(B-1)+m)) (fun m=>g (B-1-(B-1-i+m))) (min (i+1) A-(i-(B-1)))
theorem RH {d:Int} {a b:Nat} (h:d+(a:Int)=(b:Int)) (hb:b<9223372036854775808):aC .add .i64 d (Int.ofNat a)=some (iI b):=by
 show some (Value.int .i64 (IntKind.i64.wrap (d+(a:Int))))=_;rw[h,kC (by omega)];rfl
theorem Ef {A B i en:Nat} (he:en=if A<i+1 then A else i+1) (hi:i<A+(B-1)) (hA0:0<A) (hB0:0<B):en≤A∧en≤i+1∧i-(B-1)<en∧B-1-i+(en-(i-(B-1)))≤B∧i-(B-1)+(en-(i-(B-1)))≤A ∧
  ((B-1:Nat):Int)-(i:Int)+((i-(B-1):Nat):Int)=((B-1-i:Nat):Int)∧((B-1:Nat):Int)-(i:Int)+(en:Int)=((B-1-i+(en-(i-(B-1))):Nat):Int):=by
 have h:(en=A∧A<i+1)∨(en=i+1∧i+1≤A):=by
  by_cases q:A<i+1
  ·rw[if_pos q]at he; exact Or.inl ⟨he,q⟩
  ·rw[if_neg q]at he; exact Or.inr ⟨he,by omega⟩
 clear he;refine⟨by omega,by omega,by omega,by omega,by omega,by omega,by omega⟩
theorem LX {w:World} {v v2:Value} {A B i b2 b5 b6:Nat} {f g h:Nat→Nat} (hv:LV w v A f) (hv2:LV w v2 B h) (hA:A≤65536) (hB:B≤65536) (hf:bD A f) (hh:bD B h) (hg:∀j,j<B→h j=g (B-1-j)) (hi:i<A+(B-1)) (hA0:0<A) (hB0:0<B) (o2:oldOf w b2 0 [.c v]) (o5:oldOf w b5 0 [.c (iI (B-1))]) (o6:oldOf w b6 0 [.c v2]):bI prog 75 (.one (.fl [.q (kQ A f B g i)])) [iI i,aT b5 0,aT b2 0,aT b6 0] w:=by
 obtain⟨p,ma,rfl,hma,_,hm1⟩:=id hv;obtain⟨q,mt,rfl,hmt,_,hm2⟩:=id hv2;obtain⟨a,oa,rfl,_⟩:=hm1 hA0;obtain⟨t,ot,rfl,_⟩:=hm2 hB0;obtain⟨en,hen0⟩:∃en,min (i+1) A=en:=⟨_,rfl⟩
 have he:en=if A<i+1 then A else i+1:=by
  rw[←hen0];split
  ·exact Nat.min_eq_right (by omega)
  ·exact Nat.min_eq_left (by omega)
 obtain⟨hen,hen2,hfe,hs1,hs2,z1,z2⟩:=Ef he hi hA0 hB0;have l1:=hv.piece (w:=w) (b:=a) (o:=oa) (m:=ma) (i:=i-(B-1)) (k:=en-(i-(B-1))) hs2;have l2:=hv2.piece (w:=w) (b:=t) (o:=ot) (m:=mt) (i:=B-1-i) (k:=en-(i-(B-1))) hs1;have e2:CE (fun m=>f (i-(B-1)+m)) (fun m=>h (B-1-i+m)) (en-(i-(B-1)))=kQ A f B g i:=by
  unfold kQ;rw[hen0];clear hen0 he;have key:∀n,n≤en-(i-(B-1))→CE (fun m=>f (i-(B-1)+m)) (fun m=>h (B-1-i+m)) n=CE (fun m=>f (i-(B-1)+m)) (fun m=>g (B-1-(B-1-i+m))) n:=fun n=>by
   induction n with
   | zero=>intro _; rfl
   | succ n ih =>
    intro hn;show dH (CE _ _ n) (dF _ (h (B-1-i+n)))=dH (CE _ _ n) (dF _ (g (B-1-(B-1-i+n))));rw[ih (by omega),hg _ (by omega)]
  exact key _ (Nat.le_refl _)
 rw[←e2];have sl1:∀w:World,(Instr.sliceAt 22 (aS a oa A ma) (some (iI (i-(B-1)))) (some (iI (en))) none).run prog w=.ok (aS a (oa+(i-(B-1))*4) (en-(i-(B-1))) (ma-(i-(B-1)))) w:=NV (by omega) (by omega) (by omega)
 have sl2:∀w:World,(Instr.sliceAt 22 (aS t ot B mt) (some (iI (B-1-i))) (some (iI (B-1-i+(en-(i-(B-1)))))) none).run prog w=.ok (aS t (ot+(B-1-i)*4) (en-(i-(B-1))) (mt-(B-1-i))) w:=fun w=>by
  have:=NV (b:=t) (o:=ot) (N:=B) (m:=mt) (i:=B-1-i) (j:=B-1-i+(en-(i-(B-1)))) (by omega) (by omega) (by omega) w
  rwa [Nat.add_sub_cancel_left]at this
 have m1:Value.int .i64 (if (0:Int)>Int.ofNat i-Int.ofNat (B-1)then 0 else Int.ofNat i-Int.ofNat (B-1))=iI (i-(B-1)):=by
  have e:(if (0:Int)>Int.ofNat i-Int.ofNat (B-1)then 0 else Int.ofNat i-Int.ofNat (B-1))=Int.ofNat (i-(B-1)):=by
   show (if (0:Int)>(i:Int)-((B-1:Nat):Int)then 0 else (i:Int)-((B-1:Nat):Int))=((i-(B-1):Nat):Int);split<;>omega
  rw[e]; rfl
 have m2:Value.int .i64 (if Int.ofNat A<Int.ofNat (i+1)then Int.ofNat A else Int.ofNat (i+1))=iI (en):=by
  have e:(if Int.ofNat A<Int.ofNat (i+1)then Int.ofNat A else Int.ofNat (i+1))=Int.ofNat (en):=by
   rw[he];show (if (A:Int)<((i+1:Nat):Int)then (A:Int)else ((i+1:Nat):Int))=_;split
   ·rw[if_pos (by omega)]; rfl
   ·rw[if_neg (by omega)]; rfl
  rw[e]; rfl
 have hb1 : -9223372036854775808≤Int.ofNat i-Int.ofNat (B-1)∧Int.ofNat i-Int.ofNat (B-1)<9223372036854775808:=by simp; omega
 have hb2 : -9223372036854775808≤Int.ofNat (B-1)-Int.ofNat i∧Int.ofNat (B-1)-Int.ofNat i<9223372036854775808:=by simp; omega
 have k1:=tC hb1.1 hb1.2;have k2:=tC hb2.1 hb2.2;exact bC aG (fun _ _=>TabOkW.add (aY.w _ _) func76 (by kernel_rfl) (by kernel_rfl) fun w' hw=>Ai (l1.on hw) (l2.on hw) (by omega) (fun j hj=>hf _ (by omega)) (fun j hj=>hh _ (by omega))) (cE w _ _ _) func75
  (XA w a oa A ma t ot B mt (B-1) i (i-(B-1)) (en) (B-1-i) _ _ (en-(i-(B-1))) (fun m=>f (i-(B-1)+m)) (fun m=>h (B-1-i+m)) b2 b5 b6)
  ⟨o5,k1,m1,cX (k:=1) (by omega),o2,m2,o2,sl1,o6,o5,k2,RH z1 (Nat.lt_of_le_of_lt (Nat.le_trans (Nat.sub_le _ _) (Nat.sub_le _ _)) (Nat.lt_of_le_of_lt hB (by decide))),o5,k2,RH z2 (Nat.lt_of_le_of_lt hs1 (Nat.lt_of_le_of_lt hB (by decide))),sl2,rfl,rfl,trivial⟩ (args:=[iI i,aT b5 0,aT b2 0,aT b6 0]) ⟨rfl,rfl,rfl,rfl,trivial⟩
theorem tO (A:Nat) (f:Nat→Nat) (B:Nat) (g:Nat→Nat) (i:Nat):kQ A f B g i<RM:=TA _ _ _
def jG:Code:=(f54.body).getD .skip
def BN:Array Oper:=aK (cA (cB (cB jG)))
theorem Ci:jG=.seq (cA jG) (.seq (cA (cB jG)) (.seq (.region 2 BN false) (cB (cB (cB jG))))):=by kernel_rfl
def LU (v v2:Value):List Fact:=[.slot 2 (.pt 2 0),.row 2 true [.c v],.slot 3 (.pt 3 0),.row 3 true [.c v2]]
theorem Vz (p q:Option Addr) (N m M m2:Nat):aH prog (qG prog) f54.ntmps (cF fun _=>none) 40 (cA jG) (dX 0 [.v (.im (.slice p N m)),.v (.im (.slice q M m2))]) (LU (.slice p N m) (.slice q M m2))=some ([],.nrm,LU (.slice p N m) (.slice q M m2)):=by kernel_rfl
def TX (v v2:Value) (l:Nat):List Fact:=.slot 5 (.pt 5 0) :: .row 5 true [.c (iI l)]::LU v v2
theorem Vy (v:Value) (q:Option Addr) (M m2 l:Nat):aH prog (qG prog) f54.ntmps (cF (aE [(9,iI l)])) 40 (cA (cB jG)) (LU v (.slice q M m2)) (TX v (.slice q M m2) l)=some ([aC .sub .i64 (Int.ofNat M) 1=some (iI l)],.nrm,TX v (.slice q M m2) l):=by kernel_rfl
def UZ (b2 b3 b5:Nat):List Fact:=[.slot 2 (.im (aT b2 0)),.slot 3 (.im (aT b3 0)),.slot 5 (.im (aT b5 0))]
theorem Vx (w:World) (q:Option Addr) (M m2 b2 b3 b5:Nat) (h:Nat→Nat):cP prog { qG prog with x:=xB w (aE [(10,.slice q M m2)]) (lY.add 30 (uL 74 [aT b3 0,aT b5 0] M h)) } f54.ntmps bL (BN.extract 0 4) (UZ b2 b3 b5) (.slot 13 (.sl 13 0 M M) :: .row 13 true (aP (el h) 0 M)::UZ b2 b3 b5)=some ([oldOf w b3 0 [.c (.slice q M m2)],iI M=iI M,fG 74 [aT b3 0,aT b5 0]=fG 74 [aT b3 0,aT b5 0]],.slot 13 (.sl 13 0 M M) :: .row 13 true (aP (el h) 0 M)::UZ b2 b3 b5):=by kernel_rfl
def UY (b2 b3 b5 b13 M:Nat) (l:List At):List Fact:=.slot 6 (.pt 6 0) :: .row 6 true [.c (aS b13 0 M M)] :: .row 13 true l :: .at 13 b13::UZ b2 b3 b5
theorem Vw (b2 b3 b5 b13 M:Nat) (l:List At):cP prog (qG prog) f54.ntmps bL (BN.extract 4 6) (.slot 13 (.im (aS b13 0 M M)) :: .at 13 b13 :: .slot 13 (.sl 13 0 M M) :: .row 13 true l::UZ b2 b3 b5) (UY b2 b3 b5 b13 M l)=some ([],UY b2 b3 b5 b13 M l):=by kernel_rfl
def bsE (b2 b3 b5 b6:Nat):List Fact:=.slot 6 (.im (aT b6 0))::UZ b2 b3 b5
def bsY (n:Nat) (l:List At):List Fact:=[.slot 4 (.sl 19 0 n n),.row 19 true l]
theorem aAi (w:World) (p:Option Addr) (N m l K b2 b3 b5 b6:Nat) (h:Nat→Nat):aH prog { qG prog with x:=xB w (aE [(14,.slice p N m),(16,iI l)]) (lY.add 30 (uL 75 [aT b5 0,aT b2 0,aT b6 0] K h)) } f54.ntmps (cF (aE [(17,iI K)])) 60 (cB (cB (cB jG))) (bsE b2 b3 b5 b6) (bsY K (aP (el h) 0 K))=some ([oldOf w b2 0 [.c (.slice p N m)],oldOf w b5 0 [.c (iI l)],aC .add .i64 (Int.ofNat N) (Int.ofNat l)=some (iI K),iI K=iI K,fG 75 [aT b5 0,aT b2 0,aT b6 0]=fG 75 [aT b5 0,aT b2 0,aT b6 0]],.rt,bsY K (aP (el h) 0 K)):=by kernel_rfl
theorem TW {w0:World} {v v2:Value} {A B:Nat} {f g:Nat→Nat} (hv:LV w0 v A f) (hv2:LV w0 v2 B g) (hA:A≤65536) (hB:B≤65536) (hf:bD A f) (hg:bD B g) (hA0:0<A) (hB0:0<B):Calls prog 54 #[v,v2] w0 (fun e w'=>FR.ok ⟨aP (el (kQ A f B g)) 0 (A+(B-1)),A+(B-1),A+(B-1),[]⟩ w0 e w'):=by
 have hG:bO prog (qG prog) w0.heap.size w0:=(bE _).w _ _;have hT:∀(base:Nat) (w:World) (n d:Nat),TabOkW prog dB base w:=fun _ _ _ _=>aY.w _ _
 obtain⟨p,m,rfl,_⟩:=id hv;obtain⟨q,m2,rfl,_⟩:=id hv2;refine bP func54 (cs:=[.v (.im (.slice p A m)),.v (.im (.slice q B m2))]) (args:=[.slice p A m,.slice q B m2]) (c:=jG) rfl ⟨rfl,rfl,trivial⟩ (Nat.le_of_ble_eq_true (by kernel_rfl)) fun a w1 hA1 => ?_
 rw[Ci];refine wp_seq (aA aG (hT _ _) hG (Vz p q A m B m2) trivial hA1 fun a w1 hA1 => ?_);refine wp_seq (aA aG (hT _ _) hG (Vy _ q B m2 (B-1)) ⟨pS (i:=B) (k:=1) (by omega) (by omega),trivial⟩ hA1 fun a w1 hA1 => ?_);obtain⟨b2,hA1⟩:=hA1.at (k:=2) (l:=[.c (.slice p A m)]) (by simp[TX,LU]);obtain⟨b3,hA1⟩:=hA1.at (k:=3) (l:=[.c (.slice q B m2)]) (by simp[TX,LU]);obtain⟨b5,hA1⟩:=hA1.at (k:=5) (l:=[.c (iI (B-1))]) (by simp[TX,LU]);have o2:oldOf w1 b2 0 [.c (.slice p A m)]:=hA1.old (k:=2) (by simp[TX,LU]) (by simp);have o3:oldOf w1 b3 0 [.c (.slice q B m2)]:=hA1.old (k:=3) (by simp[TX,LU]) (by simp);have o5:oldOf w1 b5 0 [.c (iI (B-1))]:=hA1.old (k:=5) (by simp[TX,LU]) (by simp);have hF:=hA1.fresh [(2,.im (aT b2 0)),(3,.im (aT b3 0)),(5,.im (aT b5 0))] (fun z hz=>by
  simp only[List.mem_cons,List.not_mem_nil,or_false]at hz
  rcases hz with rfl|rfl|rfl
  ·exact hA1.ptr (s:=2) (k:=2) (by simp[TX,LU]) (by simp)
  ·exact hA1.ptr (s:=3) (k:=3) (by simp[TX,LU]) (by simp)
  ·exact hA1.ptr (s:=5) (k:=5) (by simp[TX,LU]) (by simp))
 have hb1:=hA1.below;have hl1:=hv.on hb1;have hl2:=hv2.on hb1;clear hA1;have hF:Holds f54.ntmps w1.heap.size w1 (UZ b2 b3 b5) a w1:=hF;refine wp_seq (bV (l:=List.range' 0 (BN.extract 0 4).size++(List.range' 4 (BN.extract 4 6).size++[])) (by kernel_rfl) ?_);refine aI (c:=bL) (hT _ _ 0) (nJ fun w' hw=>(FrAt.none _ _).add func30 (by kernel_rfl) (by kernel_rfl) (iY (by omega) (fun args w=>bF func74 (by kernel_rfl) (by kernel_rfl) args w) fun i hi w3 hw3 => ?_)) (Vx w1 q B m2 b2 b3 b5 fun i=>g (B-1-i)) ⟨o3,rfl,rfl,trivial⟩ (by kernel_rfl) hF fun a w2 hA2 => ?_
 ·have B3:=hw.trans (hw3.mono hw.size);have hl3:=hl2.on B3;obtain⟨p',m',e,h2,h3,h4⟩:=id hl3;cases e;obtain⟨bb,oo,rfl,_⟩:=h4 hB0;exact LY hl3 hB hi (oldOf.go B3 (Nat.le_refl _) o3) (oldOf.go B3 (Nat.le_refl _) o5)
 obtain⟨b13,hA2⟩:=hA2.at (k:=13) (l:=aP (el fun i=>g (B-1-i)) 0 B) (by simp);have hA2:=hA2.im (s:=13) (k:=13) (o:=0) (n:=B) (m:=B) (b:=b13) (by simp) (by simp);refine aI (c:=bL) (hT _ _ 0) ((bE _).w _ _) (Vw b2 b3 b5 b13 B _) trivial (by kernel_rfl) hA2 fun a w2 hA2 => ?_
 show (cB (cB (cB jG))).wp _ _ _ _;have o13:oldOf w2 b13 0 (aP (el fun i=>g (B-1-i)) 0 B):=hA2.old (k:=13) (by simp[UY]) (by simp[UY]);obtain⟨b6,hA2⟩:=hA2.at (k:=6) (l:=[.c (aS b13 0 B B)]) (by simp[UY]);have o6:oldOf w2 b6 0 [.c (aS b13 0 B B)]:=hA2.old (k:=6) (by simp[UY]) (by simp);have hF:=hA2.fresh [(6,.im (aT b6 0)),(2,.im (aT b2 0)),(3,.im (aT b3 0)),(5,.im (aT b5 0))] (fun z hz=>by
  simp only[List.mem_cons,List.not_mem_nil,or_false]at hz
  rcases hz with rfl|rfl|rfl|rfl
  ·exact hA2.ptr (s:=6) (k:=6) (by simp[UY]) (by simp)
  ·exact hA2.slot (v:=aT b2 0) (by simp[UY,UZ])
  ·exact hA2.slot (v:=aT b3 0) (by simp[UY,UZ])
  ·exact hA2.slot (v:=aT b5 0) (by simp[UY,UZ]))
 have hb2:=hA2.below;have hB2:=hb1.trans (hb2.mono hb1.size);have l1:=hl1.on hb2;have o2:=oldOf.go hb2 (Nat.le_refl _) o2;have o5:=oldOf.go hb2 (Nat.le_refl _) o5;have hrv:bD B fun i=>g (B-1-i):=fun j hj=>hg _ (by omega)
 have l2:LV w2 (aS b13 0 B B) B fun i=>g (B-1-i):=⟨_,_,rfl,Nat.le_refl _,fun j hj=>dW (hrv j hj),fun _=>⟨b13,0,rfl,o13.1,o13.2⟩⟩
 clear hA2;have hF:Holds f54.ntmps w2.heap.size w2 (bsE b2 b3 b5 b6) a w2:=hF;refine aA aG (hT _ _) (nJ fun w' hw=>(FrAt.none _ _).add func30 (by kernel_rfl) (by kernel_rfl) (iY (by omega) (fun args w=>bF func75 (by kernel_rfl) (by kernel_rfl) args w) fun i hi w3 hw3 => ?_)) (aAi w2 p A m (B-1) (A+(B-1)) b2 b3 b5 b6 (kQ A f B g)) ⟨o2,o5,cX (by omega),rfl,rfl,trivial⟩ hF fun a w3 hA3=>aX (dE (r:=⟨aP (el (kQ A f B g)) 0 (A+(B-1)),A+(B-1),A+(B-1),[]⟩) (by kernel_rfl) hA3) fun e w h=>h.older hB2
 have B3:=hw.trans (hw3.mono hw.size);exact LX (h:=fun i=>g (B-1-i)) (l1.on B3) (l2.on B3) hA hB hf hrv (fun j hj=>rfl) hi hA0 hB0 (oldOf.go B3 (Nat.le_refl _) o2) (oldOf.go B3 (Nat.le_refl _) o5) (oldOf.go B3 (Nat.le_refl _) o6)
theorem Sl (x y:Fin RM) (h:KR.mul x y=KR.zero):x=KR.zero∨y=KR.zero:=by
 have h1:dF x.1 y.1=0:=congrArg Fin.val h
 by_cases hx:x.1=0
 ·exact Or.inl (Fin.ext hx)
 ·by_cases hy:y.1=0
  ·exact Or.inr (Fin.ext hy)
  ·exact absurd h1 (OQ x.2 y.2 hx hy)
theorem KV:KR.one≠KR.neg KR.one:=fun h=>by
 have h1:(1:Nat)=(0+RM-1)%RM:=congrArg Fin.val h;revert h1;decide
theorem QH:∀n,nt KR KR.one n=cR n
 | 0=>GJ.symm
 | n+1=>by
  show KR.add (nt KR KR.one n) KR.one=cR (n+1);rw[QH n];exact Fin.ext (by show (n%RM+1)%RM=(n+1)%RM; rw[Nat.mod_add_mod])
theorem SL {M g x e:Nat} (hr:Root M g) (h0:0<x) (hx:x<M) (he:e=M-1):x^e%M=1:=by
 rw[he];exact Kk hr h0 hx
theorem wJ {x:Nat} (h0:x≠0) (hx:x<RM):KR.mul (cR (nQ x)) (cR x)=KR.one:=by
 have h:cR (nQ x)=bT KR (cR x) (RM-2):=by
  rw[←mA];exact Fin.ext (by show 1*x^(RM-2)%RM%RM=x^(RM-2)%RM; rw[Nat.one_mul,Nat.mod_mod])
 rw[h,show KR.mul (bT KR (cR x) (RM-2)) (cR x)=bT KR (cR x) (RM-2+1)from rfl,←mA];have key:∀e,e=RM-1→cR (x^e)=KR.one:=fun e he=>Fin.ext (SL DI (Nat.pos_of_ne_zero h0) hx he)
 exact key _ (by decide)
theorem TY {log:Nat} (h:log≤28) (h0:0<log):bT KR (cR (nQ (oR log))) (2^(log-1))=KR.neg KR.one:=by
 have h1:KR.mul (bT KR (cR (nQ (oR log))) (2^(log-1))) (KR.neg KR.one)=KR.one:=by
  rw[←nP h h0,←nS,wJ (OM h) (oS _ _),hZ]
 have h2:=congrArg (fun t=>KR.mul t (KR.neg KR.one)) h1;have h3:KR.mul (KR.neg KR.one) (KR.neg KR.one)=KR.one:=by rw[KR.neg_mul,KR.one_mul,KR.neg_neg]
 have h2:KR.mul (KR.mul (bT KR (cR (nQ (oR log))) (2^(log-1))) (KR.neg KR.one)) (KR.neg KR.one)=KR.mul KR.one (KR.neg KR.one):=h2
 rwa [KR.mul_assoc,h3,KR.mul_one,KR.one_mul]at h2
theorem uV {f:Nat→Fin RM} {x:Fin RM} {T:Nat}:∀d,(∀i,T≤i→i<T+d→f i=KR.zero)→oY KR f (T+d) x=oY KR f T x
 | 0,_=>rfl
 | d+1,h=>by
  show KR.add (oY KR f (T+d) x) (KR.mul (f (T+d)) _)=_;rw[uV d (fun i h1 h2=>h i h1 (by omega)),h (T+d) (by omega) (by omega),KR.zero_mul,KR.add_zero]
theorem yO (h:Nat→Fin RM) (s k:Nat):∀n,s+k≤n→cD KR (fun p=>if s≤p∧p-s<k then h (p-s)else KR.zero) n=cD KR h k:=fun n hn=>by
 have key:∀n,cD KR (fun p=>if s≤p∧p-s<k then h (p-s)else KR.zero) n=cD KR h (min (n-s) k):=fun n=>by
  induction n with
  | zero=>rw[Nat.zero_sub,Nat.zero_min]; rfl
  | succ n ih =>
   show KR.add (cD KR _ n) (if s≤n∧n-s<k then h (n-s)else KR.zero)=_;rw[ih]
   by_cases c:s≤n∧n-s<k
   ·rw[if_pos c,Nat.min_eq_left (show n-s≤k by omega),Nat.min_eq_left (show n+1-s≤k by omega),show n+1-s=(n-s)+1 by omega];rfl
   ·rw[if_neg c,KR.add_zero]
    by_cases c1:s≤n
    ·rw[Nat.min_eq_right (show k≤n-s by omega),Nat.min_eq_right (show k≤n+1-s by omega)]
    ·rw[show n-s=0 by omega,show n+1-s=0 by omega]
 rw[key n,Nat.min_eq_right (by omega)]
def Mf (A:Nat) (f:Nat→Nat) (B:Nat) (g:Nat→Nat) (i:Nat):Fin RM:=cD KR (fun j=>if j≤i∧i-j<B then KR.mul (cR (f j)) (cR (g (i-j)))else KR.zero) A
theorem ND (f g:Nat→Nat):∀n,cR (CE f g n)=cD KR (fun m=>KR.mul (cR (f m)) (cR (g m))) n
 | 0=>rfl
 | n+1=>by
  show cR (dH (CE f g n) (dF (f n) (g n)))=KR.add _ _;rw[qO,hJ,ND f g n]
theorem NE {A B i:Nat} {f g:Nat→Nat} (hi:i<A+(B-1)) (hA0:0<A) (hB0:0<B):cR (kQ A f B g i)=Mf A f B g i:=by
 unfold kQ Mf;obtain⟨en,hen0⟩:∃en,min (i+1) A=en:=⟨_,rfl⟩
 have he:en=if A<i+1 then A else i+1:=by
  rw[←hen0];split
  ·exact Nat.min_eq_right (by omega)
  ·exact Nat.min_eq_left (by omega)
 rw[hen0];clear hen0;obtain⟨h1,h2,h3,h4,h5,_,_⟩:=Ef he hi hA0 hB0;rw[ND,←yO (fun m=>KR.mul (cR (f (i-(B-1)+m))) (cR (g (B-1-(B-1-i+m))))) (i-(B-1)) (en-(i-(B-1))) A h5];refine bY KR A fun j hj => ?_
 have hc:(i-(B-1)≤j∧j-(i-(B-1))<en-(i-(B-1)))↔(j≤i∧i-j<B):=by
  have h:(en=A∧A<i+1)∨(en=i+1∧i+1≤A):=by
   by_cases q:A<i+1
   ·rw[if_pos q]at he; exact Or.inl ⟨he,q⟩
   ·rw[if_neg q]at he; exact Or.inr ⟨he,by omega⟩
  clear he;omega
 by_cases c:j≤i∧i-j<B
 ·have c':=hc.2 c;rw[if_pos c,if_pos c',show i-(B-1)+(j-(i-(B-1)))=j by omega,show B-1-(B-1-i+(j-(i-(B-1))))=i-j by omega]
 ·rw[if_neg c,if_neg fun q=>c (hc.1 q)]
theorem Hb (A:Nat) (f:Nat→Nat) (B:Nat) (g:Nat→Nat) (x:Fin RM) (hB0:0<B):oY KR (Mf A f B g) (A+(B-1)) x=KR.mul (oY KR (fun i=>cR (f i)) A x) (oY KR (fun i=>cR (g i)) B x):=by
 have e1:oY KR (Mf A f B g) (A+(B-1)) x=cD KR (fun p=>cD KR (fun j=>if j≤p∧p-j<B then KR.mul (KR.mul (cR (f j)) (bT KR x j)) (KR.mul (cR (g (p-j))) (bT KR x (p-j)))else KR.zero) A) (A+(B-1)):=bY KR _ fun p _=>by
  show KR.mul (cD KR _ A) (bT KR x p)=_;rw[gM];refine bY KR A fun j _ => ?_
  by_cases c:j≤p∧p-j<B
  ·rw[if_pos c,if_pos c];have hp:bT KR x p=KR.mul (bT KR x j) (bT KR x (p-j)):=by rw[←jY,show j+(p-j)=p by omega]
   rw[hp];exact mD KR (LP KR [cR (f j),cR (g (p-j)),bT KR x j,bT KR x (p-j)]) (Z0*Z1*(Z2*Z3)) (Z0*Z2*(Z1*Z3)) (by decide)
  ·rw[if_neg c,if_neg c,KR.zero_mul]
 rw[e1,oM];show _=KR.mul (cD KR _ A) _;rw[gM];refine bY KR A fun j hj => ?_
 show _=KR.mul (KR.mul (cR (f j)) (bT KR x j)) (cD KR _ B);rw[rL,←yO (fun m=>KR.mul (KR.mul (cR (f j)) (bT KR x j)) (KR.mul (cR (g m)) (bT KR x m))) j B (A+(B-1)) (by omega)]
theorem IY {A B:Nat} {f g:Nat→Nat} (hA0:0<A) (hB0:0<B) (hf:bD A f) (hg:bD B g) (h1:f (A-1)≠0) (h2:g (B-1)≠0):kQ A f B g (A+(B-1)-1)≠0:=by
 unfold kQ;rw[Nat.min_eq_right (show A≤A+(B-1)-1+1 by omega),show A+(B-1)-1-(B-1)=A-1 by omega,show A-(A-1)=1 by omega];show dH 0 (dF (f (A-1+0)) (g (B-1-(B-1-(A+(B-1)-1)+0))))≠0;rw[show A-1+0=A-1 from rfl,show B-1-(B-1-(A+(B-1)-1)+0)=B-1 by omega,sC (eB _ _)];exact OQ (hf _ (by omega)) (hg _ (by omega)) h1 h2
def UX (A:Nat) (f:Nat→Nat) (B:Nat) (g:Nat→Nat) (log i:Nat):Nat:=dF (uM (oG A f log) (2^log) (gN 1 (oR log)) log i) (uM (oG B g log) (2^log) (gN 1 (oR log)) log i)
theorem Vv {A B log:Nat} {f g:Nat→Nat} (hA0:0<A) (hB0:0<B) (hf:bD A f) (hg:bD B g) (hl:log≤16) (hn:A+(B-1)≤2^log) {j:Nat} (hj:j<2^log) :
  oH (uB (2^log) (UX A f B g log) log) (nQ (2^log)) 1 j=aU (kQ A f B g) (A+(B-1)) j:=by
 have hp2:2^log≤65536:=Nat.pow_le_pow_right (n:=2) (by omega) hl;have hp1:0<2^log:=Nat.pow_pos (by omega);have hbl:bD (2^log) (UX A f B g log):=fun i _=>eB _ _
 have hlt:aU (kQ A f B g) (A+(B-1)) j<RM:=nV fun i _=>tO _ _ _ _ _
 refine vU (eB _ _) hlt ?_;unfold oH uB;rw[Tx (f:=UX A f B g log) (fun h0=>TY (by omega) h0) hl (Nat.le_refl _) hbl hj,hJ,GH,nL,nL,GI,KR.one_mul,hZ,KR.mul_one];have hv:∀i,i<2^log→cR (UX A f B g log i)=oY KR (fun m=>cR (aU (kQ A f B g) (A+(B-1)) m)) (2^log) (bT KR (cR (oR log)) i):=fun i hi=>by
  unfold UX;rw[hJ,EY (fun h0=>nP (by omega) h0) hl (by omega) hi,EY (fun h0=>nP (by omega) h0) hl (by omega) hi,←Hb A f B g _ hB0];obtain⟨d,hd⟩:∃d,2^log=A+(B-1)+d:=⟨2^log-(A+(B-1)),by omega⟩
  rw[hd,uV d fun m h1 h2=>by unfold aU; rw[if_neg (by omega),GJ]];refine mF KR _ fun m hm => ?_
  unfold aU;rw[if_pos hm,NE hm hA0 hB0]
 rw[mF KR (bT KR (cR (nQ (oR log))) j) hv];exact aAj KR Sl KV rfl (fun h0=>nP (by omega) h0) (OL (by omega)) (wJ (OM (by omega)) (oS _ _)) (by rw[QH,wJ (by omega) (Nat.lt_of_le_of_lt hp2 (by decide))]) (fun m=>cR (aU (kQ A f B g) (A+(B-1)) m)) hj
def GP (f g:Nat→Nat) (F:Nat→Nat) (i:Nat):Nat→Nat→Nat
 | 0=>F
 | k+1=>cN (GP f g F i k) (i+k) (dH (GP f g F i k (i+k)) (dF (f i) (g k)))
def UU (f g:Nat→Nat) (B:Nat):Nat→Nat→Nat
 | 0=>fun _=>0
 | i+1=>GP f g (UU f g B i) i B
theorem DN {f g F:Nat→Nat} {N i:Nat} (h:bD N F):∀k,bD N (GP f g F i k)
 | 0=>h
 | k+1=>fun j hj=>by
  unfold GP cN;split
  ·exact gT _ _
  ·exact DN h k j hj
theorem DM (f g:Nat→Nat) (B N:Nat):∀i,bD N (UU f g B i)
 | 0=>fun _ _=>fK
 | i+1=>DN (DM f g B N i) B
theorem vT (f g F:Nat→Nat) (i p:Nat):∀k,cR (GP f g F i k p)=KR.add (cR (F p)) (if i≤p∧p-i<k then KR.mul (cR (f i)) (cR (g (p-i)))else KR.zero)
 | 0=>by rw[if_neg (by omega),KR.add_zero]; rfl
 | k+1=>by
  show cR (cN (GP f g F i k) (i+k) _ p)=_;unfold cN
  by_cases e:p=i+k
  ·rw[if_pos e,qO,hJ,←e,vT f g F i p k,if_neg (by omega),KR.add_zero,if_pos (by omega),show p-i=k by omega]
  ·rw[if_neg e,vT f g F i p k]
   by_cases c:i≤p∧p-i<k
   ·rw[if_pos c,if_pos (by omega)]
   ·rw[if_neg c,if_neg (by omega)]
theorem GG (f g:Nat→Nat) (B p:Nat):∀i,cR (UU f g B i p)=Mf i f B g p
 | 0=>rfl
 | i+1=>by
  show cR (GP f g (UU f g B i) i B p)=KR.add (Mf i f B g p) _;rw[vT,GG f g B p i]
theorem Oq {A B p:Nat} {f g:Nat→Nat} (hp:p<A+(B-1)) (hA0:0<A) (hB0:0<B):UU f g B A p=kQ A f B g p :=
 vU (DM f g B (p+1) A p (Nat.lt_succ_self p)) (tO _ _ _ _ _) (by rw[GG,NE hp hA0 hB0])
theorem Fo (y S:Nat):fH prog (qG prog) (fun _=>⟨fun _=>dB.add 99 (fun cs=>match cs with|[.v (.im (.int .u64 (.ofNat n)))]=>some ([n=y],.one (.im (iI S)))|_=>none),fun _=>true,fun _=>none⟩) f77 60 [.v (.im (.int .u64 (Int.ofNat y)))]=some ([y=y],.one (.im (iI S))):=by kernel_rfl
theorem Ig {y:Nat} (h0:0<y) (hy:y<18446744073709551616):∃S:Nat,S≤64∧LenIs y S∧∀w,bI prog 77 (.one (.im (iI S))) [.int .u64 (Int.ofNat y)] w:=by
 obtain⟨S,h1,h2,h3⟩:=BC h0 hy;refine⟨S,h2,h3.out,fun w => ?_⟩;refine bC aG (fun _ _=>TabOkW.add (aY.w _ _) func99 (by kernel_rfl) (by kernel_rfl) fun w' hw cs pre r hg hp args ha => ?_) ((bE _).w _ _) func77 (Fo y S) ⟨rfl,trivial⟩ (args:=[.int .u64 (Int.ofNat y)]) ⟨rfl,trivial⟩;split at hg
 ·cases hg
  match args,ha with
  | [a1],ha =>
   have e1:a1=_:=ha.1;obtain⟨rfl,_⟩:=hp;subst e1;refine (h1 w').mono ?_
   rintro e w2 ⟨rfl,rfl⟩
   exact⟨rfl,Below.refl _ _⟩
  | [],ha=>exact ha.elim
  | _::_::_,ha=>exact ha.2.elim
 ·cases hg
def Jo (y S:Nat):iP
 | [.v (.im (.int .u64 (.ofNat n)))]=>some ([n=y],.one (.im (iI S)))
 | _=>none
theorem Ab {y S:Nat} (h:∀w,bI prog 77 (.one (.im (iI S))) [.int .u64 (Int.ofNat y)] w):∀cs pre r,Jo y S cs=some (pre,r)→aR pre→∀(args:List Value) (w:World),cO w cs args→bI prog 77 r args w:=by
 intro cs pre r hg hp args w ha;unfold Jo at hg;split at hg
 ·cases hg
  match args,ha with
  | [a1],ha =>
   have e1:a1=_:=ha.1;obtain⟨rfl,_⟩:=hp;subst e1;exact h w
  | [],ha=>exact ha.elim
  | _::_::_,ha=>exact ha.2.elim
 ·cases hg
def Iz (N:Nat) (f:Nat→Nat):List CA→Option (List Prop×FR)
 | [.s ul un um,.v (.im (.int .i64 (.ofNat log)))]=>some ([aB ul=aB (aP (el f) 0 N),un=N,N≤um,bD N f,log≤16],⟨aP (el (uB N f log)) 0 (2^log),2^log,2^log,[]⟩)
 | _=>none
theorem ZS {w:World} {N:Nat} {f:Nat→Nat}:∀cs pre r,Iz N f cs=some (pre,r)→aR pre→∀(args:List Value),cO w cs args→Calls prog 79 args.toArray w (fun e w'=>r.ok w e w'):=by
 intro cs pre r hg hp args ha;unfold Iz at hg;split at hg
 ·rename_i ul un um log;cases hg
  match args,ha with
  | [a1,a2],ha =>
   have h1:=ha.1;have h2:a2=iI log:=ha.2.1;subst h2;obtain⟨p1,p2,p3,p4,p5,_⟩:=hp;exact NU (LV.ofS h1 p1 p2 p3 fun j hj=>dW (p4 j hj)) p4 p5
  | [],ha=>exact ha.elim
  | [_],ha=>exact ha.2.elim
  | _::_::_::_,ha=>exact ha.2.2.elim
 ·cases hg
theorem WZ (w:World) (b N m b' N' m' i x y b6 b7:Nat):fH prog { qG prog with x:=xO w (aE [(7,i),(11,i)]) (aE [(8,[.q x]),(12,[.q y])]) (aE [(5,aS b 0 N m),(9,aS b' 0 N' m')]) } (cF fun _=>none) f78 60 [.v (.im (iI i)),.v (.im (aT b6 0)),.v (.im (aT b7 0))]=some ([oldOf w b6 0 [.c (aS b 0 N m)],Int.ofNat i=Int.ofNat i,i<N,oldOf w b (0+i*4) [.q x],cL [.q x]=4,oldOf w b7 0 [.c (aS b' 0 N' m')],Int.ofNat i=Int.ofNat i,i<N',oldOf w b' (0+i*4) [.q y],cL [.q y]=4,x<RM,y<RM],.one (.fl [.q (dF x y)])):=by kernel_rfl
def iM:Code:=(f55.body).getD .skip
def tV:Array Oper:=aK (cA (cB (cB iM)))
theorem Ch:iM=.seq (cA iM) (.seq (cA (cB iM)) (.seq (.region 2 tV false) (.seq (cA (cB (cB (cB iM)))) (cB (cB (cB (cB iM))))))):=by kernel_rfl
def Xh (v v2:Value) (S:Nat):List Fact:=[.slot 0 (.im v),.slot 1 (.im v2),.slot 5 (.im (iI S))]
theorem Vu (v v2:Value):aH prog (qG prog) f55.ntmps (cF fun _=>none) 40 (cA iM) (dX 0 [.v (.im v),.v (.im v2)]) [.slot 0 (.im v),.slot 1 (.im v2)]=some ([],.nrm,[.slot 0 (.im v),.slot 1 (.im v2)]):=by kernel_rfl
theorem Vt (p q:Option Addr) (A m B m2 n y S:Nat):aH prog { qG prog with x:=xG (aE [(15,.int .u64 (Int.ofNat y))]) } f55.ntmps (fun _=>⟨fun _=>dB.add 77 (Jo y S),fun _=>true,aE [(13,iI n),(14,iI y)]⟩) 60 (cA (cB iM)) [.slot 0 (.im (.slice p A m)),.slot 1 (.im (.slice q B m2))] (Xh (.slice p A m) (.slice q B m2) S)=some ([aC .add .i64 (Int.ofNat A) (Int.ofNat B)=some (iI n),aC .sub .i64 (Int.ofNat n) 2=some (iI y),∀w:World,(convert 3 95 (iI y)).run prog w=.ok (.int .u64 (Int.ofNat y)) w,y=y],.nrm,Xh (.slice p A m) (.slice q B m2) S):=by kernel_rfl
def bvB (v v2:Value) (S n:Nat) (l:List At):List Fact:=.slot 21 (.sl 21 0 n n) :: .row 21 true l::Xh v v2 S
def tfE (v:Value) (N:Nat) (f:Nat→Nat):EqT:={ qG prog with x:=FY (lY.add 58 (ZR v N f)) }
def IS (A:Nat) (f:Nat→Nat) (S:Nat):Nat→Nat:=uM (oG A f S) (2^S) (gN 1 (oR S)) S
theorem Vs (v v2:Value) (A S:Nat) (f:Nat→Nat):cP prog (tfE v A f) f55.ntmps XE (tV.extract 0 5) (Xh v v2 S) (bvB v v2 S (2^S) (aP (el (IS A f S)) 0 (2^S)))=some ([S<9223372036854775808,v=v,S≤16,oR S<RM],bvB v v2 S (2^S) (aP (el (IS A f S)) 0 (2^S))):=by kernel_rfl
def Lh (v2:Value) (S n:Nat) (l l2:List At):List Fact:=[.slot 26 (.sl 26 0 n n),.row 26 true l2,.slot 21 (.sl 21 0 n n),.row 21 true l,.slot 5 (.im (iI S))]
theorem Vr (v v2:Value) (B S:Nat) (g:Nat→Nat) (l:List At):cP prog (tfE v2 B g) f55.ntmps XE (tV.extract 5 10) (bvB v v2 S (2^S) l) (Lh v2 S (2^S) l (aP (el (IS B g S)) 0 (2^S)))=some ([S<9223372036854775808,v2=v2,S≤16,oR S<RM],Lh v2 S (2^S) l (aP (el (IS B g S)) 0 (2^S))):=by kernel_rfl
def LT (S n b21 b26:Nat) (l l2:List At):List Fact:=[.slot 6 (.pt 6 0),.row 6 true [.c (aS b21 0 n n)],.slot 7 (.pt 7 0),.row 7 true [.c (aS b26 0 n n)],.row 26 true l2,.at 26 b26,.row 21 true l,.at 21 b21,.slot 5 (.im (iI S))]
theorem Vq (S n b21 b26:Nat) (l l2:List At):cP prog (qG prog) f55.ntmps bL (tV.extract 10 14) [.slot 21 (.im (aS b21 0 n n)),.slot 26 (.im (aS b26 0 n n)),.row 26 true l2,.at 26 b26,.row 21 true l,.at 21 b21,.slot 5 (.im (iI S))] (LT S n b21 b26 l l2)=some ([],LT S n b21 b26 l l2):=by kernel_rfl
def bvE (S b6 b7:Nat):List Fact:=[.slot 6 (.im (aT b6 0)),.slot 7 (.im (aT b7 0)),.slot 5 (.im (iI S))]
def bvF (S n:Nat) (l:List At):List Fact:=[.slot 8 (.sl 30 0 n n),.row 30 true l,.slot 5 (.im (iI S))]
theorem Vp (w:World) (S b6 b7:Nat) (h:Nat→Nat):aH prog { qG prog with x:=xB w (aE [(28,iI (2^S))]) (lY.add 30 (uL 78 [aT b6 0,aT b7 0] (2^S) h)) } f55.ntmps (cF fun _=>none) 60 (cA (cB (cB (cB iM)))) (bvE S b6 b7) (bvF S (2^S) (aP (el h) 0 (2^S)))=some ([dY .shl 3 (.const (iI 1)) (.tmp 27) (iI 1) (iI S) (iI (2^S)),iI (2^S)=iI (2^S),fG 78 [aT b6 0,aT b7 0]=fG 78 [aT b6 0,aT b7 0]],.nrm,bvF S (2^S) (aP (el h) 0 (2^S))):=by kernel_rfl
def aAr (n:Nat) (h F G:Nat→Nat):Tab2:=((lY.add 79 (Iz n h)).add 59 (Ip n F)).add 29 (RR n G)
def bvY (n:Nat) (l:List At):List Fact:=[.slot 4 (.sl 38 0 n n),.row 38 true l]
theorem aAf (S:Nat) (h:Nat→Nat):aH prog { qG prog with x:=FY (aAr (2^S) h (uB (2^S) h S) (oH (uB (2^S) h S) (nQ (2^S)) 1)) } f55.ntmps shC 60 (cB (cB (cB (cB iM)))) (bvF S (2^S) (aP (el h) 0 (2^S))) (bvY (aF (oH (uB (2^S) h S) (nQ (2^S)) 1) (2^S)) (aP (el (oH (uB (2^S) h S) (nQ (2^S)) 1)) 0 (aF (oH (uB (2^S) h S) (nQ (2^S)) 1) (2^S)))) =
  some ([aB (aP (el h) 0 (2^S))=aB (aP (el h) 0 (2^S)),2^S=2^S,2^S≤2^S,bD (2^S) h,S≤16,S≤28,aB (aP (el (uB (2^S) h S)) 0 (2^S))=aB (aP (el (uB (2^S) h S)) 0 (2^S)),2^S=2^S,2^S≤2^S,bD (2^S) (uB (2^S) h S),2^S≤131072,nQ (2^S)<RM,1<RM,
   aB (aP (el (oH (uB (2^S) h S) (nQ (2^S)) 1)) 0 (2^S))=aB (aP (el (oH (uB (2^S) h S) (nQ (2^S)) 1)) 0 (2^S)),2^S=2^S,2^S≤2^S,bD (2^S) (oH (uB (2^S) h S) (nQ (2^S)) 1),2^S≤131072],.rt,bvY (aF (oH (uB (2^S) h S) (nQ (2^S)) 1) (2^S)) (aP (el (oH (uB (2^S) h S) (nQ (2^S)) 1)) 0 (aF (oH (uB (2^S) h S) (nQ (2^S)) 1) (2^S)))):=by kernel_rfl
theorem Bn {i:Nat} (h:i<18446744073709551616) (w:World):(convert 3 95 (iI i)).run prog w=.ok (.int .u64 (Int.ofNat i)) w:=by
 have e:(i:Int)%18446744073709551616=i:=by omega
 simp[convert,go_sem,iI,IntKind.wrap,IntKind.signed,IntKind.bits,e]
theorem TU {w0:World} {v v2:Value} {A B:Nat} {f g:Nat→Nat} (hv:LV w0 v A f) (hv2:LV w0 v2 B g) (hAB:A+(B-1)≤65536) (hf:bD A f) (hg:bD B g) (hA0:0<A) (hB0:0<B) (h3:2<A+B) (l1:f (A-1)≠0) (l2:g (B-1)≠0):Calls prog 55 #[v,v2] w0 (fun e w'=>FR.ok ⟨aP (el (kQ A f B g)) 0 (A+(B-1)),A+(B-1),A+(B-1),[]⟩ w0 e w'):=by
 have hG:bO prog (qG prog) w0.heap.size w0:=(bE _).w _ _;have hT:∀(base:Nat) (w:World) (n d:Nat),TabOkW prog dB base w:=fun _ _ _ _=>aY.w _ _
 have hR:∀(base:Nat) (w:World) (d:Nat),TabOkW prog yC base w:=fun _ _ _=>pR.w _ _
 obtain⟨p,m,rfl,hx⟩:=id hv;obtain⟨q,m2,rfl,hx2⟩:=id hv2;clear hx hx2;obtain⟨S,hS64,hS,hlen⟩:=Ig (y:=A+B-2) (by omega) (by omega);obtain⟨s1,s2⟩:=hS;have hS16:S≤16:=by
  rcases Nat.lt_or_ge 16 S with c|c
  ·exfalso;have:=s2 (by omega);have h17:2^16≤2^(S-1):=Nat.pow_le_pow_right (by omega) (by omega);omega
  ·exact c
 have hn:A+(B-1)≤2^S:=by omega
 have hp2:2^S≤65536:=Nat.pow_le_pow_right (n:=2) (by omega) hS16;have hw:=oS 5 ((RM-1)/2^S);refine bP func55 (cs:=[.v (.im (.slice p A m)),.v (.im (.slice q B m2))]) (args:=[.slice p A m,.slice q B m2]) (c:=iM) rfl ⟨rfl,rfl,trivial⟩ (Nat.le_of_ble_eq_true (by kernel_rfl)) fun a w1 hA => ?_
 rw[Ch];refine wp_seq (aA aG (hT _ _) hG (Vu _ _) trivial hA fun a w1 hA => ?_);refine wp_seq (aA aG (fun _ _=>(aY.add func77 (by kernel_rfl) (by kernel_rfl) (Ab hlen)).w _ _) (mL _ _ _) (Vt p q A m B m2 (A+B) (A+B-2) S) ⟨cX (by omega),pS (k:=2) (by omega) (by omega),fun w=>Bn (by omega) w,rfl,trivial⟩ hA fun a w1 hA => ?_);refine wp_seq (bV (l:=List.range' 0 (tV.extract 0 5).size++(List.range' 5 (tV.extract 5 10).size++(List.range' 10 (tV.extract 10 14).size++[]))) (by kernel_rfl) ?_);refine aI (c:=XE) (hR _ _) (fS fun w' hw=>(FrAt.none _ _).add func58 (by kernel_rfl) (by kernel_rfl) (xF (hv.on hw) hf)) (Vs _ _ A S f) ⟨by omega,rfl,hS16,hw,trivial⟩ (by kernel_rfl) hA fun a w1 hA => ?_
 refine aI (c:=XE) (hR _ _) (fS fun w' hw=>(FrAt.none _ _).add func58 (by kernel_rfl) (by kernel_rfl) (xF (hv2.on hw) hg)) (Vr _ _ B S g _) ⟨by omega,rfl,hS16,hw,trivial⟩ (by kernel_rfl) hA fun a w1 hA => ?_
 obtain⟨b21,hA⟩:=hA.at (k:=21) (l:=aP (el (IS A f S)) 0 (2^S)) (by simp[Lh]);obtain⟨b26,hA⟩:=hA.at (k:=26) (l:=aP (el (IS B g S)) 0 (2^S)) (by simp[Lh]);have hA:=hA.im (s:=26) (k:=26) (o:=0) (n:=2^S) (m:=2^S) (b:=b26) (by simp[Lh]) (by simp);have hA:=hA.im (s:=21) (k:=21) (o:=0) (n:=2^S) (m:=2^S) (b:=b21) (by simp[Lh]) (by simp);have hA:Holds f55.ntmps w0.heap.size w0 [.slot 21 (.im (aS b21 0 (2^S) (2^S))),.slot 26 (.im (aS b26 0 (2^S) (2^S))),.row 26 true (aP (el (IS B g S)) 0 (2^S)),.at 26 b26,.row 21 true (aP (el (IS A f S)) 0 (2^S)),.at 21 b21,.slot 5 (.im (iI S))] a w1:=hA.sub (by simp[Lh]);refine aI (c:=bL) (hT _ _ 0) hG (Vq S (2^S) b21 b26 _ _) trivial (by kernel_rfl) hA fun a w2 hA => ?_
 show (Code.seq _ _).wp _ _ _ _;obtain⟨b6,hA⟩:=hA.at (k:=6) (l:=[.c (aS b21 0 (2^S) (2^S))]) (by simp[LT]);obtain⟨b7,hA⟩:=hA.at (k:=7) (l:=[.c (aS b26 0 (2^S) (2^S))]) (by simp[LT]);have o6:oldOf w2 b6 0 [.c (aS b21 0 (2^S) (2^S))]:=hA.old (k:=6) (by simp[LT]) (by simp);have o7:oldOf w2 b7 0 [.c (aS b26 0 (2^S) (2^S))]:=hA.old (k:=7) (by simp[LT]) (by simp);have o21:oldOf w2 b21 0 (aP (el (IS A f S)) 0 (2^S)):=hA.old (k:=21) (by simp[LT]) (by simp[LT]);have o26:oldOf w2 b26 0 (aP (el (IS B g S)) 0 (2^S)):=hA.old (k:=26) (by simp[LT]) (by simp[LT]);have hF:=hA.fresh [(6,.im (aT b6 0)),(7,.im (aT b7 0)),(5,.im (iI S))] (fun z hz=>by
  simp only[List.mem_cons,List.not_mem_nil,or_false]at hz
  rcases hz with rfl|rfl|rfl
  ·exact hA.ptr (s:=6) (k:=6) (by simp[LT]) (by simp)
  ·exact hA.ptr (s:=7) (k:=7) (by simp[LT]) (by simp)
  ·exact hA.slot (v:=iI S) (by simp[LT]))
 have hb:=hA.below;clear hA;have hF:Holds f55.ntmps w2.heap.size w2 (bvE S b6 b7) a w2:=hF;have hfl:bD (2^S) (IS A f S):=pF (NI hf _) S;have hgl:bD (2^S) (IS B g S):=pF (NI hg _) S;have hbl:bD (2^S) (UX A f B g S):=fun i _=>eB _ _
 refine wp_seq (aA aG (hT _ _) (nJ fun w' hw=>(FrAt.none _ _).add func30 (by kernel_rfl) (by kernel_rfl) (iY (by omega) (fun args w=>bF func78 (by kernel_rfl) (by kernel_rfl) args w) fun i hi w3 hw3 => ?_)) (Vp w2 S b6 b7 (UX A f B g S)) ⟨nN (by omega),rfl,rfl,trivial⟩ hF fun a w3 hA => ?_)
 ·have B3:=hw.trans (hw3.mono hw.size);have q6:=oldOf.go B3 (Nat.le_refl _) o6;have q7:=oldOf.go B3 (Nat.le_refl _) o7;have q21:=oldOf.go B3 (Nat.le_refl _) o21;have q26:=oldOf.go B3 (Nat.le_refl _) o26;exact bC aG (fun _ _=>aY.w _ _) (cE w3 _ _ _) func78 (WZ w3 b21 (2^S) (2^S) b26 (2^S) (2^S) i (IS A f S i) (IS B g S i) b6 b7) ⟨q6,rfl,hi,cJ q21.1 q21.2 hi,rfl,q7,rfl,hi,cJ q26.1 q26.2 hi,rfl,hfl i hi,hgl i hi,trivial⟩ (args:=[iI i,aT b6 0,aT b7 0]) ⟨rfl,rfl,rfl,trivial⟩
 have hbv:=fun j (hj:j<2^S)=>Vv hA0 hB0 hf hg hS16 hn hj
 have htl:aF (oH (uB (2^S) (UX A f B g S) S) (nQ (2^S)) 1) (2^S)=A+(B-1):=by
  refine oK hn (fun j h1 h2 => ?_) fun h0 => ?_
  ·rw[hbv j h2]; unfold aU; rw[if_neg (by omega)]
  ·rw[hbv _ (by omega)]; unfold aU; rw[if_pos (by omega)];exact IY hA0 hB0 hf hg l1 l2
 refine aA aG (fun _ _=>Qg.w _ _) (fS fun w' hw=>(((FrAt.none _ _).add func79 (by kernel_rfl) (by kernel_rfl) fun cs pre r h1 h2 args ha=>ZS (w:=w') cs pre r h1 h2 args ha).add func59 (by kernel_rfl) (by kernel_rfl) fun cs pre r h1 h2 args ha=>ZI cs pre r h1 h2 args w' ha).add func29 (by kernel_rfl) (by kernel_rfl) fun cs pre r h1 h2 args ha=>xC cs pre r h1 h2 args w' ha) (aAf S (UX A f B g S)) ⟨rfl,rfl,Nat.le_refl _,hbl,hS16,by omega,rfl,rfl,Nat.le_refl _,Nr hbl _,by omega,DJ _,DL,rfl,rfl,Nat.le_refl _,fun j _=>eB _ _,by omega,trivial⟩ hA fun a w3 hA => ?_
 rw[htl,show aP (el (oH (uB (2^S) (UX A f B g S) S) (nQ (2^S)) 1)) 0 (A+(B-1))=aP (el (kQ A f B g)) 0 (A+(B-1))from rD _ 0 fun j hj=>by rw[Nat.zero_add,hbv j (by omega)]; unfold aU; rw[if_pos hj]]at hA;exact aX (dE (r:=⟨aP (el (kQ A f B g)) 0 (A+(B-1)),A+(B-1),A+(B-1),[]⟩) (by kernel_rfl) hA) fun e w h=>h.older hb
end Go.Proofs.YtjjnbgoepbiojaaGreat.Ex
