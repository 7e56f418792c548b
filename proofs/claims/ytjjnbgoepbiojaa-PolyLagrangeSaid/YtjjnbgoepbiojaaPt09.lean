/- Pt09 -/
import Derived.Test.YtjjnbgoepbiojaaPt08
import Derived.Test.YtjjnbgoepbiojaaPt00
import Derived.Test.YtjjnbgoepbiojaaPt06
import Derived.Test.YtjjnbgoepbiojaaPt03
import Derived.Test.YtjjnbgoepbiojaaProg
set_option maxRecDepth 100000
set_option linter.unusedVariables false
set_option linter.unusedSimpArgs false
set_option linter.unnecessarySimpa false
noncomputable section
namespace Go.Proofs.Ytjjnbgoepbiojaa.Ex
open Go.Proofs.Try
open Go.RowKit
def BT (v u:Value):List Fact:=[.slot 0 (.im v),.slot 1 (.im u)]
def RL (v u:Value) (i:Nat):List Fact:=.slot 5 (.im (iI i))::BT v u
def zC (v u:Value) (i:Nat):List Fact:=.slot 6 (.im (iI i))::BT v u
def RK (v u:Value) (i k:Nat):List Fact:=.slot 7 (.im (iI k))::zC v u i
def MV (v u:Value) (i:Nat):List Fact:=.slot 8 (.im (iI i))::BT v u
def LR (e:Int):List Fact:=[.slot 4 (.im (.int .i64 e))]
def fG:Code:=(f38.body).getD .skip
def RJ:Code:=gH (gH (cB (cA (cB fG))))
def rF:Code:=gH (gH (cB (cA (cB (cB fG)))))
def RI:Code:=gH (gH (cB (gH (cA (cB rF)))))
def LS:Code:=gH (gH (cB (cA (cB (cB (cB fG))))))
theorem YX:fG=.seq (cA fG) (.seq (.seq (cA (cA (cB fG))) (.block 0 (.loop RJ))) (.seq (.seq (cA (cA (cB (cB fG)))) (.block 2 (.loop rF))) (.seq (.seq (cA (cA (cB (cB (cB fG))))) (.block 6 (.loop LS))) (cB (cB (cB (cB fG))))))):=by kernel_rfl
theorem RH:rF=.seq (cA rF) (.seq (.block 3 (.seq (cA (gH (cA (cB rF)))) (.block 4 (.loop RI)))) (cB (cB rF))):=by kernel_rfl
theorem Tc (v u:Value):aH prog (qG prog) f38.ntmps (oU true fun _=>none) 40 (cA fG) (eF 0 [.v (.im v),.v (.im u)]) (BT v u)=some ([],.nrm,BT v u):=by kernel_rfl
theorem Tb (v u:Value):aH prog (qG prog) f38.ntmps (oU true fun _=>none) 40 (cA (cA (cB fG))) (BT v u) (RL v u 0)=some ([],.nrm,RL v u 0):=by kernel_rfl
theorem Td (w:World) (b o K m i:Nat) (p:Option Addr) (n' m':Nat) (u:Value):aH prog { qG prog with x:=xO w (aE [(17,i)]) (fun _=>none) (aE [(18,.slice p n' m')]) } f38.ntmps (oU true (aE [(12,.bool true),(20,.bool false),(14,iI (i+1))])) 40 RJ (RL (aZ b o K m) u i) (RL (aZ b o K m) u (i+1))=some ([aD .lss .i64 (Int.ofNat i) (Int.ofNat K)=some (.bool true),Int.ofNat i=Int.ofNat i,i<K,oldOf w b (o+i*1) [.c (.slice p n' m')],aD .gtr .i64 (Int.ofNat n') 65536=some (.bool false),aD .add .i64 (Int.ofNat i) 1=some (iI (i+1))],.nrm,RL (aZ b o K m) u (i+1)):=by kernel_rfl
theorem Tm (w:World) (b o K m i:Nat) (p:Option Addr) (n' m':Nat) (u:Value):aH prog { qG prog with x:=xO w (aE [(17,i)]) (fun _=>none) (aE [(18,.slice p n' m')]) } f38.ntmps (oU true (aE [(12,.bool true),(20,.bool true)])) 40 RJ (RL (aZ b o K m) u i) (LR 72)=some ([aD .lss .i64 (Int.ofNat i) (Int.ofNat K)=some (.bool true),Int.ofNat i=Int.ofNat i,i<K,oldOf w b (o+i*1) [.c (.slice p n' m')],aD .gtr .i64 (Int.ofNat n') 65536=some (.bool true)],.rt,LR 72):=by kernel_rfl
theorem Tl (p:Option Addr) (K m i:Nat) (u:Value):aH prog (qG prog) f38.ntmps (oU true (aE [(12,.bool false)])) 40 RJ (RL (.slice p K m) u i) (BT (.slice p K m) u)=some ([aD .lss .i64 (Int.ofNat i) (Int.ofNat K)=some (.bool false)],.ex 0,BT (.slice p K m) u):=by kernel_rfl
theorem Ta (v u:Value):aH prog (qG prog) f38.ntmps (oU true fun _=>none) 40 (cA (cA (cB (cB fG)))) (BT v u) (zC v u 0)=some ([],.nrm,zC v u 0):=by kernel_rfl
theorem Du (p:Option Addr) (K m i:Nat) (u:Value):aH prog (qG prog) f38.ntmps (oU true (aE [(24,.bool true)])) 40 (cA rF) (zC (.slice p K m) u i) (zC (.slice p K m) u i)=some ([aD .lss .i64 (Int.ofNat i) (Int.ofNat K)=some (.bool true)],.nrm,zC (.slice p K m) u i):=by kernel_rfl
theorem Tk (p:Option Addr) (K m i:Nat) (u:Value):aH prog (qG prog) f38.ntmps (oU true (aE [(24,.bool false)])) 40 (cA rF) (zC (.slice p K m) u i) (BT (.slice p K m) u)=some ([aD .lss .i64 (Int.ofNat i) (Int.ofNat K)=some (.bool false)],.ex 2,BT (.slice p K m) u):=by kernel_rfl
theorem Dt (v u:Value) (i:Nat):aH prog (qG prog) f38.ntmps (oU true fun _=>none) 40 (cA (gH (cA (cB rF)))) (zC v u i) (RK v u i 0)=some ([],.nrm,RK v u i 0):=by kernel_rfl
theorem Tg (w:World) (b o K m i b' o' n' m' k x:Nat) (u:Value):aH prog { qG prog with x:=xO w (aE [(30,i),(38,i),(41,k)]) (aE [(42,[.q x])]) (aE [(31,aZ b' o' n' m'),(39,aZ b' o' n' m')]) } f38.ntmps (oU true (aE [(33,.bool true),(44,.bool false),(35,iI (k+1))])) 60 RI (RK (aZ b o K m) u i k) (RK (aZ b o K m) u i (k+1))=some ([Int.ofNat i=Int.ofNat i,i<K,oldOf w b (o+i*1) [.c (aZ b' o' n' m')],aD .lss .i64 (Int.ofNat k) (Int.ofNat n')=some (.bool true),Int.ofNat i=Int.ofNat i,i<K,oldOf w b (o+i*1) [.c (aZ b' o' n' m')],Int.ofNat k=Int.ofNat k,k<n',oldOf w b' (o'+k*4) [.q x],cR [.q x]=4,x<aT,Value.bool (!decide (x<RM))=.bool false,aD .add .i64 (Int.ofNat k) 1=some (iI (k+1))],.nrm,RK (aZ b o K m) u i (k+1)):=by kernel_rfl
theorem Ti (w:World) (b o K m i b' o' n' m' k x:Nat) (u:Value):aH prog { qG prog with x:=xO w (aE [(30,i),(38,i),(41,k)]) (aE [(42,[.q x])]) (aE [(31,aZ b' o' n' m'),(39,aZ b' o' n' m')]) } f38.ntmps (oU true (aE [(33,.bool true),(44,.bool true)])) 60 RI (RK (aZ b o K m) u i k) (LR 21)=some ([Int.ofNat i=Int.ofNat i,i<K,oldOf w b (o+i*1) [.c (aZ b' o' n' m')],aD .lss .i64 (Int.ofNat k) (Int.ofNat n')=some (.bool true),Int.ofNat i=Int.ofNat i,i<K,oldOf w b (o+i*1) [.c (aZ b' o' n' m')],Int.ofNat k=Int.ofNat k,k<n',oldOf w b' (o'+k*4) [.q x],cR [.q x]=4,x<aT,Value.bool (!decide (x<RM))=.bool true],.rt,LR 21):=by kernel_rfl
theorem Th (w:World) (b o K m i:Nat) (p:Option Addr) (n' m' k:Nat) (u:Value):aH prog { qG prog with x:=xO w (aE [(30,i)]) (fun _=>none) (aE [(31,.slice p n' m')]) } f38.ntmps (oU true (aE [(33,.bool false)])) 60 RI (RK (aZ b o K m) u i k) (zC (aZ b o K m) u i)=some ([Int.ofNat i=Int.ofNat i,i<K,oldOf w b (o+i*1) [.c (.slice p n' m')],aD .lss .i64 (Int.ofNat k) (Int.ofNat n')=some (.bool false)],.ex 4,zC (aZ b o K m) u i):=by kernel_rfl
theorem Tf (v u:Value) (i:Nat):aH prog (qG prog) f38.ntmps (oU true (aE [(26,iI (i+1))])) 40 (cB (cB rF)) (zC v u i) (zC v u (i+1))=some ([aD .add .i64 (Int.ofNat i) 1=some (iI (i+1))],.nrm,zC v u (i+1)):=by kernel_rfl
theorem Sz (v u:Value):aH prog (qG prog) f38.ntmps (oU true fun _=>none) 40 (cA (cA (cB (cB (cB fG))))) (BT v u) (MV v u 0)=some ([],.nrm,MV v u 0):=by kernel_rfl
theorem Te (w:World) (v:Value) (b o M m i x:Nat):aH prog { qG prog with x:=xO w (aE [(53,i)]) (aE [(54,[.q x])]) (fun _=>none) } f38.ntmps (oU true (aE [(48,.bool true),(56,.bool false),(50,iI (i+1))])) 40 LS (MV v (aZ b o M m) i) (MV v (aZ b o M m) (i+1))=some ([aD .lss .i64 (Int.ofNat i) (Int.ofNat M)=some (.bool true),Int.ofNat i=Int.ofNat i,i<M,oldOf w b (o+i*4) [.q x],cR [.q x]=4,x<aT,Value.bool (!decide (x<RM))=.bool false,aD .add .i64 (Int.ofNat i) 1=some (iI (i+1))],.nrm,MV v (aZ b o M m) (i+1)):=by kernel_rfl
theorem Tn (w:World) (v:Value) (b o M m i x:Nat):aH prog { qG prog with x:=xO w (aE [(53,i)]) (aE [(54,[.q x])]) (fun _=>none) } f38.ntmps (oU true (aE [(48,.bool true),(56,.bool true)])) 40 LS (MV v (aZ b o M m) i) (LR 21)=some ([aD .lss .i64 (Int.ofNat i) (Int.ofNat M)=some (.bool true),Int.ofNat i=Int.ofNat i,i<M,oldOf w b (o+i*4) [.q x],cR [.q x]=4,x<aT,Value.bool (!decide (x<RM))=.bool true],.rt,LR 21):=by kernel_rfl
theorem Tj (v:Value) (p:Option Addr) (M m i:Nat):aH prog (qG prog) f38.ntmps (oU true (aE [(48,.bool false)])) 40 LS (MV v (.slice p M m) i) (BT v (.slice p M m))=some ([aD .lss .i64 (Int.ofNat i) (Int.ofNat M)=some (.bool false)],.ex 6,BT v (.slice p M m)):=by kernel_rfl
theorem aAf (v u:Value):aH prog (qG prog) f38.ntmps (oU true fun _=>none) 40 (cB (cB (cB (cB fG)))) (BT v u) (LR 0)=some ([],.rt,LR 0):=by kernel_rfl
def Xs (K:Nat) (Ns:Nat→Nat) (fs:Nat→Nat→Nat) (M:Nat) (g:Nat→Nat):Int:=if kD K Ns then (if kO K Ns fs∧bT M g then 0 else 21)else 72
theorem RG {w0:World} {v u:Value} {K M:Nat} {vs:Nat→Value} {Ns:Nat→Nat} {fs:Nat→Nat→Nat} {g:Nat→Nat} (hh:HV w0 v K vs) (hl:∀j,j<K→LV w0 (vs j) (Ns j) (fs j)) (hK:K≤64) (hu:LV w0 u M g) (hM:M≤65536):Good prog 38 (.one (.im (.int .i64 (Xs K Ns fs M g)))) [v,u] w0:=by
 obtain⟨b,o,m,rfl,hb,hr⟩:=hh;have hG:bH prog (qG prog) w0.heap.size w0:=(aY _).w _ _;have hT:∀n d:Nat,TabOkW prog MQ w0.heap.size w0:=fun _ _=>qE.w _ _
 obtain⟨pu,mu,rfl,hmu,h256,hmem⟩:=id hu;refine bJ func38 (cs:=[.v (.im (aZ b o K m)),.v (.im (.slice pu M mu))]) (args:=[aZ b o K m,.slice pu M mu]) (c:=fG) rfl ⟨rfl,rfl,trivial⟩ (Nat.le_of_ble_eq_true (by kernel_rfl)) fun a w' hA => ?_
 rw[YX];refine wp_seq (aA aG hT hG (Tc _ _) trivial hA fun a w' hA => ?_);refine wp_seq (wp_seq (aA aG hT hG (Tb _ _) trivial hA fun a w' hA => ?_));refine wp_block ?_;have bad:∀{e:Int} {a w},Holds f38.ntmps w0.heap.size w0 (LR e) a w→bodyPost prog f38 (fun e' w'=>e'=.returned (RV.den (.one (.im (.int .i64 e))))∧Below w0.heap.size w0 w') .ret a w:=fun {e a w} hA=>aW (l:=[.im (.int .i64 e)]) (r:=.one (.im (.int .i64 e))) (by kernel_rfl) (by kernel_rfl) hA
 have step:∀i,i<K→Ns i≤65536→Ok prog w0.heap.size w0 f38.ntmps RJ (RL (aZ b o K m) (.slice pu M mu) i) .nrm (RL (aZ b o K m) (.slice pu M mu) (i+1)):=fun i hi hs=>by
  obtain⟨p,m',e,_⟩:=hl i hi;have ho:=kI hb hr hi;rw[e]at ho;exact⟨_,_,_,_,cW w0 _ _ _,hT,Td w0 b o K m i p (Ns i) m' _,bV hi,rfl,hi,ho,Dw hs,eT (k:=1) (by omega),trivial⟩
 unfold Xs
 by_cases hs:kD K Ns
 ·rw[if_pos hs];refine cE aG (fun i=>RL (aZ b o K m) (.slice pu M mu) i) K (fun i hi=>step i hi (hs i hi)) (.ex 0) (by simp) (BT (aZ b o K m) (.slice pu M mu)) ⟨_,_,_,_,hG,hT,Tl _ K m K _,dI (Nat.le_refl _),trivial⟩ hA fun a w hA => ?_
  refine wp_seq (wp_seq (aA aG hT hG (Ta _ _) trivial hA fun a w' hA => ?_));refine wp_block ?_;have instep:∀i,i<K→∀k,k<Ns i→fs i k<RM→Ok prog w0.heap.size w0 f38.ntmps RI (RK (aZ b o K m) (.slice pu M mu) i k) .nrm (RK (aZ b o K m) (.slice pu M mu) i (k+1)):=fun i hi k hk hx=>by
   have hNi:=hs i hi;have ho:=kI hb hr hi;obtain⟨p',m',e,_,l256,lmem⟩:=hl i hi;obtain⟨b',o',rfl,hb',hr'⟩:=lmem (by omega);rw[e]at ho;exact⟨_,_,_,_,cW w0 _ _ _,hT,Tg w0 b o K m i b' o' (Ns i) m' k (fs i k) _,rfl,hi,ho,bV hk,rfl,hi,ho,rfl,hk,dU hb' hr' hk,rfl,l256 k hk,by rw[decide_eq_true hx]; rfl,eT (k:=1) (by omega),trivial⟩
  have lstep:∀i,i<K→bT (Ns i) (fs i)→∀a w,Holds f38.ntmps w0.heap.size w0 (zC (aZ b o K m) (.slice pu M mu) i) a w→∀Q:Exit→Act→World→Prop,(∀a w,Holds f38.ntmps w0.heap.size w0 (zC (aZ b o K m) (.slice pu M mu) (i+1)) a w→Q .normal a w)→rF.wp prog Q a w:=fun i hi hA' a w hA Q hQ=>by
   have ho:=kI hb hr hi;obtain⟨p',m',e,_⟩:=hl i hi;rw[e]at ho;rw[RH];refine wp_seq (aA aG hT hG (Du _ K m i _) ⟨bV hi,trivial⟩ hA fun a w hA => ?_);refine wp_seq (wp_block (wp_seq (aA aG hT hG (Dt _ _ i) trivial hA fun a w hA => ?_)));refine wp_block ?_;refine cE aG (fun k=>RK (aZ b o K m) (.slice pu M mu) i k) (Ns i) (fun k hk=>instep i hi k hk (hA' k hk)) (.ex 4) (by simp) (zC (aZ b o K m) (.slice pu M mu) i) ⟨_,_,_,_,cW w0 _ _ _,hT,Th w0 b o K m i p' (Ns i) m' (Ns i) _,rfl,hi,ho,dI (Nat.le_refl _),trivial⟩ hA fun a w hA => ?_
   show (cB (cB rF)).wp _ _ _ _;exact aA aG hT hG (Tf _ _ i) ⟨eT (k:=1) (by omega),trivial⟩ hA fun a w hA=>hQ a w hA
  by_cases hl2:kO K Ns fs
  ·refine mD (fun i a w=>Holds f38.ntmps w0.heap.size w0 (zC (aZ b o K m) (.slice pu M mu) i) a w) K (fun i hi a w hA R hR=>lstep i hi (hl2 i hi) a w hA _ fun a w hA=>hR a w hA) (fun a w hA R => ?_) (by exact hA);rw[RH];refine wp_seq (aA aG hT hG (Tk _ K m K _) ⟨dI (Nat.le_refl _),trivial⟩ hA fun a w hA => ?_);show (Code.seq _ _).wp _ _ _ _;refine wp_seq (wp_seq (aA aG hT hG (Sz _ _) trivial hA fun a w' hA => ?_));refine wp_block ?_;have step4:∀i,i<M→g i<RM→Ok prog w0.heap.size w0 f38.ntmps LS (MV (aZ b o K m) (.slice pu M mu) i) .nrm (MV (aZ b o K m) (.slice pu M mu) (i+1)):=fun i hi hx=>by
    obtain⟨b',o',rfl,hb',hr'⟩:=hmem (by omega);exact⟨_,_,_,_,cW w0 _ _ _,hT,Te w0 _ b' o' M mu i (g i),bV hi,rfl,hi,dU hb' hr' hi,rfl,h256 i hi,by rw[decide_eq_true hx]; rfl,eT (k:=1) (by omega),trivial⟩
   by_cases hg:bT M g
   ·rw[if_pos ⟨hl2,hg⟩];refine cE aG (fun i=>MV (aZ b o K m) (.slice pu M mu) i) M (fun i hi=>step4 i hi (hg i hi)) (.ex 6) (by simp) (BT (aZ b o K m) (.slice pu M mu)) ⟨_,_,_,_,hG,hT,Tj _ _ M mu M,dI (Nat.le_refl _),trivial⟩ hA fun a w hA => ?_
    show (cB (cB (cB (cB fG)))).wp _ _ _ _;exact aA aG hT hG (aAf _ _) trivial hA fun a w' hA=>bad hA
   ·rw[if_neg fun q=>hg q.2];obtain⟨j,hj,h1,h2⟩:=eH (p:=fun j=>g j<RM) hg;have hbad:Ok prog w0.heap.size w0 f38.ntmps LS (MV (aZ b o K m) (.slice pu M mu) j) .rt (LR 21):=by
     obtain⟨b',o',rfl,hb',hr'⟩:=hmem (by omega);exact⟨_,_,_,_,cW w0 _ _ _,hT,Tn w0 _ b' o' M mu j (g j),bV hj,rfl,hj,dU hb' hr' hj,rfl,h256 j hj,by rw[decide_eq_false h2]; rfl,trivial⟩
    exact cE aG (fun i=>MV (aZ b o K m) (.slice pu M mu) i) j (fun i hi=>step4 i (by omega) (h1 i hi)) .rt (by simp) (LR 21) hbad hA fun a w hA=>bad hA
  ·rw[if_neg fun q=>hl2 q.1];obtain⟨j,hj,h1,h2⟩:=eH (p:=fun j=>bT (Ns j) (fs j)) hl2;obtain⟨k,hk,k1,k2⟩:=eH (p:=fun k=>fs j k<RM) h2;refine mD (fun i a w=>Holds f38.ntmps w0.heap.size w0 (zC (aZ b o K m) (.slice pu M mu) i) a w) j (fun i hi a w hA R hR=>lstep i (by omega) (h1 i hi) a w hA _ fun a w hA=>hR a w hA) (fun a w hA R => ?_) (by exact hA);have ho:=kI hb hr hj;have hNj:=hs j hj;obtain⟨p',m',e,_,l256,lmem⟩:=hl j hj;obtain⟨b',o',rfl,hb',hr'⟩:=lmem (by omega);rw[e]at ho;rw[RH];refine wp_seq (aA aG hT hG (Du _ K m j _) ⟨bV hj,trivial⟩ hA fun a w hA => ?_);refine wp_seq (wp_block (wp_seq (aA aG hT hG (Dt _ _ j) trivial hA fun a w hA => ?_)));refine wp_block ?_;exact cE aG (fun k=>RK (aZ b o K m) (.slice pu M mu) j k) k (fun i hi=>instep j hj i (by omega) (k1 i hi)) .rt (by simp) (LR 21) ⟨_,_,_,_,cW w0 _ _ _,hT,Ti w0 b o K m j b' o' (Ns j) m' k (fs j k) _,rfl,hj,ho,bV hk,rfl,hj,ho,rfl,hk,dU hb' hr' hk,rfl,l256 k hk,by rw[decide_eq_false k2]; rfl,trivial⟩ hA fun a w hA=>bad hA
 ·rw[if_neg hs];obtain⟨j,hj,h1,h2⟩:=eH (p:=fun j=>Ns j≤65536) hs;obtain⟨p,m',e,_⟩:=hl j hj;have ho:=kI hb hr hj;rw[e]at ho;exact cE aG (fun i=>RL (aZ b o K m) (.slice pu M mu) i) j (fun i hi=>step i (by omega) (h1 i hi)) .rt (by simp) (LR 72) ⟨_,_,_,_,cW w0 _ _ _,hT,Tm w0 b o K m j p (Ns j) m' _,bV hj,rfl,hj,ho,Dv h2,trivial⟩ hA fun a w hA=>bad hA
theorem Holds.anewS {nt base:Nat} {w0:World} {A:List Fact} {a:Act} {w:World} (h:Holds nt base w0 A a w) {w':World} (hb:Below base w0 w') (hs:Shape w w') (hh:base≤w'.heap.size) {d k b n cap e sz:Nat} {l:List At} (hd:d<nt) (h1:base≤b) (h2:b<w'.heap.size) (h3:w'.rangeAt b 0 (aB l)) (h4:∀j,w'.frozen? ⟨b,j,none⟩=false) (ha:AppAt w' b e sz n cap) (hk:k≠nt) :
  Holds nt base w0 [.slot d (.so k n),.row k true l,.app k e sz n] (a.put (some d) (.slice (some ⟨b,0,none⟩) n cap)) w':=by
 obtain⟨β,g1,g2,g3,gt⟩:=h.facts;refine⟨by rw[eS]; exact h.defers,by rw[dM]; exact h.size,hb,hh,fun j=>if j=nt then (0,0,0)else (b,0,cap),fun φ hφ => ?_,fun k1 k2 o2 l1 l2 q1 q2 hne => ?_,fun k1 l1 q1=>Or.inr ?_,?_,fun p p1 p2 => ?_,gt.shape.trans hs⟩
 ·simp only[List.mem_cons,List.not_mem_nil,or_false]at hφ
  rcases hφ with rfl|rfl|rfl
  ·show (a.put (some d) _).tmps[d]?=_;rw[eW _ _ _ (by rw[h.size]; exact hd)];simp[AV.den,hk]
  ·refine⟨by simp[hk,h2],?_,fun _=>⟨by simp[hk,h1],by simp[hk],fun j=>by simp[hk,h4]⟩,fun h=>by cases h⟩;show w'.rangeAt (if k=nt then ((0,0,0):Bk)else (b,0,cap)).1 (if k=nt then ((0,0,0):Bk)else (b,0,cap)).2.1 _;rw[if_neg hk]; exact h3
  ·show AppAt w' (if k=nt then ((0,0,0):Bk)else (b,0,cap)).1 e sz n (if k=nt then ((0,0,0):Bk)else (b,0,cap)).2.2;rw[if_neg hk]; exact ha
 ·simp only[List.mem_cons,List.not_mem_nil,or_false,reduceCtorEq,false_or]at q1 q2;cases q1; cases q2; exact (hne rfl).elim
 ·show (if nt=nt then ((0,0,0):Bk)else (b,0,cap)).1≤_;rw[if_pos rfl]; exact Nat.zero_le _
 ·show (if nt=nt then ((0,0,0):Bk)else (b,0,cap)).1≤_;rw[if_pos rfl]; exact Nat.zero_le _
 ·exfalso;have h2:p.block<(if nt=nt then ((0,0,0):Bk)else (b,0,cap)).1:=p2;rw[if_pos rfl]at h2;exact absurd h2 (Nat.not_lt_zero _)
theorem feT:Wn prog 22=some (25,4,32):=by kernel_rfl
theorem yU (f:Nat→Nat):∀n s,(aB (aR (el f) s n)).length=n*4
 | 0,s=>by rw[Nat.zero_mul]; rfl
 | n+1,s=>by
  show (aB (el f s++aR (el f) (s+1) n)).length=_;rw[aM,List.length_append,yU f n (s+1),Nat.add_mul,Nat.one_mul,Nat.add_comm];rfl
theorem rU (f:Nat→Nat):∀n s,∀v∈aB (aR (el f) s n),v.oneCell'=true
 | 0,s,v,h=>by cases h
 | n+1,s,v,h=>by
  have h:v∈aB (el f s++aR (el f) (s+1) n):=h;rw[aM]at h
  rcases List.mem_append.1 h with h|h
  ·have h:v∈[Value.int .u64 (fw (f s) 0:Nat),.int .u64 (fw (f s) 1:Nat),.int .u64 (fw (f s) 2:Nat),.int .u64 (fw (f s) 3:Nat)]:=h;simp only[List.mem_cons,List.not_mem_nil,or_false]at h
   rcases h with rfl|rfl|rfl|rfl<;>rfl
  ·exact rU f n (s+1) v h
theorem Ca {w:World} {p:Option Addr} {N m:Nat} {f:Nat→Nat} (hv:LV w (.slice p N m) N f) (h0:0<N) (hN:N≤131072) (ty:TypeId) :
  ∃b cap w',(Builtin.append_ #[22,22] ty #[.slice none 0 0,.slice p N m]).run prog w=.ok (.slice (some ⟨b,0,none⟩) N cap) w'∧AppAt w' b 25 4 N cap∧w.heap.size≤b∧b<w'.heap.size∧w'.rangeAt b 0 (aB (aR (el f) 0 N))∧(∀j,w'.frozen? ⟨b,j,none⟩=false)∧Below w.heap.size w w'∧Shape w w':=by
 obtain⟨p',m',e,h2,h3,h4⟩:=hv;cases e;obtain⟨b,o,rfl,hb,hr⟩:=h4 h0;obtain⟨c,cap,w',hr',a1,a2,a3,a4,a5,a6,a7⟩:=oF (P:=prog) w (ty:=ty) feT (Or.inl ⟨rfl,rfl,rfl⟩) (ad:=⟨b,o,none⟩) (m:=N) (c:=m) (news:=aB (aR (el f) 0 N)) (yU f N 0) (fun j v hj=>by
  have e:(⟨b,o,none⟩:Addr).add j=⟨b,o+j,none⟩:=by simp[Addr.add]
  rw[e];exact hr j v hj) (rU f N 0) h0 (by omega) (by unfold maxLen; omega)
 rw[Nat.zero_add]at hr' a1;refine⟨c,cap,w',hr',a1,?_,a2,a3,a4,(Below.refl w.heap.size w).grown a5 (Nat.le_refl _) (fun k hk=>by cases hk),a6⟩
 rcases a7 with h|⟨c0,h⟩
 ·exact h
 ·cases h
theorem CV {w:World} {p:Option Addr} {m:Nat} (hp:p=none→m=0) (ty:TypeId):∃w',(Builtin.append_ #[22,22] ty #[.slice none 0 0,.slice p 0 m]).run prog w=.ok (.slice none 0 0) w'∧Below w.heap.size w w':=by
 obtain⟨ht,i,z,hi,hz,hsize,hby,hzs,hsz⟩:=CW feT;cases p with
 | none =>
  rw[hp rfl];exact⟨w,run_append_owned_none (P:=prog) w w.heap.size _ ty _ i 4 ht hi _ 0 [] (World.ownsRow_nil w w.heap.size _ 4),Below.refl _ _⟩
 | some ad =>
  obtain⟨v',w',hr,hown,hg,hne⟩:=run_append_own (P:=prog) w w.heap.size _ ty _ i z 4 32 ht hi hz hsize hby hzs hsz _ 0 [] (World.ownsRow_nil w w.heap.size _ 4) ad 0 m [] rfl (fun j u hj=>by simp at hj) (fun u hu=>by cases hu) (by unfold maxLen; omega) (by omega) (Nat.le_refl _);have hv:v'=.slice none 0 0:=hne.2 ⟨rfl,rfl⟩;subst hv;exact⟨w',hr,(Below.refl w.heap.size w).grown hg (Nat.le_refl _) (fun k hk=>by cases hk)⟩
def eI:Code:=(f40.body).getD .skip
def wR:Code:=gH (gH (cA (cB (cB eI))))
theorem US:eI=.seq (cA eI) (.seq (cA (cB eI)) (.seq (.block 0 (.loop wR)) (.seq (cA (cB (cB (cB eI)))) (.seq (.region 5 (aO (cA (cB (cB (cB (cB eI)))))) false) .ret)))):=by kernel_rfl
theorem Od (v:Value):aH prog (qG prog) f40.ntmps (cG fun _=>none) 40 (cA eI) (eF 0 [.v (.im v)]) [.slot 0 (.im v)]=some ([],.nrm,[.slot 0 (.im v)]):=by kernel_rfl
theorem Oc (p:Option Addr) (N m:Nat):aH prog (qG prog) f40.ntmps (cG fun _=>none) 40 (cA (cB eI)) [.slot 0 (.im (.slice p N m))] (mV (.slice p N m) N)=some ([],.nrm,mV (.slice p N m) N):=by kernel_rfl
theorem Oe (w:World) (b o N m i x:Nat):aH prog { qG prog with x:=xO w (aE [(13,i)]) (aE [(14,[.q x])]) (fun _=>none) } f40.ntmps (Dk true (aE [(8,.bool true),(12,iI i),(19,iI i)])) 40 wR (mV (aZ b o N m) (i+1)) (mV (aZ b o N m) i)=some ([aD .gtr .i64 (Int.ofNat (i+1)) 0=some (.bool true),aD .sub .i64 (Int.ofNat (i+1)) 1=some (iI i),Int.ofNat i=Int.ofNat i,i<N,oldOf w b (o+i*4) [.q x],cR [.q x]=4,aB [.q x]=aB [.f ⟨0,cY⟩],aD .sub .i64 (Int.ofNat (i+1)) 1=some (iI i)],.nrm,mV (aZ b o N m) i):=by kernel_rfl
theorem Fc (w:World) (b o N m i x:Nat):aH prog { qG prog with x:=xO w (aE [(13,i)]) (aE [(14,[.q x])]) (fun _=>none) } f40.ntmps (Dk false (aE [(8,.bool true),(12,iI i),(19,iI i)])) 40 wR (mV (aZ b o N m) (i+1)) (mV (aZ b o N m) (i+1))=some ([aD .gtr .i64 (Int.ofNat (i+1)) 0=some (.bool true),aD .sub .i64 (Int.ofNat (i+1)) 1=some (iI i),Int.ofNat i=Int.ofNat i,i<N,oldOf w b (o+i*4) [.q x],cR [.q x]=4,aB [.q x]≠aB [.f ⟨0,cY⟩]],.ex 0,mV (aZ b o N m) (i+1)):=by kernel_rfl
theorem Fd (v:Value):aH prog (qG prog) f40.ntmps (Dk true (aE [(8,.bool false)])) 40 wR (mV v 0) (mV v 0)=some ([aD .gtr .i64 (Int.ofNat 0) 0=some (.bool false)],.ex 0,mV v 0):=by kernel_rfl
def Yp (v:Value) (T:Nat):List Fact:=.slot 4 (.im (.slice none 0 0))::mV v T
theorem Ob (v:Value) (T:Nat):aH prog (qG prog) f40.ntmps (cG fun _=>none) 40 (cA (cB (cB (cB eI)))) (mV v T) (Yp v T)=some ([],.nrm,Yp v T):=by kernel_rfl
def Ct (p:Option Addr) (T m:Nat):List Fact:=[.slot 20 (.im (.slice none 0 0)),.slot 23 (.im (.slice p T m))]
theorem Oa (p:Option Addr) (N m T:Nat):dR prog (qG prog) f40.ntmps bX ((aO (cA (cB (cB (cB (cB eI)))))).extract 0 4) (Yp (.slice p N m) T) (Ct p T m)=some ([T≤m],Ct p T m):=by kernel_rfl
theorem Nz (T:Nat) (l:List At):dR prog (qG prog) f40.ntmps bX ((aO (cA (cB (cB (cB (cB eI)))))).extract 5 6) [.slot 24 (.so 1000 T),.row 1000 true l,.app 1000 25 4 T] [.slot 2 (.so 1000 T),.row 1000 true l,.app 1000 25 4 T]=some ([],[.slot 2 (.so 1000 T),.row 1000 true l,.app 1000 25 4 T]):=by kernel_rfl
theorem Ny (p:Option Addr) (T m:Nat):dR prog (qG prog) f40.ntmps bX ((aO (cA (cB (cB (cB (cB eI)))))).extract 5 6) (.slot 24 (.im (.slice none 0 0))::Ct p T m) [.slot 2 (.im (.slice none 0 0))]=some ([],[.slot 2 (.im (.slice none 0 0))]):=by kernel_rfl
theorem Fb (T:Nat) (l:List At):AL prog [.slot 2 (.so 1000 T),.row 1000 true l,.app 1000 25 4 T] f40.results.toList []=some ⟨l,T,25,4,true,[],[]⟩:=by
 have h:Nat.beq T T=true:=Nat.beq_refl T;show (bif Nat.beq T T then some (FS.mk l T 25 4 true [] [])else none)=_;rw[h];rfl
theorem oB {w0:World} {p:Option Addr} {N m:Nat} {f:Nat→Nat} (hv:LV w0 (.slice p N m) N f) (hN:N≤131072) (hp:p=none→m=0) :
  (aF f N=0→Good prog 40 (.one (.im (.slice none 0 0))) [.slice p N m] w0) ∧
  (0<aF f N→Calls prog 40 #[.slice p N m] w0 (fun e w'=>FS.ok ⟨aR (el f) 0 (aF f N),aF f N,25,4,true,[],[]⟩ w0 e w')):=by
 have hG:bH prog (qG prog) w0.heap.size w0:=(aY _).w _ _;have hT:∀n d:Nat,TabOkW prog dW w0.heap.size w0:=fun _ _=>bG.w _ _
 have hm:N≤m:=by obtain⟨_,_,e,h,_⟩:=hv; cases e; exact h
 have hle:=cC f N;have first:∀R:Ending→World→Prop,(∀a w,Holds f40.ntmps w0.heap.size w0 (Ct p (aF f N) m) a w→wpOps prog (aO (cA (cB (cB (cB (cB eI)))))) (fun e a w=>match e with | .normal=>Code.ret.wp prog (bodyPost prog f40 R) a w|e=>bodyPost prog f40 R e a w) (4::(List.range' 5 ((aO (cA (cB (cB (cB (cB eI)))))).extract 5 6).size++[])) a w)→Calls prog 40 #[.slice p N m] w0 R:=fun R hR=>by
  obtain⟨p',m',e,hm,h256,hmem⟩:=id hv;cases e;refine bJ func40 (cs:=[.v (.im (.slice p N m))]) (args:=[.slice p N m]) (c:=eI) rfl ⟨rfl,trivial⟩ (Nat.le_of_ble_eq_true (by kernel_rfl)) fun a w' hA => ?_
  rw[US];refine wp_seq (aA aG hT hG (Od _) trivial hA fun a w' hA => ?_);refine wp_seq (aA aG hT hG (Oc p N m) trivial hA fun a w' hA => ?_);refine wp_seq (wp_block ?_);have hz:=lO f N;have hl:=iC f N;generalize aF f N=T at hle hz hl hR ⊢;refine cE aG (fun i=>mV (.slice p N m) (N-i)) (N-T) (fun i hi => ?_) (.ex 0) (by simp) (mV (.slice p N m) T) ?_ hA fun a w hA => ?_
  ·have h0:0<N:=by omega
   have hk:N-i=(N-i-1)+1:=by omega
   have hk2:N-(i+1)=N-i-1:=by omega
   have hk3:T≤N-i-1:=by omega
   have hk4:N-i-1<N:=by omega
   have hk5:N-i-1<4611686018427387904:=by omega
   show Ok _ _ _ _ _ (mV _ (N-i)) _ (mV _ (N-(i+1)));rw[hk2,hk];clear hk hk2;obtain⟨b,o,rfl,hb,hr⟩:=hmem h0;generalize N-i-1=k at hk3 hk4 hk5 ⊢;exact⟨_,_,_,_,cW w0 _ _ _,fun _ _=>bG.w _ _,Oe w0 b o N m k (f k),tF,nQ hk5,rfl,hk4,dU hb hr hk4,rfl,(iS (h256 k hk4)).2 (hz k hk3 hk4),nQ hk5,trivial⟩
  ·have e:N-(N-T)=T:=by omega
   rw[e];cases T with
   | zero=>exact⟨_,_,_,_,hG,fun _ _=>bG.w _ _,Fd _,rfl,trivial⟩
   | succ k =>
    have h0:0<N:=by omega
    have hk4:k<N:=by omega
    have hk5:k<4611686018427387904:=by omega
    obtain⟨b,o,rfl,hb,hr⟩:=hmem h0;have hl:=hl (Nat.succ_pos k);exact⟨_,_,_,_,cW w0 _ _ _,fun _ _=>bG.w _ _,Fc w0 b o N m k (f k),tF,nQ hk5,rfl,hk4,dU hb hr hk4,rfl,fun h=>hl ((iS (h256 k hk4)).1 h),trivial⟩
  ·show (Code.seq _ _).wp _ _ _ _;refine wp_seq (aA aG hT hG (Ob _ T) trivial hA fun a w' hA => ?_);refine wp_seq (cD (l:=List.range' 0 ((aO (cA (cB (cB (cB (cB eI)))))).extract 0 4).size++(4::(List.range' 5 ((aO (cA (cB (cB (cB (cB eI)))))).extract 5 6).size++[]))) (by kernel_rfl) ?_);exact aL (c:=bX) (hT 0) hG (Oa p N m T) ⟨by omega,trivial⟩ (by kernel_rfl) hA fun a w1 hA=>hR a w1 hA
 obtain⟨o,ho,hoo,hod,hog⟩:∃o,(aO (cA (cB (cB (cB (cB eI))))))[4]?=some o∧o.op=.call ⟨.builtin .append,#[.tmp 20,.tmp 23],#[22,22]⟩∧o.dst=some 24∧o.guard=none:=⟨_,rfl,rfl,rfl,rfl⟩
 refine⟨fun h0=>first _ fun a w hA => ?_,fun h0=>first _ fun a w hA => ?_⟩
 ·rw[h0]at hA;have h20:a.eval (.tmp 20)=.slice none 0 0:=by have:=hA.slot (s:=20) (v:=.slice none 0 0) (by simp[Ct]); simp[Act.eval,this]
  have h23:a.eval (.tmp 23)=.slice p 0 m:=by have:=hA.slot (s:=23) (v:=.slice p 0 m) (by simp[Ct]); simp[Act.eval,this]
  obtain⟨w',hr,hb⟩:=CV (w:=w) hp o.type;have hrun:(execOp a.eval o).run prog w=.ok (.value (.slice none 0 0)) w':=by
   unfold execOp;simp only[hoo,resolve,invoke,builtin,Sem.run_bind,Sem.run_pure,Result.andThen_ok,List.map_toArray,List.map_cons,List.map_nil,h20,h23,hr]
  refine dJ ho hog (gN hrun ?_);rw[hod];have hA:=hA.put hb (d:=24) (Nat.le_of_ble_eq_true (by kernel_rfl)) (.im (.slice none 0 0)) (kH (by kernel_rfl));exact aL (c:=bX) (hT 0) hG (Ny p 0 m) trivial (by kernel_rfl) hA fun a w1 hA=>wp_ret (aW (l:=[.im (.slice none 0 0)]) (r:=.one (.im (.slice none 0 0))) (by kernel_rfl) (by kernel_rfl) hA)
 ·have h20:a.eval (.tmp 20)=.slice none 0 0:=by have:=hA.slot (s:=20) (v:=.slice none 0 0) (by simp[Ct]); simp[Act.eval,this]
  have h23:a.eval (.tmp 23)=.slice p (aF f N) m:=by have:=hA.slot (s:=23) (v:=.slice p (aF f N) m) (by simp[Ct]); simp[Act.eval,this]
  obtain⟨b,cap,w',hr,a1,a2,a3,a4,a5,hb,hs⟩:=Ca ((hv.on hA.below).take hle) h0 (by omega) o.type;have hrun:(execOp a.eval o).run prog w=.ok (.value (.slice (some ⟨b,0,none⟩) (aF f N) cap)) w':=by
   unfold execOp;simp only[hoo,resolve,invoke,builtin,Sem.run_bind,Sem.run_pure,Result.andThen_ok,List.map_toArray,List.map_cons,List.map_nil,h20,h23,hr]
  refine dJ ho hog (gN hrun ?_);rw[hod];have hsz:=hA.below.size;have hA:=hA.anewS (hA.below.trans (hb.mono hsz)) hs (Nat.le_trans hsz hb.size) (d:=24) (k:=1000) (Nat.le_of_ble_eq_true (by kernel_rfl)) (Nat.le_trans hsz a2) a3 a4 a5 a1 (by rw[show f40.ntmps=25 by kernel_rfl]; omega);exact aL (c:=bX) (hT 0) hG (Nz (aF f N) _) trivial (by kernel_rfl) hA fun a w1 hA=>wp_ret (mQ (Fb _ _) hA)
def xT3 (T3:Tab3):Ext:={ Ext.none with T2:=rG,T3:=T3,T4:=KB,T5:=KE,T6:=KF }
theorem Es {base:Nat} {w:World} {T3:Tab3} (h:∀w',Below base w w'→FsAt prog T3 w'):bH prog { qG prog with x:=xT3 T3 } base w :=
 ⟨(aY _).1,fL (fun b o l h=>h.elim) (fun w' _=>FrAt.none _ _) h⟩
def Jj (N:Nat) (f:Nat→Nat):List CA→Option (List Prop×FS)
 | [.s l n m]=>some ([aB l=aB (aR (el f) 0 N),n=N,N≤m,(∀j,j<N→f j<aT),N≤131072,0<aF f N],⟨aR (el f) 0 (aF f N),aF f N,25,4,true,[],[]⟩)
 | _=>none
theorem ZH {N:Nat} {f:Nat→Nat}:∀cs pre r,Jj N f cs=some (pre,r)→aQ pre→∀(args:List Value) (w:World),cF w cs args→Calls prog 40 args.toArray w (fun e w'=>r.ok w e w'):=by
 intro cs pre r hg hp args w ha;unfold Jj at hg;split at hg
 ·rename_i l n m;cases hg;obtain⟨p1,p2,p3,p4,p5,p6,_⟩:=hp
  match args,ha with
  | [a1],ha =>
   have hl:=LV.ofS ha.1 p1 p2 p3 p4;obtain⟨b,o,rfl,_⟩:=ha.1;subst p2;exact (oB hl p5 fun h=>by cases h).2 p6
  | [],ha=>exact ha.elim
  | _::_::_,ha=>exact ha.2.elim
 ·cases hg
def Jk (N:Nat) (f:Nat→Nat):iR
 | [.s l n m]=>some ([aB l=aB (aR (el f) 0 N),n=N,N≤m,(∀j,j<N→f j<aT),N≤131072,aF f N=0],.one (.im (.slice none 0 0)))
 | _=>none
theorem ZI {N:Nat} {f:Nat→Nat}:∀cs pre r,Jk N f cs=some (pre,r)→aQ pre→∀(args:List Value) (w:World),cF w cs args→Good prog 40 r args w:=by
 intro cs pre r hg hp args w ha;unfold Jk at hg;split at hg
 ·rename_i l n m;cases hg;obtain⟨p1,p2,p3,p4,p5,p6,_⟩:=hp
  match args,ha with
  | [a1],ha =>
   have hl:=LV.ofS ha.1 p1 p2 p3 p4;obtain⟨b,o,rfl,_⟩:=ha.1;subst p2;exact (oB hl p5 fun h=>by cases h).1 p6
  | [],ha=>exact ha.elim
  | _::_::_,ha=>exact ha.2.elim
 ·cases hg
theorem Holds.reflat {nt base:Nat} {w0:World} {A:List Fact} {a:Act} {w:World} {k:Nat} {l l':List At} (h:Holds nt base w0 (.row k true l::A) a w) (e:aB l=aB l'):Holds nt base w0 (.row k true l'::A) a w:=by
 obtain⟨β,g1,g2,g3⟩:=h.facts;have up:∀k1 o1 l1,Fact.row k1 o1 l1∈(Fact.row k true l'::A)→∃l2,Fact.row k1 o1 l2∈(Fact.row k true l::A):=fun k1 o1 l1 q=>by
  rcases List.mem_cons.1 q with q|q
  ·cases q; exact⟨l,List.mem_cons_self⟩
  ·exact⟨l1,List.mem_cons_of_mem _ q⟩
 refine⟨h.defers,h.size,h.below,h.heap,β,fun φ hφ => ?_,fun k1 k2 o2 l1 l2 q1 q2 => ?_,fun k1 l1 q => ?_,g3.2⟩
 ·rcases List.mem_cons.1 hφ with rfl|hφ
  ·have:=g1 _ (List.mem_cons_self);simp only[Fact.ok]at this ⊢;rw[←e]; exact this
  ·exact g1 φ (List.mem_cons_of_mem _ hφ)
 ·obtain⟨m1,q1⟩:=up _ _ _ q1;obtain⟨m2,q2⟩:=up _ _ _ q2;exact g2 k1 k2 o2 m1 m2 q1 q2
 ·obtain⟨m1,q⟩:=up _ _ _ q;exact g3.1 k1 m1 q
def eO (x N:Nat) (f:Nat→Nat):Nat→Nat
 | 0=>0
 | k+1=>jB (cS (eO x N f k) x) (f (N-1-k))
def rE (x N:Nat) (f:Nat→Nat):Nat→Nat→Nat
 | 0=>fun _=>0
 | k+1=>cN (rE x N f k) (N-1-k) (eO x N f k)
theorem fF (x N:Nat) (f:Nat→Nat):∀k,eO x N f k<RM
 | 0=>fD
 | k+1=>nM _ _
theorem FK (x N:Nat) (f:Nat→Nat):∀k j,rE x N f k j<RM
 | 0,j=>fD
 | k+1,j=>by
  unfold rE cN;split
  ·exact fF x N f k
  ·exact FK x N f k j
theorem Iz (N:Nat) (f:Nat→Nat) (x:Nat):Xs 1 (fun _=>N) (fun _=>f) 1 (fun _=>x)=fH N f x:=by
 have e1:kD 1 (fun _=>N)↔N≤65536:=⟨fun h=>h 0 (by omega),fun h j hj=>h⟩;have e2:kO 1 (fun _=>N) (fun _=>f)↔bT N f:=⟨fun h=>h 0 (by omega),fun h j hj=>h⟩;have e3:bT 1 (fun _=>x)↔x<RM:=⟨fun h=>h 0 (by omega),fun h j hj=>h⟩;unfold Xs fH;simp only[e1,e2,e3]
theorem BU {w:World} {v:Value} {N x b b2:Nat} {f:Nat→Nat} (hv:LV w v N f) (hx:x<aT) (h1:oldOf w b 0 [.q x]) (h2:oldOf w b2 0 [.c v]):Good prog 38 (.one (.im (.int .i64 (fH N f x)))) [aZ b2 0 1 1,aZ b 0 1 1] w:=by
 rw[←Iz];exact RG (vs:=fun _=>v) ⟨b2,0,1,rfl,h2.1,h2.2⟩ (fun j hj=>hv) (by omega) (LV.one h1 hx) (by omega)
theorem PD (x y:Nat):jB x y=jB y x:=by unfold jB; rw[Nat.add_comm]
theorem OT (x y:Nat):cS x y=cS y x:=by unfold cS; rw[Nat.mul_comm]
theorem AH (x:Nat):cS 0 x=0:=by unfold cS; rw[Nat.zero_mul,Nat.zero_mod]
theorem AP {x:Nat} (h:x<RM):jB 0 x=x:=by unfold jB; rw[Nat.zero_add,Nat.mod_eq_of_lt h]
theorem vD {f:Nat→Nat} {N T:Nat} (h1:T≤N) (h2:∀j,T≤j→j<N→f j=0) (h3:0<T→f (T-1)≠0):aF f N=T:=by
 have g1:=cC f N;have g2:=lO f N;have g3:=iC f N
 rcases Nat.lt_trichotomy (aF f N) T with h|h|h
 ·exact absurd (g2 (T-1) (by omega) (by omega)) (h3 (by omega))
 ·exact h
 ·exact absurd (h2 (aF f N-1) (by omega) (by omega)) (g3 (by omega))
theorem NO {f g:Nat→Nat} {N M:Nat} (h:∀j,j<N→j<M→f j=g j) (h1:∀j,M≤j→j<N→f j=0) (h2:∀j,N≤j→j<M→g j=0):aF f N=aF g M:=by
 have g1:=cC g M;have g2:=lO g M;have g3:=iC g M;have hle:aF g M≤N:=by
  rcases Nat.lt_or_ge N (aF g M)with q|q
  ·exact absurd (h2 (aF g M-1) (by omega) (by omega)) (g3 (by omega))
  ·exact q
 refine vD hle (fun j hj hN => ?_) fun h0 => ?_
 ·rcases Nat.lt_or_ge j M with q|q
  ·rw[h j hN q]; exact g2 j hj q
  ·exact h1 j q hN
 ·rw[h _ (by omega) (by omega)]; exact g3 h0
theorem rM {x N L:Nat} {f:Nat→Nat} (hL:L≤N) (hz:∀j,L≤j→j<N→f j=0):∀k,k≤N-L→eO x N f k=0
 | 0,_=>rfl
 | k+1,h=>by
  show jB (cS (eO x N f k) x) (f (N-1-k))=0;rw[rM hL hz k (by omega),AH,hz (N-1-k) (by omega) (by omega),AP fD]
theorem rN {x N L:Nat} {f:Nat→Nat} (hL:L≤N) (hz:∀j,L≤j→j<N→f j=0):∀k,k≤L→eO x N f (N-L+k)=eO x L f k
 | 0,_=>rM hL hz _ (by omega)
 | k+1,h=>by
  show jB (cS (eO x N f (N-L+k)) x) (f (N-1-(N-L+k)))=jB (cS (eO x L f k) x) (f (L-1-k));rw[rN hL hz k (by omega),show N-1-(N-L+k)=L-1-k by omega]
theorem yG {x N:Nat} {f:Nat→Nat}:∀k j,k≤N→N-k≤j→j<N→rE x N f k j=eO x N f (N-1-j)
 | 0,j,_,h1,h2=>by omega
 | k+1,j,hk,h1,h2=>by
  show cN (rE x N f k) (N-1-k) (eO x N f k) j=_;unfold cN
  by_cases e:j=N-1-k
  ·rw[if_pos e,e,show N-1-(N-1-k)=k by omega]
  ·rw[if_neg e]; exact yG k j (by omega) (by omega) h2
theorem Ee {x L:Nat} {f:Nat→Nat} (hf:bT L f):∀p,p+1≤L→∀j,j<L→rP 1 x L f p j=if L-1-p≤j then eO x L f (L-j)else f j
 | 0,hp,j,hj=>by
  show f j=_
  by_cases e:L-1-0≤j
  ·have ej:j=L-1:=by omega
   rw[if_pos e,show L-j=0+1 by omega];show f j=jB (cS 0 x) (f (L-1-0));rw[AH,show L-1-0=j by omega,AP (hf j hj)]
  ·rw[if_neg e]
 | p+1,hp,j,hj=>by
  have ih:=Ee (x:=x) hf p (by omega);show cN (rP 1 x L f p) (L-1-1-p) (jB (rP 1 x L f p (L-1-1-p)) (cS x (rP 1 x L f p (L-1-1-p+1)))) j=_;unfold cN
  by_cases e:j=L-1-1-p
  ·rw[if_pos e,if_pos (by omega),ih (L-1-1-p) (by omega),if_neg (by omega),ih (L-1-1-p+1) (by omega),if_pos (by omega),show L-j=(p+1)+1 by omega,show L-(L-1-1-p+1)=p+1 by omega];show _=jB (cS (eO x L f (p+1)) x) (f (L-1-(p+1)));rw[PD,OT,show L-1-(p+1)=L-1-1-p by omega]
  ·rw[if_neg e,ih j hj]
   by_cases e2:L-1-p≤j
   ·rw[if_pos e2,if_pos (by omega)]
   ·rw[if_neg e2,if_neg (by omega)]
theorem QP {x L:Nat} {f:Nat→Nat} (hf:bT L f) {j:Nat} (hj:j<L):UF x L f j=eO x L f (L-j):=by
 unfold UF;rw[Ee hf (L-1) (by omega) j hj,if_pos (by omega)]
theorem IS {x N:Nat} {f:Nat→Nat} (hf:bT N f) :
  rL x (aF f N) f=aF (rE x N f N) N∧(∀j,j<rL x (aF f N) f→tK x (aF f N) f j=rE x N f N j)∧QO x (aF f N) f=eO x N f N:=by
 have hle:=cC f N;have hz:=lO f N;generalize aF f N=L at hle hz;have hfL:bT L f:=fun j hj=>hf j (by omega)
 have hq:∀j,j<L-1→tK x L f j=rE x N f N j:=fun j hj=>by
  unfold tK;rw[show min 1 L=1 by omega,QP hfL (by omega),yG N j (Nat.le_refl _) (by omega) (by omega),show N-1-j=N-L+(L-(1+j)) by omega,rN hle hz _ (by omega)]
 have hn:rL x L f=aF (rE x N f N) N:=by
  unfold rL;refine NO (fun j h1 h2=>hq j (by omega)) (fun j h1 h2=>by omega) fun j h1 h2 => ?_
  rw[yG N j (Nat.le_refl _) (by omega) h2];exact rM hle hz _ (by omega)
 refine⟨hn,fun j hj=>hq j ?_,?_⟩
 ·have:=cC (tK x L f) (L-min 1 L);have h2:rL x L f≤L-min 1 L:=this;omega
 ·unfold QO
  by_cases h0:L=0
  ·subst h0;have:aF (UF x 0 f) (min 1 0)=0:=Nat.le_zero.1 (cC _ _);rw[this];have:=rM (x:=x) hle hz N (by omega);rw[this];rfl
  ·have e:min 1 L=1:=by omega
   rw[e];have hG0:=QP (x:=x) hfL (j:=0) (by omega);have hN:eO x N f N=eO x L f L:=by
    have:=rN (x:=x) hle hz L (Nat.le_refl _);rw[show N-L+L=N by omega]at this;exact this
   rw[Nat.sub_zero]at hG0;rw[hN,←hG0];unfold nZ;have z:=lO (UF x L f) 1 0
   by_cases h1:0<aF (UF x L f) 1
   ·rw[if_pos h1]
   ·rw[if_neg h1]; exact (z (by omega) (by omega)).symm
def ZX (v:Value) (N:Nat) (f:Nat→Nat):iR
 | [.v (.im u),.v (.fl r)]=>match jQ r with
  | some x=>some ([u=v,x<aT,fH N f x≠0],.many [.im (.slice none 0 0),.fl iD,.im (.int .i64 (fH N f x))])
  | none=>none
 | _=>none
theorem JF {w:World} {v:Value} {N:Nat} {f:Nat→Nat} (hv:LV w v N f) (hN:N≤4611686018427387904):∀cs pre r,ZX v N f cs=some (pre,r)→aQ pre→∀(args:List Value),cF w cs args→Good prog 16 r args w:=by
 intro cs pre r hg hp args ha;unfold ZX at hg;split at hg
 ·rename_i u r0;split at hg
  ·rename_i x hx;cases hg
   match args,ha with
   | [a1,a3],ha =>
    have h1:a1=u:=ha.1;have h3:a3=.agg (aB r0).toArray:=ha.2.1;rw[bL r0 x hx]at h3;obtain⟨p1,p2,p3,_⟩:=hp;subst h1; subst h3; subst p1;exact (tJ hv hN p2).1 p3
   | [],ha=>exact ha.elim
   | [_],ha=>exact ha.2.elim
   | _::_::_::_,ha=>exact ha.2.2.elim
  ·cases hg
 ·cases hg
def ZW (v:Value) (N:Nat) (f:Nat→Nat):List CA→Option (List Prop×FR)
 | [.v (.im u),.v (.fl r)]=>match jQ r with
  | some x=>some ([u=v,x<aT,fH N f x=0],⟨aR (el (tK x (aF f N) f)) 0 (rL x (aF f N) f),rL x (aF f N) f,rL x (aF f N) f,[.fl [.q (QO x (aF f N) f)],.im (.int .i64 0)]⟩)
  | none=>none
 | _=>none
theorem JE {w:World} {v:Value} {N:Nat} {f:Nat→Nat} (hv:LV w v N f) (hN:N≤4611686018427387904):∀cs pre r,ZW v N f cs=some (pre,r)→aQ pre→∀(args:List Value),cF w cs args→Calls prog 16 args.toArray w (fun e w'=>r.ok w e w'):=by
 intro cs pre r hg hp args ha;unfold ZW at hg;split at hg
 ·rename_i u r0;split at hg
  ·rename_i x hx;cases hg
   match args,ha with
   | [a1,a3],ha =>
    have h1:a1=u:=ha.1;have h3:a3=.agg (aB r0).toArray:=ha.2.1;rw[bL r0 x hx]at h3;obtain⟨p1,p2,p3,_⟩:=hp;subst h1; subst h3; subst p1;exact (tJ hv hN p2).2 p3
   | [],ha=>exact ha.elim
   | [_],ha=>exact ha.2.elim
   | _::_::_::_,ha=>exact ha.2.2.elim
  ·cases hg
 ·cases hg
theorem WQ (v:Value) (N:Nat) (f:Nat→Nat) (x:Nat):eU prog (qG prog) (fun _=>⟨fun _=>dW.add 16 (ZX v N f),fun _=>true,fun _=>none⟩) f27 60 [.v (.im v),.v (.fl [.q x])]=some ([v=v,x<aT,fH N f x≠0],.many [.fl iD,.im (.int .i64 (fH N f x))]):=by kernel_rfl
theorem WP (v:Value) (N:Nat) (f:Nat→Nat) (x:Nat):eU prog { qG prog with x:=ND (rG.add 16 (ZW v N f)) } (cG fun _=>none) f27 60 [.v (.im v),.v (.fl [.q x])]=some ([v=v,x<aT,fH N f x=0],.many [.fl [.q (QO x (aF f N) f)],.im (.int .i64 0)]):=by kernel_rfl
theorem uB {w0:World} {v:Value} {N x:Nat} {f:Nat→Nat} (hv:LV w0 v N f) (hN:N≤4611686018427387904) (hx:x<aT) :
  (fH N f x≠0→Good prog 27 (.many [.fl iD,.im (.int .i64 (fH N f x))]) [v,.agg (aB [At.q x]).toArray] w0) ∧
  (fH N f x=0→Good prog 27 (.many [.fl [.q (eO x N f N)],.im (.int .i64 0)]) [v,.agg (aB [At.q x]).toArray] w0):=by
 refine⟨fun h => ?_,fun h => ?_⟩
 ·exact bQ aG (fun _ _=>TabOkW.add (bG.w _ _) func16 (by kernel_rfl) (by kernel_rfl) fun w hw=>JF (hv.on hw) hN) ((aY _).w _ _) func27 (WQ v N f x) ⟨rfl,hx,h,trivial⟩ (args:=[v,.agg (aB [At.q x]).toArray]) ⟨rfl,rfl,trivial⟩
 ·rw[←(IS (x:=x) (uH h).2.1).2.2];exact bQ aG (fun _ _=>bG.w _ _) (jG fun w' hw=>(FrAt.none _ _).add func16 (by kernel_rfl) (by kernel_rfl) (JE (hv.on hw) hN)) func27 (WP v N f x) ⟨rfl,hx,h,trivial⟩ (args:=[v,.agg (aB [At.q x]).toArray]) ⟨rfl,rfl,trivial⟩
def gS:Code:=(f43.body).getD .skip
def DG:Code:=gH (gH (cB (cA (cB (cB gS)))))
theorem UK:gS=.seq (cA gS) (.seq (cA (cB gS)) (.seq (.seq (cA (cA (cB (cB gS)))) (.block 0 (.loop DG))) (cB (cB (cB gS))))):=by kernel_rfl
def Nr (v:Value) (x:Nat):List Fact:=[.slot 0 (.im v),.slot 3 (.pt 3 0),.row 3 true [.q x],.slot 4 (.pt 4 0),.row 4 true iD]
def Ew (v:Value) (x:Nat) (l:List At):List Fact:=.row 5 true l :: .slot 5 (.pt 5 0)::Nr v x
def TY (v:Value) (x:Nat) (l:List At) (z:Int):List Fact:=.row 5 true l :: .slot 5 (.pt 5 0) :: .slot 6 (.im (iV z))::Nr v x
theorem No (v:Value) (x:Nat):aH prog (qG prog) f43.ntmps (oU true fun _=>none) 40 (cA gS) (eF 0 [.v (.im v),.v (.fl [.q x])]) (Nr v x)=some ([],.nrm,Nr v x):=by kernel_rfl
theorem Nn (v:Value) (x:Nat):aH prog (qG prog) f43.ntmps (oU true fun _=>none) 40 (cA (cB gS)) (Nr v x) (Ew v x iD)=some ([],.nrm,Ew v x iD):=by kernel_rfl
theorem Nm (p:Option Addr) (N m x:Nat) (z:Int):aH prog (qG prog) f43.ntmps (oU true (aE [(9,iV z)])) 40 (cA (cA (cB (cB gS)))) (Ew (.slice p N m) x iD) (TY (.slice p N m) x iD z)=some ([aD .sub .i64 (Int.ofNat N) 1=some (iV z)],.nrm,TY (.slice p N m) x iD z):=by kernel_rfl
theorem Np (w:World) (b o N m x i y r:Nat) (z:Int):aH prog { qG prog with x:=xO w (aE [(19,i)]) (aE [(20,[.q y])]) (fun _=>none) } f43.ntmps (oU true (aE [(11,.bool true),(13,iV z)])) 60 DG (TY (aZ b o N m) x [.q r] (Int.ofNat i)) (TY (aZ b o N m) x [.q (jB (cS r x) y)] z) =
  some ([aD .geq .i64 (Int.ofNat i) 0=some (.bool true),r<RM,x<RM,Int.ofNat i=Int.ofNat i,i<N,oldOf w b (o+i*4) [.q y],cR [.q y]=4,cS r x<RM,y<RM,aD .sub .i64 (Int.ofNat i) 1=some (iV z)],.nrm,TY (aZ b o N m) x [.q (jB (cS r x) y)] z):=by kernel_rfl
theorem Yk (v:Value) (x:Nat) (l:List At) (z:Int):aH prog (qG prog) f43.ntmps (oU true (aE [(11,.bool false)])) 60 DG (TY v x l z) (Ew v x l)=some ([aD .geq .i64 z 0=some (.bool false)],.ex 0,Ew v x l):=by kernel_rfl
theorem Yj (v:Value) (x r:Nat):aH prog (qG prog) f43.ntmps (oU true fun _=>none) 60 (cB (cB (cB gS))) (Ew v x [.q r]) [.slot 4 (.pt 4 0),.row 4 true [.q r]]=some ([],.rt,[.slot 4 (.pt 4 0),.row 4 true [.q r]]):=by kernel_rfl
theorem NG {w0:World} {v:Value} {N x:Nat} {f:Nat→Nat} (hv:LV w0 v N f) (hN:N≤131072) (hf:bT N f) (hx:x<RM):Good prog 43 (.one (.fl [.q (eO x N f N)])) [v,.agg (aB [At.q x]).toArray] w0:=by
 have hG:bH prog (qG prog) w0.heap.size w0:=(aY _).w _ _;have hT:∀n d:Nat,TabOkW prog MQ w0.heap.size w0:=fun _ _=>qE.w _ _
 obtain⟨p,m,rfl,hm,h256,hmem⟩:=id hv;refine bJ func43 (cs:=[.v (.im (.slice p N m)),.v (.fl [.q x])]) (args:=[.slice p N m,.agg (aB [At.q x]).toArray]) (c:=gS) rfl ⟨rfl,rfl,trivial⟩ (Nat.le_of_ble_eq_true (by kernel_rfl)) fun a w1 hA => ?_
 rw[UK];refine wp_seq (aA aG hT hG (No _ x) trivial hA fun a w hA => ?_);refine wp_seq (aA aG hT hG (Nn _ x) trivial hA fun a w hA => ?_);refine wp_seq (wp_seq (aA aG hT hG (Nm _ N _ x (Int.ofNat N-1)) ⟨BR (by simp; omega) (by simp; omega),trivial⟩ hA fun a w hA => ?_));refine wp_block ?_;have hA:=hA.reflat (l':=[.q 0]) (by kernel_rfl);refine cE aG (fun k=>TY (.slice p N m) x [.q (eO x N f k)] (Int.ofNat N-1-Int.ofNat k)) N (fun k hk => ?_) (.ex 0) (by simp) (Ew (.slice p N m) x [.q (eO x N f N)]) ⟨_,_,_,_,hG,hT,Yk _ x _ _,RF (by simp; omega),trivial⟩ (by
  have e:Int.ofNat N-1-Int.ofNat 0=Int.ofNat N-1:=by simp
  show Holds _ _ _ (TY _ x [.q 0] (Int.ofNat N-1-Int.ofNat 0)) _ _;rw[e];exact hA) fun a w hA => ?_
 ·have hi:N-1-k<N:=by omega
  have ez:Int.ofNat N-1-Int.ofNat k=Int.ofNat (N-1-k):=by simp; omega
  have ez2:Int.ofNat N-1-Int.ofNat (k+1)=Int.ofNat (N-1-k)-1:=by simp; omega
  show Ok _ _ _ _ _ (TY _ x _ (Int.ofNat N-1-Int.ofNat k)) _ (TY _ x _ (Int.ofNat N-1-Int.ofNat (k+1)));rw[ez,ez2];have hb1 : -9223372036854775808≤Int.ofNat (N-1-k)-1:=by simp; omega
  have hb2:Int.ofNat (N-1-k)-1<9223372036854775808:=by simp; omega
  obtain⟨b,o,rfl,hb,hr⟩:=hmem (by omega);exact⟨_,_,_,_,cW w0 _ _ _,hT,Np w0 b o N m x (N-1-k) (f (N-1-k)) (eO x N f k) _,Ds,fF x N f k,hx,rfl,hi,dU hb hr hi,rfl,cL _ _,hf _ hi,BR hb1 hb2,trivial⟩
 ·show (cB (cB (cB gS))).wp _ _ _ _;exact aA aG hT hG (Yj _ x _) trivial hA fun a w' hA=>aW (l:=[.fl [.q (eO x N f N)]]) (r:=.one (.fl [.q (eO x N f N)])) (by kernel_rfl) (by kernel_rfl) hA
theorem PW (x y k:Nat):(x ||| y)/2^k=x/2^k ||| y/2^k:=by
 rw[←Nat.shiftRight_eq_div_pow,←Nat.shiftRight_eq_div_pow,←Nat.shiftRight_eq_div_pow,Nat.shiftRight_or_distrib]
theorem vU (x y k:Nat):(x ||| y)*2^k%4294967296=(x*2^k%4294967296) ||| (y*2^k%4294967296):=by
 rw[←Nat.shiftLeft_eq,←Nat.shiftLeft_eq,←Nat.shiftLeft_eq,Nat.shiftLeft_or_distrib];exact Nat.or_mod_two_pow (n:=32)
theorem Zn (a b c d:Nat):(a ||| b) ||| (c ||| d)=(a ||| c) ||| (b ||| d):=by
 rw[Nat.or_assoc,Nat.or_assoc,←Nat.or_assoc b,←Nat.or_assoc c,Nat.or_comm b c]
theorem xF (k m x y:Nat):eE k m (x ||| y)=eE k m x ||| eE k m y:=by
 unfold eE;rw[PW,Nat.and_or_distrib_right,Nat.and_or_distrib_right,vU,Zn]
theorem WZ (x y:Nat):qU (x ||| y)=qU x ||| qU y:=by
 unfold qU;rw[xF,PW,vU,Zn]
theorem WX (x y:Nat):nL (x ||| y)=nL x ||| nL y:=by
 unfold nL;rw[xF,xF,xF,WZ]
theorem OX:∀s,s<32→nL (2^s)=2^(31-s):=by decide +kernel
theorem Gw:nL 0=0:=by decide +kernel
theorem sT:∀s,s≤32→∀i,i<2^s→∃c,nL i=2^(32-s)*c∧(s<32→nL (2^s+i)=2^(32-s)*c+2^(31-s))
 | s,hs,i,hi=>by
  have h1:∃c,nL i=2^(32-s)*c:=by
   match s,hs,hi with
   | 0,_,hi =>
    have:i=0:=by simpa using hi
    subst this;exact⟨0,by rw[Gw,Nat.mul_zero]⟩
   | s+1,hs,hi =>
    have e2:2^(s+1)=2*2^s:=by rw[Nat.pow_succ,Nat.mul_comm]
    have e3:2^(32-s)=2*2^(32-(s+1)):=by rw[show 32-s=(32-(s+1))+1 by omega,Nat.pow_succ,Nat.mul_comm]
    rcases Nat.lt_or_ge i (2^s)with q|q
    ·obtain⟨c,h,_⟩:=sT s (by omega) i q;exact⟨2*c,by rw[h,e3,Nat.mul_comm 2,Nat.mul_assoc]⟩
    ·obtain⟨c,h,h2⟩:=sT s (by omega) (i-2^s) (by omega);have h2:=h2 (by omega);rw[show 2^s+(i-2^s)=i by omega]at h2;refine⟨2*c+1,?_⟩;rw[h2,e3,show 31-s=32-(s+1) by omega,Nat.mul_add,Nat.mul_one,Nat.mul_comm 2,Nat.mul_assoc]
  obtain⟨c,h⟩:=h1;refine⟨c,h,fun hs => ?_⟩;have e1:2^s+i=2^s ||| i:=by
   have:=Nat.two_pow_add_eq_or_of_lt hi 1
   rwa [Nat.mul_one]at this
  have hlt:2^(31-s)<2^(32-s):=Nat.pow_lt_pow_right (by omega) (by omega);rw[e1,WX,OX s hs,h,Nat.or_comm,Nat.two_pow_add_eq_or_of_lt hlt]
theorem Pq:DW 0 0=0:=by decide +kernel
theorem OJ (s i:Nat) (hs:s<32) (hi:i<2^s):DW (s+1) i=2*DW s i∧DW (s+1) (2^s+i)=2*DW s i+1:=by
 obtain⟨c,h1,h2⟩:=sT s (by omega) i hi;have h2:=h2 hs;have hp:0<2^(32-s):=Nat.pow_pos (by omega);have hq:0<2^(31-s):=Nat.pow_pos (by omega);have e3:2^(32-s)=2^(31-s)*2:=by rw[show 32-s=(31-s)+1 by omega,Nat.pow_succ]
 unfold DW;rw[h2,h1,Nat.mul_div_cancel_left _ hp,show 32-(s+1)=31-s by omega,e3,Nat.mul_assoc];refine⟨Nat.mul_div_cancel_left _ hq,?_⟩;rw[show 2^(31-s)*(2*c)+2^(31-s)=2^(31-s)*(2*c+1) by rw[Nat.mul_add,Nat.mul_one],Nat.mul_div_cancel_left _ hq]
theorem nJ:1<RM:=by decide
def KR:CR (Fin RM):=aAu RM nJ
def bO (x:Nat):Fin RM:=⟨x%RM,Nat.mod_lt _ fD⟩
theorem kC (x y:Nat):bO (jB x y)=KR.add (bO x) (bO y):=Fin.ext (by
 show (x+y)%RM%RM=(x%RM+y%RM)%RM;rw[Nat.mod_mod,Nat.add_mod])
theorem dK (x y:Nat):bO (cS x y)=KR.mul (bO x) (bO y):=Fin.ext (by
 show x*y%RM%RM=(x%RM)*(y%RM)%RM;rw[Nat.mod_mod,Nat.mul_mod])
theorem rI (x:Nat) {y:Nat} (hy:y<RM):bO (lV x y)=KR.add (bO x) (KR.neg (bO y)):=Fin.ext (by
 show (x+RM-y)%RM%RM=(x%RM+(0+RM-y%RM)%RM)%RM;rw[Nat.mod_mod,Nat.mod_eq_of_lt hy,Nat.mod_add_mod,Nat.add_mod_mod,show x+(0+RM-y)=x+RM-y by omega])
theorem GZ {x:Nat} (h:x<RM):(bO x).1=x:=Nat.mod_eq_of_lt h
theorem iW {x y:Nat} (hx:x<RM) (hy:y<RM) (h:bO x=bO y):x=y:=by
 have:=congrArg Fin.val h
 rwa [GZ hx,GZ hy]at this
theorem zK:bO 0=KR.zero:=rfl
theorem lM:bO 1=KR.one:=Fin.ext (Nat.mod_eq_of_lt nJ)
theorem fX (x y:Nat):∀i,bO (fE x y i)=KR.mul (bO x) (bD KR (bO y) i)
 | 0=>(KR.mul_one _).symm
 | i+1=>by
  show bO (cS (fE x y i) y)=KR.mul _ (KR.mul _ _);rw[dK,fX x y i,KR.mul_assoc]
theorem NN (x N:Nat) (f:Nat→Nat):∀k,k≤N→bO (eO x N f k)=lH KR (fun i=>bO (f (N-k+i))) k (bO x)
 | 0,_=>rfl
 | k+1,hk=>by
  show bO (jB (cS (eO x N f k) x) (f (N-1-k)))=bP KR (fun i=>KR.mul (bO (f (N-(k+1)+i))) (bD KR (bO x) i)) (k+1);rw[kC,dK,NN x N f k (by omega),iG,KR.add_comm];show KR.add _ (KR.mul (bP KR _ k) _)=KR.add (KR.mul (bO (f (N-(k+1)+0))) KR.one) _;rw[KR.mul_one,show N-(k+1)+0=N-1-k by omega,fY];congr 1;refine bE KR k fun i hi => ?_
  show KR.mul (KR.mul (bO (f (N-k+i))) (bD KR (bO x) i)) (bO x)=KR.mul (bO (f (N-(k+1)+(i+1)))) (KR.mul (bD KR (bO x) i) (bO x));rw[KR.mul_assoc,show N-(k+1)+(i+1)=N-k+i by omega]
theorem hJ (x N:Nat) (f:Nat→Nat):bO (eO x N f N)=lH KR (fun i=>bO (f i)) N (bO x):=by
 rw[NN x N f N (Nat.le_refl _)];exact jS KR _ fun i _=>by rw[Nat.sub_self,Nat.zero_add]
theorem qM {f:Nat→Nat} {lo hi step p:Nat} {tw:Nat→Nat}:∀j,(∀i,i<j→p≠lo+i∧p≠hi+i)→lF f lo hi step tw j p=f p
 | 0,_=>rfl
 | j+1,h=>by
  obtain⟨h1,h2⟩:=h j (by omega);show cN (cN (lF f lo hi step tw j) (lo+j) _) (hi+j) _ p=f p;rw[nD h2,nD h1];exact qM j fun i hi=>h i (by omega)
theorem Ef {f:Nat→Nat} {lo h step:Nat} {tw:Nat→Nat}:∀j i,j≤h→i<j→lF f lo (lo+h) step tw j (lo+i)=jB (f (lo+i)) (cS (f (lo+h+i)) (tw (i*step)))
 | j+1,i,hj,hi=>by
  show cN (cN (lF f lo (lo+h) step tw j) (lo+j) _) (lo+h+j) _ (lo+i)=_;rw[nD (by omega)]
  by_cases e:i=j
  ·subst e;unfold cN;rw[if_pos rfl,qM i fun k hk=>⟨by omega,by omega⟩,qM i fun k hk=>⟨by omega,by omega⟩]
  ·rw[nD (by omega)];exact Ef j i (by omega) (by omega)
theorem Eg {f:Nat→Nat} {lo h step:Nat} {tw:Nat→Nat}:∀j i,j≤h→i<j→lF f lo (lo+h) step tw j (lo+h+i)=lV (f (lo+i)) (cS (f (lo+h+i)) (tw (i*step)))
 | j+1,i,hj,hi=>by
  show cN (cN (lF f lo (lo+h) step tw j) (lo+j) _) (lo+h+j) _ (lo+h+i)=_
  by_cases e:i=j
  ·subst e;rw[show cN (cN (lF f lo (lo+h) step tw i) (lo+i) (jB (lF f lo (lo+h) step tw i (lo+i)) (cS (lF f lo (lo+h) step tw i (lo+h+i)) (tw (i*step))))) (lo+h+i) (lV (lF f lo (lo+h) step tw i (lo+i)) (cS (lF f lo (lo+h) step tw i (lo+h+i)) (tw (i*step)))) (lo+h+i)=_ from if_pos rfl,
    qM i fun k hk=>⟨by omega,by omega⟩,qM i fun k hk=>⟨by omega,by omega⟩]
  ·rw[nD (by omega),nD (by omega)];exact Eg j i (by omega) (by omega)
theorem zP {f:Nat→Nat} {half step p:Nat} {tw:Nat→Nat}:∀k,2*half*k≤p→zB f half step tw k p=f p
 | 0,_=>rfl
 | k+1,h=>by
  rw[Nat.mul_add,Nat.mul_one]at h;show lF (zB f half step tw k) (2*half*k) (2*half*k+half) step tw half p=f p;rw[qM half fun i hi=>⟨by omega,by omega⟩];exact zP k (by omega)
theorem Cv {f:Nat→Nat} {half step:Nat} {tw:Nat→Nat} {c i:Nat} (hi:i<half):∀k,c<k→zB f half step tw k (2*half*c+i)=jB (f (2*half*c+i)) (cS (f (2*half*c+half+i)) (tw (i*step)))
 | k+1,h=>by
  show lF (zB f half step tw k) (2*half*k) (2*half*k+half) step tw half _=_
  by_cases e:c=k
  ·subst e;rw[Ef half i (Nat.le_refl _) hi,zP c (by omega),zP c (by omega)]
  ·have:2*half*(c+1)≤2*half*k:=Nat.mul_le_mul_left _ (by omega);rw[Nat.mul_add,Nat.mul_one]at this;rw[qM half fun j hj=>⟨by omega,by omega⟩];exact Cv hi k (by omega)
theorem Cw {f:Nat→Nat} {half step:Nat} {tw:Nat→Nat} {c i:Nat} (hi:i<half):∀k,c<k→zB f half step tw k (2*half*c+half+i)=lV (f (2*half*c+i)) (cS (f (2*half*c+half+i)) (tw (i*step)))
 | k+1,h=>by
  show lF (zB f half step tw k) (2*half*k) (2*half*k+half) step tw half _=_
  by_cases e:c=k
  ·subst e;rw[Eg half i (Nat.le_refl _) hi,zP c (by omega),zP c (by omega)]
  ·have:2*half*(c+1)≤2*half*k:=Nat.mul_le_mul_left _ (by omega);rw[Nat.mul_add,Nat.mul_one]at this;rw[qM half fun j hj=>⟨by omega,by omega⟩];exact Cw hi k (by omega)
theorem UP (log s:Nat) (h:s+1≤log):2^log/2/2^s=2^(log-(s+1)):=by
 rw[Nat.div_div_eq_div_mul,show 2*2^s=2^(s+1) by rw[Nat.pow_succ,Nat.mul_comm]];exact Nat.pow_div h (by omega)
theorem CC {F:Nat→Nat} {log w:Nat} (hw:0<log→bD KR (bO w) (2^(log-1))=KR.neg KR.one):∀s,s≤log→∀k j,k<2^(log-s)→j<2^s →
  bO (zD F (2^log) (fE 1 w) s (2^s*k+j))=Ed KR (fun i=>bO (F i)) s (2^s*k) (bD KR (bO w) (j*2^(log-s)))
 | 0,_,k,j,hk,hj=>by
  have:j=0:=by simpa using hj
  subst this;rfl
 | s+1,hs,k,j,hk,hj=>by
  have e2:2^(s+1)=2*2^s:=by rw[Nat.pow_succ,Nat.mul_comm]
  have e3:2^(log-s)=2*2^(log-(s+1)):=by rw[show log-s=(log-(s+1))+1 by omega,Nat.pow_succ,Nat.mul_comm]
  have b0:2*2^s*k=2^s*(2*k):=by rw[Nat.mul_comm 2,Nat.mul_assoc]
  have b1:2*2^s*k+2^s=2^s*(2*k+1):=by rw[b0,Nat.mul_add,Nat.mul_one]
  have xx:∀i,KR.mul (bD KR (bO w) (i*2^(log-(s+1)))) (bD KR (bO w) (i*2^(log-(s+1))))=bD KR (bO w) (i*2^(log-s)):=fun i=>by
   rw[←kG,e3,←Nat.mul_add,show 2^(log-(s+1))+2^(log-(s+1))=2*2^(log-(s+1)) by omega]
  show bO (zB (zD F (2^log) (fE 1 w) s) (2^s) (2^log/2/2^s) (fE 1 w) (2^log/2/2^s) (2^(s+1)*k+j))=KR.add (Ed KR _ s (2^(s+1)*k) _) (KR.mul (Ed KR _ s (2^(s+1)*k+2^s) _) _);rw[UP log s hs,e2];have tw1:∀i,bO (fE 1 w i)=bD KR (bO w) i:=fun i=>by rw[fX,lM,KR.one_mul]
  rcases Nat.lt_or_ge j (2^s)with q|q
  ·rw[Cv q _ hk,kC,dK,tw1,b1,b0,CC hw s (by omega) (2*k) j (by omega) q,CC hw s (by omega) (2*k+1) j (by omega) q,xx]
  ·obtain⟨i,rfl⟩:∃i,j=2^s+i:=⟨j-2^s,by omega⟩
   have hi:i<2^s:=by omega
   rw[←Nat.add_assoc,Cw hi _ hk,rI _ (cL _ _),dK,tw1,b1,b0,CC hw s (by omega) (2*k) i (by omega) hi,CC hw s (by omega) (2*k+1) i (by omega) hi];have hx:bD KR (bO w) ((2^s+i)*2^(log-(s+1)))=KR.neg (bD KR (bO w) (i*2^(log-(s+1)))):=by
    rw[Nat.add_mul,←Nat.pow_add,show s+(log-(s+1))=log-1 by omega,kG,hw (by omega),KR.neg_mul,KR.one_mul]
   rw[hx,KR.neg_mul,KR.mul_neg,KR.neg_neg,KR.mul_neg,xx]
theorem Kt {f:Nat→Nat} {T log w:Nat} (hw:0<log→bD KR (bO w) (2^(log-1))=KR.neg KR.one) (hl:log≤16) (hT:T≤2^log) {j:Nat} (hj:j<2^log) :
  bO (zD (qS T f log) (2^log) (fE 1 w) log j)=lH KR (fun i=>bO (f i)) T (bD KR (bO w) j):=by
 have h:=CC (F:=qS T f log) hw log (Nat.le_refl _) 0 j (by rw[Nat.sub_self]; decide) hj;rw[Nat.mul_zero,Nat.zero_add,Nat.sub_self,Nat.pow_zero,Nat.mul_one]at h;rw[h,yO KR (rv:=DW) (L:=16) Pq (fun s i hs hi=>OJ s i (by omega) hi) log _ (fun i=>bO (nZ f T i)) 0 _ hl fun i hi=>by rw[Nat.zero_add]; rfl];obtain⟨d,hd⟩:∃d,2^log=T+d:=⟨2^log-T,by omega⟩
 rw[hd];clear h hw hT hj hd
 induction d with
 | zero=>exact jS KR _ fun i hi=>by unfold nZ; rw[if_pos (show i<T from hi)]
 | succ d ih =>
  show KR.add (lH KR _ (T+d) _) (KR.mul (bO (nZ f T (T+d))) _)=_;rw[ih];unfold nZ;rw[if_neg (by omega),zK,KR.zero_mul,KR.add_zero]
theorem Dy {f:Nat→Nat} {T log w:Nat} (hw:0<log→bD KR (bO w) (2^(log-1))=KR.neg KR.one) (hl:log≤16) (hT:T≤2^log) (hf:bT T f) {j:Nat} (hj:j<2^log) :
  zD (qS T f log) (2^log) (fE 1 w) log j=eO (fE 1 w j) T f T:=by
 refine iW (yL (N:=2^log) (fun i _ => ?_) log j hj) (fF _ _ _ _) ?_
 ·unfold qS nZ;split
  ·exact hf _ (by assumption)
  ·exact fD
 ·rw[Kt hw hl hT hj,hJ,fX,lM,KR.one_mul]
theorem mI (x:Nat):∀n,bO (x^n)=bD KR (bO x) n
 | 0=>lM
 | n+1=>by
  rw[show bD KR (bO x) (n+1)=KR.mul (bD KR (bO x) n) (bO x)from rfl,←mI x n,←dK];exact Fin.ext (by show x^(n+1)%RM=x^n*x%RM%RM; rw[Nat.mod_mod,Nat.pow_succ])
theorem iU (x n:Nat):bO (gJ x n)=bD KR (bO x) n:=by
 rw[←mI];exact Fin.ext (Nat.mod_mod _ _)
theorem YD {e:Nat} (h:5^e%RM=RM-1):bD KR (bO 5) e=KR.neg KR.one:=by
 rw[←mI];refine Fin.ext ?_;show 5^e%RM=(0+RM-1)%RM;rw[h];decide
theorem If {e:Nat} (h:5^e%RM=1):bD KR (bO 5) e=KR.one:=by
 rw[←mI];exact Fin.ext h
theorem ME:bD KR (bO 5) (RM/2)=KR.neg KR.one :=
 YD (e:=RM/2) (PS (n:=RM) (b:=5) (e:=RM/2) (v:=RM-1) (by decide) (by kernel_rfl))
theorem RY:bD KR (bO 5) (RM-1)=KR.one :=
 If (e:=RM-1) (PS (n:=RM) (b:=5) (e:=RM-1) (v:=1) (by decide) (by kernel_rfl))
theorem sY {log:Nat} (h:0<log):2^log=2^(log-1)*2:=by
 obtain⟨l,rfl⟩:∃l,log=l+1:=⟨log-1,by omega⟩
 rw[Nat.add_sub_cancel,Nat.pow_succ]
theorem EI:∀log,log<29→2^log*((RM-1)/2^log)=RM-1:=by decide +kernel
theorem rJ {log:Nat} (h:log≤28) (h0:0<log):bD KR (bO (cJ log)) (2^(log-1))=KR.neg KR.one:=by
 unfold cJ;rw[iU,←eJ];have e:=EI log (by omega);have e2:=sY h0;have e3:(RM-1)/2^log*2^(log-1)=RM/2:=by
  generalize (RM-1)/2^log=q at e;rw[e2,Nat.mul_assoc,Nat.mul_comm 2,←Nat.mul_assoc,Nat.mul_comm _ q]at e;generalize q*2^(log-1)=m at e;have:(RM-1)/2=RM/2:=by decide +kernel
  omega
 rw[e3,ME]
theorem sM {log:Nat} (h:log≤28):bD KR (bO (cJ log)) (2^log)=KR.one:=by
 by_cases h0:log=0
 ·subst h0;unfold cJ;rw[iU,←eJ,Nat.pow_zero,Nat.div_one,Nat.mul_one,RY]
 ·have:=rJ h (by omega);rw[sY (by omega),eJ,this];show KR.mul (KR.mul KR.one (KR.neg KR.one)) (KR.neg KR.one)=KR.one;rw[KR.one_mul,KR.neg_mul,KR.one_mul,KR.neg_neg]
def fO:Code:=(f8.body).getD .skip
theorem Bl:fO=.seq (cA fO) (.seq (cA (cB fO)) (.seq (.region 2 (aO (cA (cB (cB fO)))) false) .ret)):=by kernel_rfl
def cfF (v:Value):List Fact:=[.slot 0 (.im v),.slot 3 (.im (.slice none 0 0))]
theorem Vi (v:Value):aH prog (qG prog) f8.ntmps (cG fun _=>none) 40 (cA fO) (eF 0 [.v (.im v)]) [.slot 0 (.im v)]=some ([],.nrm,[.slot 0 (.im v)]):=by kernel_rfl
theorem Vh (v:Value):aH prog (qG prog) f8.ntmps (cG fun _=>none) 40 (cA (cB fO)) [.slot 0 (.im v)] (cfF v)=some ([],.nrm,cfF v):=by kernel_rfl
def Ei (v:Value):List Fact:=[.slot 4 (.im (.slice none 0 0)),.slot 5 (.im v)]
theorem Vg (v:Value):dR prog (qG prog) f8.ntmps bX ((aO (cA (cB (cB fO)))).extract 0 2) (cfF v) (Ei v)=some ([],Ei v):=by kernel_rfl
theorem Vf (T:Nat) (l:List At):dR prog (qG prog) f8.ntmps bX ((aO (cA (cB (cB fO)))).extract 3 4) [.slot 6 (.so 1000 T),.row 1000 true l,.app 1000 25 4 T] [.slot 2 (.so 1000 T),.row 1000 true l,.app 1000 25 4 T]=some ([],[.slot 2 (.so 1000 T),.row 1000 true l,.app 1000 25 4 T]):=by kernel_rfl
theorem Ve (v:Value):dR prog (qG prog) f8.ntmps bX ((aO (cA (cB (cB fO)))).extract 3 4) (.slot 6 (.im (.slice none 0 0))::Ei v) [.slot 2 (.im (.slice none 0 0))]=some ([],[.slot 2 (.im (.slice none 0 0))]):=by kernel_rfl
theorem Lq (T:Nat) (l:List At):AL prog [.slot 2 (.so 1000 T),.row 1000 true l,.app 1000 25 4 T] f8.results.toList []=some ⟨l,T,25,4,true,[],[]⟩:=by
 have h:Nat.beq T T=true:=Nat.beq_refl T;show (bif Nat.beq T T then some (FS.mk l T 25 4 true [] [])else none)=_;rw[h];rfl
theorem TI {w:World} {p:Option Addr} {N m:Nat} {f:Nat→Nat} (hv:LV w (.slice p N m) N f) (h0:0<N) (hN:N*32≤140737488355328) (ty:TypeId) :
  ∃b cap w',(Builtin.append_ #[22,22] ty #[.slice none 0 0,.slice p N m]).run prog w=.ok (.slice (some ⟨b,0,none⟩) N cap) w'∧AppAt w' b 25 4 N cap∧w.heap.size≤b∧b<w'.heap.size∧w'.rangeAt b 0 (aB (aR (el f) 0 N))∧(∀j,w'.frozen? ⟨b,j,none⟩=false)∧Below w.heap.size w w'∧Shape w w':=by
 obtain⟨p',m',e,h2,h3,h4⟩:=hv;cases e;obtain⟨b,o,rfl,hb,hr⟩:=h4 h0;obtain⟨c,cap,w',hr',a1,a2,a3,a4,a5,a6,a7⟩:=oF (P:=prog) w (ty:=ty) feT (Or.inl ⟨rfl,rfl,rfl⟩) (ad:=⟨b,o,none⟩) (m:=N) (c:=m) (news:=aB (aR (el f) 0 N)) (yU f N 0) (fun j v hj=>by
  have e:(⟨b,o,none⟩:Addr).add j=⟨b,o+j,none⟩:=by simp[Addr.add]
  rw[e];exact hr j v hj) (rU f N 0) h0 (by omega) (by unfold maxLen; omega)
 rw[Nat.zero_add]at hr' a1;refine⟨c,cap,w',hr',a1,?_,a2,a3,a4,(Below.refl w.heap.size w).grown a5 (Nat.le_refl _) (fun k hk=>by cases hk),a6⟩
 rcases a7 with h|⟨c0,h⟩
 ·exact h
 ·cases h
theorem CN {w0:World} {p:Option Addr} {N m:Nat} {f:Nat→Nat} (hv:LV w0 (.slice p N m) N f) (hN:N*32≤140737488355328) (hp:p=none→m=0) :
  (N=0→Good prog 8 (.one (.im (.slice none 0 0))) [.slice p N m] w0) ∧
  (0<N→Calls prog 8 #[.slice p N m] w0 (fun e w'=>FS.ok ⟨aR (el f) 0 N,N,25,4,true,[],[]⟩ w0 e w')):=by
 have hG:bH prog (qG prog) w0.heap.size w0:=(aY _).w _ _;have hT:∀n d:Nat,TabOkW prog dW w0.heap.size w0:=fun _ _=>bG.w _ _
 have first:∀R:Ending→World→Prop,(∀a w,Holds f8.ntmps w0.heap.size w0 (Ei (.slice p N m)) a w→wpOps prog (aO (cA (cB (cB fO)))) (fun e a w=>match e with | .normal=>Code.ret.wp prog (bodyPost prog f8 R) a w|e=>bodyPost prog f8 R e a w) (2::(List.range' 3 ((aO (cA (cB (cB fO)))).extract 3 4).size++[])) a w)→Calls prog 8 #[.slice p N m] w0 R:=fun R hR=>by
  refine bJ func8 (cs:=[.v (.im (.slice p N m))]) (args:=[.slice p N m]) (c:=fO) rfl ⟨rfl,trivial⟩ (Nat.le_of_ble_eq_true (by kernel_rfl)) fun a w' hA => ?_
  rw[Bl];refine wp_seq (aA aG hT hG (Vi _) trivial hA fun a w' hA => ?_);refine wp_seq (aA aG hT hG (Vh _) trivial hA fun a w' hA => ?_);refine wp_seq (cD (l:=List.range' 0 ((aO (cA (cB (cB fO)))).extract 0 2).size++(2::(List.range' 3 ((aO (cA (cB (cB fO)))).extract 3 4).size++[]))) (by kernel_rfl) ?_);exact aL (c:=bX) (hT 0) hG (Vg _) trivial (by kernel_rfl) hA fun a w1 hA=>hR a w1 hA
 obtain⟨o,ho,hoo,hod,hog⟩:∃o,(aO (cA (cB (cB fO))))[2]?=some o∧o.op=.call ⟨.builtin .append,#[.tmp 4,.tmp 5],#[22,22]⟩∧o.dst=some 6∧o.guard=none:=⟨_,rfl,rfl,rfl,rfl⟩
 refine⟨fun h0=>first _ fun a w hA => ?_,fun h0=>first _ fun a w hA => ?_⟩
 ·have h20:a.eval (.tmp 4)=.slice none 0 0:=by have:=hA.slot (s:=4) (v:=.slice none 0 0) (by simp[Ei]); simp[Act.eval,this]
  have h23:a.eval (.tmp 5)=.slice p 0 m:=by have:=hA.slot (s:=5) (v:=.slice p N m) (by simp[Ei]); rw[h0]at this; simp[Act.eval,this]
  obtain⟨w',hr,hb⟩:=CV (w:=w) hp o.type;have hrun:(execOp a.eval o).run prog w=.ok (.value (.slice none 0 0)) w':=by
   unfold execOp;simp only[hoo,resolve,invoke,builtin,Sem.run_bind,Sem.run_pure,Result.andThen_ok,List.map_toArray,List.map_cons,List.map_nil,h20,h23,hr]
  refine dJ ho hog (gN hrun ?_);rw[hod];have hA:=hA.put hb (d:=6) (Nat.le_of_ble_eq_true (by kernel_rfl)) (.im (.slice none 0 0)) (kH (by kernel_rfl));exact aL (c:=bX) (hT 0) hG (Ve _) trivial (by kernel_rfl) hA fun a w1 hA=>wp_ret (aW (l:=[.im (.slice none 0 0)]) (r:=.one (.im (.slice none 0 0))) (by kernel_rfl) (by kernel_rfl) hA)
 ·have h20:a.eval (.tmp 4)=.slice none 0 0:=by have:=hA.slot (s:=4) (v:=.slice none 0 0) (by simp[Ei]); simp[Act.eval,this]
  have h23:a.eval (.tmp 5)=.slice p N m:=by have:=hA.slot (s:=5) (v:=.slice p N m) (by simp[Ei]); simp[Act.eval,this]
  obtain⟨b,cap,w',hr,a1,a2,a3,a4,a5,hb,hs⟩:=TI (hv.on hA.below) h0 hN o.type;have hrun:(execOp a.eval o).run prog w=.ok (.value (.slice (some ⟨b,0,none⟩) N cap)) w':=by
   unfold execOp;simp only[hoo,resolve,invoke,builtin,Sem.run_bind,Sem.run_pure,Result.andThen_ok,List.map_toArray,List.map_cons,List.map_nil,h20,h23,hr]
  refine dJ ho hog (gN hrun ?_);rw[hod];have hsz:=hA.below.size;have hA:=hA.anewS (hA.below.trans (hb.mono hsz)) hs (Nat.le_trans hsz hb.size) (d:=6) (k:=1000) (Nat.le_of_ble_eq_true (by kernel_rfl)) (Nat.le_trans hsz a2) a3 a4 a5 a1 (by rw[show f8.ntmps=7 by kernel_rfl]; omega);exact aL (c:=bX) (hT 0) hG (Vf N _) trivial (by kernel_rfl) hA fun a w1 hA=>wp_ret (mQ (Lq _ _) hA)
def Ag (P:Program) (q:EqT) (C:Nat→Cfg) (fn:Func) (n:Nat) (cs:List CA):Option (List Prop×FR) :=
 match fn.body with
 | some c=>bif Nat.ble cs.length fn.ntmps then
   (match run P q fn.ntmps C n c (eF 0 cs)with
   | some (ps,.rt,A)=>match OZ P A fn.results.toList with
    | some r=>some (ps,r)
    | none=>none
   | _=>none)else none
 | none=>none
theorem tT {P:Program} {q:EqT} {C:Nat→Cfg} {w:World} (hm:P.follows .mixedOrders=true) (hT:∀n d,TabOkW P ((C n).T d) w.heap.size w) (hq:bH P q w.heap.size w) {f:FuncId} {fn:Func} (hf:P.funcs[f]?=some fn) {n:Nat} {cs:List CA} {ps:List Prop} {r:FR}
  (h:Ag P q C fn n cs=some (ps,r)) (hps:aQ ps) {args:List Value} (ha:cF w cs args):Calls P f args.toArray w (fun e w'=>r.ok w e w'):=by
 unfold Ag at h;split at h
 ·rename_i c hb;cases hle:Nat.ble cs.length fn.ntmps<;>rw[hle]at h
  ·cases h
  ·simp only[cond_true]at h;split at h
   ·rename_i ps' A hrun;split at h
    ·rename_i r' hr;cases h;exact bJ hf hb ha (Nat.le_of_ble_eq_true hle) fun a w' hH=>(dA (P:=P) (q:=q) (nt:=fn.ntmps) (C:=C) hm hT hq n c _ A ps .rt a w' _ hrun hps hH fun a w' hA=>fA hr hA).1
    ·cases h
   ·cases h
 ·cases h
def Jm (v:Value) (N:Nat) (f:Nat→Nat):List CA→Option (List Prop×FR)
 | [.v (.im u),.v (.im (.int .i64 (.ofNat log))),.v (.fl r)]=>match jQ r with
  | some x=>some ([u=v,log≤16,x<RM],⟨aR (el (zD (qS N f log) (2^log) (fE 1 x) log)) 0 (2^log),2^log,2^log,[]⟩)
  | none=>none
 | _=>none
theorem ZK {w:World} {v:Value} {N:Nat} {f:Nat→Nat} (hv:LV w v N f) (hf:bT N f):∀cs pre r,Jm v N f cs=some (pre,r)→aQ pre→∀(args:List Value),cF w cs args→Calls prog 34 args.toArray w (fun e w'=>r.ok w e w'):=by
 intro cs pre r hg hp args ha;unfold Jm at hg;split at hg
 ·rename_i u log r0;split at hg
  ·rename_i x hx;cases hg
   match args,ha with
   | [a1,a2,a3],ha =>
    have h1:a1=u:=ha.1;have h2:a2=iI log:=ha.2.1;have h3:a3=.agg (aB r0).toArray:=ha.2.2.1;have h4:=hp.1;rw[bL r0 x hx]at h3;subst h1; subst h2; subst h3; subst h4;exact zL hv hf hp.2.1 hp.2.2.1
   | [],ha=>exact ha.elim
   | [_],ha=>exact ha.2.elim
   | [_,_],ha=>exact ha.2.2.elim
   | _::_::_::_::_,ha=>exact ha.2.2.2.elim
  ·cases hg
 ·cases hg
theorem IE {log:Nat} (h:log≤28):cJ log≠0:=fun e=>by
 have:=sM h;rw[e,zK]at this;have hp:0<2^log:=Nat.pow_pos (by omega);obtain⟨k,hk⟩:∃k,2^log=k+1:=⟨2^log-1,by omega⟩
 rw[hk,PG]at this;have h2:=congrArg Fin.val this;revert h2;show (0:Nat)=1→False;omega
def TZ (N:Nat) (f:Nat→Nat) (log:Nat):Nat→Nat:=zD (qS N f log) (2^log) (fE 1 (fJ (cJ log))) log
def smC (v:Value) (N:Nat) (f:Nat→Nat):EqT:={ qG prog with x:=ND (rG.add 34 (Jm v N f)) }
theorem Gh (v:Value) (N log:Nat) (f:Nat→Nat):Ag prog (smC v N f) (Pt true fun _=>none) f45 60 [.v (.im v),.v (.im (iI log))]=some ([log<9223372036854775808,cJ log<RM,cJ log≠0,v=v,log≤16,fJ (cJ log)<RM],⟨aR (el (TZ N f log)) 0 (2^log),2^log,2^log,[]⟩):=by kernel_rfl
theorem OC {w:World} {v:Value} {N log:Nat} {f:Nat→Nat} (hv:LV w v N f) (hf:bT N f) (hl:log≤16):Calls prog 45 #[v,iI log] w (fun e w'=>FR.ok ⟨aR (el (TZ N f log)) 0 (2^log),2^log,2^log,[]⟩ w e w') :=
 tT aG (fun _ _=>qC.w _ _) (jG fun w' hw=>(FrAt.none _ _).add func34 (by kernel_rfl) (by kernel_rfl) (ZK (hv.on hw) hf)) func45 (Gh v N log f) ⟨by omega,eB _ _,IE (by omega),rfl,hl,jH _,trivial⟩ (args:=[v,iI log]) ⟨rfl,rfl,trivial⟩
theorem VB {log:Nat} {x y:Operand} (h:log≤28):dD .shl 23 x y (.int .u64 1) (iI log) (.int .u64 (Int.ofNat (2^log))):=fun w=>by
 have hp2:2^log≤268435456:=Nat.pow_le_pow_right (n:=2) (by omega) h;have e:(2:Int)^log%18446744073709551616=2^log:=by
  have e1:(2:Int)^log=((2^log:Nat):Int):=by simp
  rw[e1];exact Int.emod_eq_of_lt (Int.natCast_nonneg _) (by omega)
 simp[eqGuard,binOp,go_sem,iI,IntKind.wrap,IntKind.signed,IntKind.bits,Nat.min_eq_left (show log≤64 by omega),e]
theorem Gi (log:Nat):eU prog { qG prog with x:=xG (aE [(4,.int .u64 (Int.ofNat (2^log)))]) } (cG fun _=>none) f46 60 [.v (.im (iI log))]=some ([dD .shl 23 (.const (.int .u64 1)) (.tmp 3) (.int .u64 1) (iI log) (.int .u64 (Int.ofNat (2^log))),2^log<18446744073709551616,2^log<RM,2^log≠0],.one (.fl [.q (fJ (2^log))])):=by kernel_rfl
def gSh:iR
 | [.v (.im (.int .i64 (.ofNat log)))]=>some ([log≤28],.one (.fl [.q (fJ (2^log))]))
 | _=>none
theorem Jo:∀cs pre r,gSh cs=some (pre,r)→aQ pre→∀(args:List Value) (w:World),cF w cs args→Good prog 46 r args w:=by
 intro cs pre r hg hp args w ha;unfold gSh at hg;split at hg
 ·rename_i log;cases hg;have hl:log≤28:=hp.1;have hp2:2^log≤268435456:=Nat.pow_le_pow_right (n:=2) (by omega) hl;have hp1:0<2^log:=Nat.pow_pos (by omega);exact bQ aG (fun _ _=>bG.w _ _) (eP _ _ _) func46 (Gi log) ⟨VB hl,by omega,Nat.lt_of_le_of_lt hp2 (by decide),by omega,trivial⟩ ha
 ·cases hg
def Wz:Tab:=yZ.add 46 gSh
theorem Qy:TabOk prog Wz:=qC.add func46 (by kernel_rfl) (by kernel_rfl) Jo
def Ja (N:Nat) (f:Nat→Nat):List CA→Option (List Prop×FR)
 | [.s l n m,.v (.fl a),.v (.fl b)]=>match jQ a,jQ b with
  | some x,some y=>some ([aB l=aB (aR (el f) 0 N),n=N,N≤m,bT N f,N≤131072,x<RM,y<RM],⟨aR (el (DA f x y)) 0 N,N,N,[]⟩)
  | _,_=>none
 | _=>none
theorem YY {N:Nat} {f:Nat→Nat}:∀cs pre r,Ja N f cs=some (pre,r)→aQ pre→∀(args:List Value) (w:World),cF w cs args→Calls prog 35 args.toArray w (fun e w'=>r.ok w e w'):=by
 intro cs pre r hg hp args w ha;unfold Ja at hg;split at hg
 ·rename_i l n m a b;split at hg
  ·rename_i x y hx hy;cases hg
   match args,ha with
   | [a1,a2,a3],ha =>
    have h2:a2=.agg (aB a).toArray:=ha.2.1;have h3:a3=.agg (aB b).toArray:=ha.2.2.1;rw[bL a x hx]at h2;rw[bL b y hy]at h3;subst h2; subst h3;obtain⟨p1,p2,p3,p4,p5,p6,p7,_⟩:=hp;exact zF (LV.ofS ha.1 p1 p2 p3 fun j hj=>eQ (p4 j hj)) p5 p4 p6 p7
   | [],ha=>exact ha.elim
   | [_],ha=>exact ha.2.elim
   | [_,_],ha=>exact ha.2.2.elim
   | _::_::_::_::_,ha=>exact ha.2.2.2.elim
  ·cases hg
 ·cases hg
def Jf (N:Nat) (f:Nat→Nat):List CA→Option (List Prop×FR)
 | [.s l n m]=>some ([aB l=aB (aR (el f) 0 N),n=N,N≤m,bT N f,N≤131072],⟨aR (el f) 0 (aF f N),aF f N,aF f N,[]⟩)
 | _=>none
theorem ZD {N:Nat} {f:Nat→Nat}:∀cs pre r,Jf N f cs=some (pre,r)→aQ pre→∀(args:List Value) (w:World),cF w cs args→Calls prog 44 args.toArray w (fun e w'=>r.ok w e w'):=by
 intro cs pre r hg hp args w ha;unfold Jf at hg;split at hg
 ·rename_i l n m;cases hg
  match args,ha with
  | [a1],ha =>
   obtain⟨p1,p2,p3,p4,p5,_⟩:=hp;exact sC (LV.ofS ha.1 p1 p2 p3 fun j hj=>eQ (p4 j hj)) p5
  | [],ha=>exact ha.elim
  | _::_::_,ha=>exact ha.2.elim
 ·cases hg
def Jn (v:Value) (N:Nat) (f:Nat→Nat):List CA→Option (List Prop×FR)
 | [.v (.im u),.v (.im (.int .i64 (.ofNat log)))]=>some ([u=v,log≤16],⟨aR (el (TZ N f log)) 0 (2^log),2^log,2^log,[]⟩)
 | _=>none
theorem ZL {w:World} {v:Value} {N:Nat} {f:Nat→Nat} (hv:LV w v N f) (hf:bT N f):∀cs pre r,Jn v N f cs=some (pre,r)→aQ pre→∀(args:List Value),cF w cs args→Calls prog 45 args.toArray w (fun e w'=>r.ok w e w'):=by
 intro cs pre r hg hp args ha;unfold Jn at hg;split at hg
 ·rename_i u log;cases hg
  match args,ha with
  | [a1,a2],ha =>
   have h1:a1=u:=ha.1;have h2:a2=iI log:=ha.2.1;have h4:=hp.1;subst h1; subst h2; subst h4;exact OC hv hf hp.2.1
  | [],ha=>exact ha.elim
  | [_],ha=>exact ha.2.elim
  | _::_::_::_,ha=>exact ha.2.2.elim
 ·cases hg
def jE (N:Nat) (f:Nat→Nat) (log x:Nat):Nat→Nat:=DA (TZ N f log) (fJ (2^log)) (fJ x)
def fN:Code:=(f11.body).getD .skip
theorem Bb:fN=.seq (cA fN) (.seq (cA (cB fN)) (.seq (cA (cB (cB fN))) (cB (cB (cB fN))))):=by kernel_rfl
def coC (v:Value) (N:Nat) (f:Nat→Nat) (num:Nat→Option Value) (_:Nat):Cfg:=⟨fun _=>yZ.add 32 (LZ v N f),fun _=>true,num⟩
theorem Ux (v:Value) (z:Int) (x:Nat):aH prog (qG prog) f11.ntmps (cG fun _=>none) 40 (cA fN) (eF 0 [.v (.im v),.v (.im (iV z)),.v (.fl [.q x])]) (eG v z x)=some ([],.nrm,eG v z x):=by kernel_rfl
def JS (e:Int):List Fact:=[.slot 6 (.im (.slice none 0 0)),.slot 7 (.im (.int .i64 e))]
theorem Lf (v:Value) (N:Nat) (f:Nat→Nat) (z:Int) (x:Nat):aH prog (qG prog) f11.ntmps (coC v N f (aE [(14,.bool true)])) 40 (cA (cB fN)) (eG v z x) (JS (gX N f z x))=some ([v=v,x<aT,aD .neq .i64 (gX N f z x) 0=some (.bool true)],.rt,JS (gX N f z x)):=by kernel_rfl
theorem JR (v:Value) (N:Nat) (f:Nat→Nat) (z:Int) (x:Nat):aH prog (qG prog) f11.ntmps (coC v N f (aE [(14,.bool false)])) 40 (cA (cB fN)) (eG v z x) (eG v z x)=some ([v=v,x<aT,aD .neq .i64 (gX N f z x) 0=some (.bool false)],.nrm,eG v z x):=by kernel_rfl
theorem Le (p:Option Addr) (N m log x:Nat):aH prog { qG prog with x:=xG (aE [(19,iI (2^log))]) } f11.ntmps (cG (aE [(20,.bool true)])) 40 (cA (cB (cB fN))) (eG (.slice p N m) (Int.ofNat log) x) (JS 3)=some ([dD .shl 3 (.const (iI 1)) (.tmp 18) (iI 1) (iI log) (iI (2^log)),aD .neq .i64 (Int.ofNat N) (Int.ofNat (2^log))=some (.bool true)],.rt,JS 3):=by kernel_rfl
theorem Ld (p:Option Addr) (N m log x:Nat):aH prog { qG prog with x:=xG (aE [(19,iI (2^log))]) } f11.ntmps (cG (aE [(20,.bool false)])) 40 (cA (cB (cB fN))) (eG (.slice p N m) (Int.ofNat log) x) (eG (.slice p N m) (Int.ofNat log) x)=some ([dD .shl 3 (.const (iI 1)) (.tmp 18) (iI 1) (iI log) (iI (2^log)),aD .neq .i64 (Int.ofNat N) (Int.ofNat (2^log))=some (.bool false)],.nrm,eG (.slice p N m) (Int.ofNat log) x):=by kernel_rfl
def aAO (v:Value) (N:Nat) (f F G:Nat→Nat):Tab2:=((rG.add 45 (Jn v N f)).add 35 (Ja N F)).add 44 (Jf N G)
def shC (_:Nat):Cfg:=⟨fun _=>Wz,fun _=>true,fun _=>none⟩
def coY (n:Nat) (l:List At):List Fact:=[.slot 6 (.sl 29 0 n n),.row 29 true l,.slot 7 (.im (.int .i64 0))]
theorem aAy (v:Value) (log x:Nat) (f:Nat→Nat):aH prog { qG prog with x:=ND (aAO v (2^log) f (TZ (2^log) f log) (jE (2^log) f log x)) } f11.ntmps shC 60 (cB (cB (cB fN))) (eG v (Int.ofNat log) x) (coY (aF (jE (2^log) f log x) (2^log)) (aR (el (jE (2^log) f log x)) 0 (aF (jE (2^log) f log x) (2^log)))) =
  some ([v=v,log≤16,log≤28,x<RM,x≠0,aB (aR (el (TZ (2^log) f log)) 0 (2^log))=aB (aR (el (TZ (2^log) f log)) 0 (2^log)),2^log=2^log,2^log≤2^log,bT (2^log) (TZ (2^log) f log),2^log≤131072,fJ (2^log)<RM,fJ x<RM,
   aB (aR (el (jE (2^log) f log x)) 0 (2^log))=aB (aR (el (jE (2^log) f log x)) 0 (2^log)),2^log=2^log,2^log≤2^log,bT (2^log) (jE (2^log) f log x),2^log≤131072],.rt,coY (aF (jE (2^log) f log x) (2^log)) (aR (el (jE (2^log) f log x)) 0 (aF (jE (2^log) f log x) (2^log)))):=by kernel_rfl
def qN (N:Nat) (f:Nat→Nat) (z:Int) (x:Nat):Int:=if gX N f z x≠0 then gX N f z x else if N=2^z.toNat then 0 else 3
theorem Pc {N log:Nat} {f:Nat→Nat} (hf:bT N f) (M:Nat):bT M (qS N f log):=fun j _=>by
 unfold qS nZ;split
 ·exact hf _ (by assumption)
 ·exact fD
theorem Pe {N log:Nat} {f:Nat→Nat} (hf:bT N f) (M:Nat):bT M (TZ N f log):=yL (Pc hf M) log
theorem oL {a b:Nat} {t:Bool} (h:decide (a=b) = !t):aD .neq .i64 (Int.ofNat a) (Int.ofNat b)=some (.bool t):=by
 show some (Value.bool (Int.ofNat a != Int.ofNat b))=_
 by_cases e:a=b
 ·subst e; cases t<;>simp_all
 ·have e2:Int.ofNat a≠Int.ofNat b:=fun h=>e (Int.ofNat.inj h)
  cases t<;>simp_all
theorem uF {w0:World} {v:Value} {N x:Nat} {f:Nat→Nat} {z:Int} (hv:LV w0 v N f) (hN:N≤2305843009213693952) (hx:x<aT) :
  (qN N f z x≠0→Good prog 11 (.many [.im (.slice none 0 0),.im (.int .i64 (qN N f z x))]) [v,iV z,.agg (aB [At.q x]).toArray] w0) ∧
  (qN N f z x=0→Calls prog 11 #[v,iV z,.agg (aB [At.q x]).toArray] w0 (fun e w'=>FR.ok ⟨aR (el (jE N f z.toNat x)) 0 (aF (jE N f z.toNat x) N),aF (jE N f z.toNat x) N,aF (jE N f z.toNat x) N,[.im (.int .i64 0)]⟩ w0 e w')):=by
 have hG:bH prog (qG prog) w0.heap.size w0:=(aY _).w _ _;have hT:∀n d:Nat,TabOkW prog dW w0.heap.size w0:=fun _ _=>bG.w _ _
 obtain⟨p,m,rfl,hm,h256,hmem⟩:=id hv;have hV:∀n d:Nat,TabOkW prog (yZ.add 32 (LZ (.slice p N m) N f)) w0.heap.size w0:=fun _ _=>TabOkW.add (qC.w _ _) func32 (by kernel_rfl) (by kernel_rfl) fun w hw=>JI (hv.on hw) (by omega)
 have first:∀R:Ending→World→Prop,(∀a w,Holds f11.ntmps w0.heap.size w0 (eG (.slice p N m) z x) a w→(Code.seq (cA (cB fN)) (.seq (cA (cB (cB fN))) (cB (cB (cB fN))))).wp prog (bodyPost prog f11 R) a w)→Calls prog 11 #[.slice p N m,iV z,.agg (aB [At.q x]).toArray] w0 R:=fun R hR=>by
  refine bJ func11 (cs:=[.v (.im (.slice p N m)),.v (.im (iV z)),.v (.fl [.q x])]) (args:=[.slice p N m,iV z,.agg (aB [At.q x]).toArray]) (c:=fN) rfl ⟨rfl,rfl,rfl,trivial⟩ (Nat.le_of_ble_eq_true (by kernel_rfl)) fun a w1 hA => ?_
  rw[Bb];exact wp_seq (aA aG hT hG (Ux _ z x) trivial hA fun a w1 hA=>hR a w1 hA)
 unfold qN
 by_cases he:gX N f z x=0
 ·rw[if_neg (fun q=>q he)];obtain⟨q1,q2,q3,q4,log,q5,rfl⟩:=iN he;rw[show (Int.ofNat log).toNat=log from rfl];have hp2:2^log≤65536:=Nat.pow_le_pow_right (n:=2) (by omega) q5
  by_cases hL:N=2^log
  ·rw[if_pos hL];subst hL;refine⟨fun h=>absurd rfl h,fun _=>first _ fun a w hA => ?_⟩;refine wp_seq (aA aG hV hG (JR _ _ f _ x) ⟨rfl,hx,by rw[he]; rfl,trivial⟩ hA fun a w hA => ?_);refine wp_seq (aA aG hT (eP _ _ _) (Ld p (2^log) m log x) ⟨gO (by omega),oL (by simp),trivial⟩ hA fun a w hA => ?_);exact aA aG (fun _ _=>Qy.w _ _) (jG fun w' hw=>(((FrAt.none _ _).add func45 (by kernel_rfl) (by kernel_rfl) (ZL (hv.on hw) q2)).add func35 (by kernel_rfl) (by kernel_rfl) fun cs pre r h1 h2 args ha=>YY cs pre r h1 h2 args w' ha).add func44 (by kernel_rfl) (by kernel_rfl) fun cs pre r h1 h2 args ha=>ZD cs pre r h1 h2 args w' ha) (aAy _ log x f) ⟨rfl,q5,by omega,q3,q4,rfl,rfl,Nat.le_refl _,Pe q2 _,by omega,jH _,jH _,rfl,rfl,Nat.le_refl _,fun j hj=>cL _ _,by omega,trivial⟩ hA fun a w hA=>fA (r:=⟨aR (el (jE (2^log) f log x)) 0 (aF (jE (2^log) f log x) (2^log)),aF (jE (2^log) f log x) (2^log),aF (jE (2^log) f log x) (2^log),[.im (.int .i64 0)]⟩) (by kernel_rfl) hA
  ·rw[if_neg hL];refine⟨fun _=>first _ fun a w hA => ?_,fun h=>by cases h⟩;refine wp_seq (aA aG hV hG (JR _ _ f _ x) ⟨rfl,hx,by rw[he]; rfl,trivial⟩ hA fun a w hA => ?_);exact wp_seq (aA aG hT (eP _ _ _) (Le p N m log x) ⟨gO (by omega),oL (by simp[hL]),trivial⟩ hA fun a w hA=>aW (l:=[.im (.slice none 0 0),.im (.int .i64 3)]) (r:=.many [.im (.slice none 0 0),.im (.int .i64 3)]) (by kernel_rfl) (by kernel_rfl) hA)
 ·rw[if_pos he];refine⟨fun _=>first _ fun a w hA => ?_,fun h=>absurd h he⟩;exact wp_seq (aA aG hV hG (Lf _ N f z x) ⟨rfl,hx,tG he,trivial⟩ hA fun a w hA=>aW (l:=[.im (.slice none 0 0),.im (.int .i64 (gX N f z x))]) (r:=.many [.im (.slice none 0 0),.im (.int .i64 (gX N f z x))]) (by kernel_rfl) (by kernel_rfl) hA)
def YV (A:List Fact) (s:Nat):Option TV:=match nR A s with
 | some (.im v)=>some (.im v)
 | some (.fl l)=>some (.fl l)
 | some (.pt k o)=>(match nW A k with|some b=>some (.im (bZ b o))|none=>none)
 | some (.sl k o n m)=>(match nW A k with|some b=>some (.im (aZ b o n m))|none=>none)
 | _=>none
def yD (A:List Fact):List Nat→Option (List (Nat×TV))
 | []=>some []
 | s::r=>match YV A s,yD A r with|some t,some l=>some ((s,t)::l)|_,_=>none
def pU (A:List Fact):List Operand→Option (List Value)
 | []=>some []
 | .tmp s::r=>(match YV A s,pU A r with|some t,some l=>some (t.den::l)|_,_=>none)
 | .const v::r=>(match pU A r with|some l=>some (v::l)|none=>none)
 | _=>none
section
variable {P:Program} {nt base:Nat} {w0 w:World} {A:List Fact} {a:Act}
theorem IY (h:Holds nt base w0 A a w) {s:Nat} {t:TV} (e:YV A s=some t):a.tmps[s]?=some t.den:=by
 obtain⟨β,g1,_⟩:=h.facts;unfold YV at e;split at e
 ·rename_i v hv; cases e; exact g1 _ (cP hv)
 ·rename_i v hv; cases e; exact g1 _ (cP hv)
 ·rename_i k o hv;split at e
  ·rename_i b hb;cases e;have e1:a.tmps[s]?=some (.pointer (some ⟨(β k).1,(β k).2.1+o,none⟩)):=g1 _ (cP hv);have e2:=g1 _ (dO hb);simp only[Fact.ok]at e2;rw[e1,e2.1,e2.2,Nat.zero_add];rfl
  ·cases e
 ·rename_i k o n m hv;split at e
  ·rename_i b hb;cases e;have e1:a.tmps[s]?=some (.slice (some ⟨(β k).1,(β k).2.1+o,none⟩) n m):=g1 _ (cP hv);have e2:=g1 _ (dO hb);simp only[Fact.ok]at e2;rw[e1,e2.1,e2.2,Nat.zero_add];rfl
  ·cases e
 ·cases e
theorem vZ (h:Holds nt base w0 A a w):∀{ks:List Nat} {l:List (Nat×TV)},yD A ks=some l→∀x∈l,x.1∈ks∧a.tmps[x.1]?=some x.2.den
 | [],l,e,x,hx=>by cases e; cases hx
 | s::r,l,e,x,hx=>by
  unfold yD at e;split at e
  ·rename_i t l' ht hl;cases e
   rcases List.mem_cons.1 hx with rfl|hx
   ·exact⟨List.mem_cons_self,IY h ht⟩
   ·obtain⟨p1,p2⟩:=vZ h hl x hx;exact⟨List.mem_cons_of_mem _ p1,p2⟩
  ·cases e
theorem pT (h:Holds nt base w0 A a w):∀{xs:List Operand} {vs:List Value},pU A xs=some vs→xs.map a.eval=vs
 | [],vs,e=>by cases e; rfl
 | .tmp s::r,vs,e=>by
  unfold pU at e;split at e
  ·rename_i t l ht hl;cases e;rw[List.map_cons,pT h hl];have:=IY h ht;simp[Act.eval,this]
  ·cases e
 | .const v::r,vs,e=>by
  unfold pU at e;split at e
  ·rename_i l hl;cases e;rw[List.map_cons,pT h hl];rfl
  ·cases e
 | .func _::r,vs,e=>by cases e
theorem kN (h:Holds nt base w0 A a w) {big:Array Oper} {Q:Exit→Act→World→Prop} {R:List Nat} {i id d:Nat} {o:Oper} {xs:Array Operand} {ts:Array TypeId} {vs:List Value} {ks:List Nat} {keep:List (Nat×TV)} (ho:big[i]?=some o) (hoo:o.op=.call ⟨.value (.func id),xs,ts⟩) (hod:o.dst=some d) (hog:o.guard=none) (hd:d<nt) (hvs:pU A xs.toList=some vs) (hk:yD A ks=some keep) (hn:ks.all (fun s => !Nat.beq s d)=true)
  (he:∀xs w,(callFunc id xs).run P w=.ok (.enter id xs) w) {S:Ending→World→Prop} (hc:Calls P id vs.toArray w S)
  (hK:∀e w',S e w'→∃v,e=.returned v∧∀a',Holds nt w'.heap.size w' (oD ((d,.im v)::keep)) a' w'→wpOps P big Q R a' w'):wpOps P big Q (i::R) a w:=by
 refine dJ ho hog (nC hoo (pT h hvs) (fun xs=>he xs _) hc fun e w' hS => ?_);obtain⟨v,rfl,hk'⟩:=hK e w' hS;refine⟨v,rfl,?_⟩;rw[hod];refine hk' _ ⟨by rw[eS]; exact h.defers,by rw[dM]; exact h.size,Below.refl _ _,Nat.le_refl _,fun _=>(w'.heap.size,0,0),fun φ hφ => ?_,fun k k' o' l1 l2 h1 => ?_,fun k l1 h1 => ?_,Nat.le_refl _,fun p h1 h2=>⟨rfl,rfl⟩,Shape.refl _⟩
 ·obtain⟨x,hx,rfl⟩:=gC hφ;show (a.put (some d) v).tmps[x.1]?=_;rw[TV.av_den]
  rcases List.mem_cons.1 hx with rfl|hx
  ·rw[eW _ _ _ (by rw[h.size]; exact hd)];rfl
  ·obtain⟨p1,p2⟩:=vZ h hk x hx;have hne:x.1≠d:=fun e=>by
    have:=List.all_eq_true.1 hn _ p1;rw[e,Nat.beq_refl]at this;cases this
   rw[jJ _ _ _ _ (fun e=>hne (Option.some.inj e).symm)];exact p2
 ·obtain⟨x,_,e⟩:=gC h1; cases e
 ·obtain⟨x,_,e⟩:=gC h1; cases e
end
def Nl (n:Nat):List At:=nq [.c (.int .u64 (Int.ofNat n)),.c (.int .u64 0),.c (.int .u64 0),.c (.int .u64 0)]
theorem rY {n:Nat} (h:n<18446744073709551616):aB (Nl n)=aB [.q n]:=by
 unfold Nl;rw[IM];obtain⟨e0,e1,e2,e3⟩:=jW (s0:=n) (s1:=0) (s2:=0) (s3:=0) (x:=n) ⟨h,by omega,by omega,by omega⟩ (by omega) (by unfold aC; omega);show [Value.int .u64 (n:Int),.int .u64 0,.int .u64 0,.int .u64 0]=[.int .u64 (fw n 0:Nat),.int .u64 (fw n 1:Nat),.int .u64 (fw n 2:Nat),.int .u64 (fw n 3:Nat)];rw[←e0,←e1,←e2,←e3];rfl
def FN (n:Nat) (many:Bool):iR
 | [.v (.im (.int .i64 2)),.v (.fl l),.v (.fl m)]=>match jQ l with
  | some x=>some ([x<RM,aB m=aB [.q n],n<aT],bif many then .many [.fl [.q (gJ x n)],.im (.int .i64 0)]else .one (.fl [.q (gJ x n)]))
  | none=>none
 | _=>none
theorem JC {f:FuncId} {n:Nat} {many:Bool} (h:∀x,x<RM→n<aT→∀w,Good prog f (bif many then .many [.fl [.q (gJ x n)],.im (.int .i64 0)]else .one (.fl [.q (gJ x n)])) [.int .i64 2,.agg (aB [At.q x]).toArray,.agg (aB [At.q n]).toArray] w) :
  ∀cs pre r,FN n many cs=some (pre,r)→aQ pre→∀(args:List Value) (w:World),cF w cs args→Good prog f r args w:=by
 intro cs pre r hg hp args w ha;unfold FN at hg;split at hg
 ·rename_i l m;split at hg
  ·rename_i x hx;cases hg
   match args,ha with
   | [t,v,u],ha =>
    have h1:t=.int .i64 2:=ha.1;have h2:v=.agg (aB l).toArray:=ha.2.1;have h3:u=.agg (aB m).toArray:=ha.2.2.1;rw[bL l x hx]at h2;rw[hp.2.1]at h3;subst h1; subst h2; subst h3;exact h x hp.1 hp.2.2.1 w
   | [],ha=>exact ha.elim
   | [_],ha=>exact ha.2.elim
   | [_,_],ha=>exact ha.2.2.elim
   | _::_::_::_::_,ha=>exact ha.2.2.2.elim
  ·cases hg
 ·cases hg
theorem Ib {n:Nat}:∀cs pre r,FN n true cs=some (pre,r)→aQ pre→∀(args:List Value) (w:World),cF w cs args→Good prog 75 r args w :=
 JC fun x hx hn w=>Da [.v (.im (.int .i64 2)),.v (.fl [.q x]),.v (.fl [.q n])] _ _ rfl ⟨hx,hn,trivial⟩ _ w ⟨rfl,rfl,rfl,trivial⟩
theorem Ho {n:Nat}:∀cs pre r,FN n false cs=some (pre,r)→aQ pre→∀(args:List Value) (w:World),cF w cs args→Good prog 59 r args w :=
 JC fun x hx hn w=>OV x n ⟨hx,hn,trivial⟩ w
theorem MI {n:Nat} (h:n<9223372036854775808) (w:World):(convert 3 23 (iI n)).run prog w=.ok (.int .u64 (Int.ofNat n)) w:=by
 have e:=run_convert_int (P:=prog) w 3 23 .i64 (Int.ofNat n) (by kernel_rfl) (by kernel_rfl);rw[show prog.intKind 23=.u64 by kernel_rfl]at e;refine e.trans ?_;have e2:IntKind.u64.wrap (Int.ofNat n)=Int.ofNat n:=by
  show (n:Int)%(18446744073709551616:Int)=n;exact Int.emod_eq_of_lt (by omega) (by omega)
 rw[e2]
def raC (n:Nat) (_:Nat):Cfg:=⟨fun _=>Ch.add 75 (FN n true),fun _=>true,fun _=>none⟩
theorem Gk (x n:Nat):eU prog { qG prog with x:=xG (aE [(10,.int .u64 (Int.ofNat n))]) } (raC n) f55 40 [.v (.fl [.q x]),.v (.im (iI n))]=some ([∀w:World,(convert 3 23 (iI n)).run prog w=.ok (.int .u64 (Int.ofNat n)) w,x<RM,aB (Nl n)=aB [.q n],n<aT],.one (.fl [.q (gJ x n)])):=by kernel_rfl
theorem PE {x n:Nat} (hx:x<RM) (hn:n<9223372036854775808) (args:List Value) (w:World) (ha:cF w [.v (.fl [.q x]),.v (.im (iI n))] args):Good prog 55 (.one (.fl [.q (gJ x n)])) args w :=
 bQ aG (fun _ _=>(qD.add func75 (by kernel_rfl) (by kernel_rfl) Ib).w _ _) (eP _ _ _) func55 (Gk x n) ⟨fun w=>MI hn w,hx,rY (by omega),Nat.lt_trans hn (by decide),trivial⟩ ha
def gRa:iR
 | [.v (.fl l),.v (.im (.int .i64 (.ofNat n)))]=>match jQ l with
  | some x=>some ([x<RM,n<9223372036854775808],.one (.fl [.q (gJ x n)]))
  | none=>none
 | _=>none
theorem Jy:∀cs pre r,gRa cs=some (pre,r)→aQ pre→∀(args:List Value) (w:World),cF w cs args→Good prog 55 r args w:=by
 intro cs pre r hg hp args w ha;unfold gRa at hg;split at hg
 ·rename_i l n;split at hg
  ·rename_i x hx;cases hg;refine PE hp.1 hp.2.1 args w ?_
   match args,ha with
   | [v,u],ha =>
    refine⟨?_,ha.2.1,trivial⟩;show v=.agg (aB (q1 x)).toArray;rw[←bL l x hx]; exact ha.1
   | [],ha=>exact ha.elim
   | [_],ha=>exact ha.2.elim
   | _::_::_::_,ha=>exact ha.2.2.elim
  ·cases hg
 ·cases hg
def Ci:Tab:=Ch.add 55 gRa
theorem QB:TabOk prog Ci:=qD.add func55 (by kernel_rfl) (by kernel_rfl) Jy
def Hn (h:Bool) (num:Nat→Option Value) (_:Nat):Cfg:=⟨fun _=>Ci,fun _=>h,num⟩
theorem xQ {a b:Nat} (ha:a<RM) (hb:b<RM) (h1:a≠0) (h2:b≠0):cS a b≠0:=fun h=>by
 have hp:fI RM:=Qw;have hd:RM∣a*b:=Nat.dvd_of_mod_eq_zero h;have hc:Nat.Coprime RM a:=by
  rcases hp.2 (Nat.gcd RM a) (Nat.gcd_dvd_left _ _)with q|q
  ·exact q
  ·have h3:RM∣a:=by have:=Nat.gcd_dvd_right RM a; rw[q]at this; exact this
   have:=Nat.le_of_dvd (by omega) h3;omega
 have:=Nat.le_of_dvd (by omega) (hc.dvd_of_dvd_mul_left hd);omega
theorem EF {a b:Nat} (ha:a<RM) (hb:b<RM) (h:a≠b):lV a b≠0:=fun q=>by
 unfold lV at q;have hp:=fD
 by_cases h1:b≤a
 ·rw[show a+RM-b=(a-b)+RM by omega,Nat.add_mod_right,Nat.mod_eq_of_lt (by omega)]at q;omega
 ·rw[Nat.mod_eq_of_lt (by omega)]at q;omega
def yC (log i x:Nat):Nat:=cS (cS (gJ (cJ log) i) (lV (gJ x (2^log)) 1)) (fJ (cS (2^log) (lV x (gJ (cJ log) i))))
def FI (z i:Int) (x:Nat):List TV :=
 if x<RM then if eD z 28=true then if 0≤i∧i<((2^z.toNat:Nat):Int)then if x=gJ (cJ z.toNat) i.toNat then [.fl [.q 1],.im (iV 0)]else [.fl [.q (yC z.toNat i.toNat x)],.im (iV 0)]
  else [.fl iD,.im (iV 1)]else [.fl iD,.im (iV 71)]else [.fl iD,.im (iV 21)]
def dB:Code:=(f22.body).getD .skip
theorem YP:dB=.seq (cA dB) (.seq (.seq (.region 1 (aO (cA (cA (cB dB)))) false) (cB (cA (cB dB)))) (cB (cB dB))):=by kernel_rfl
def DC (z i:Int) (x:Nat):List Fact:=[.slot 0 (.im (iV z)),.slot 1 (.im (iV i)),.slot 5 (.pt 5 0),.row 5 true [.q x],.slot 6 (.pt 6 0),.row 6 true iD]
def Su (z i:Int) (x:Nat):List Fact:=.slot 14 (.sl 14 0 1 1) :: .row 14 true [.q x]::DC z i x
def Dn (z i:Int) (x b:Nat):List Fact:=.slot 15 (.sl 15 0 1 1) :: .row 15 true [.c (aZ b 0 1 1)] :: .row 14 true [.q x] :: .at 14 b::DC z i x
theorem Sr (z i:Int) (x:Nat):aH prog (qG prog) f22.ntmps (cG fun _=>none) 40 (cA dB) (eF 0 [.v (.im (iV z)),.v (.im (iV i)),.v (.fl [.q x])]) (DC z i x)=some ([],.nrm,DC z i x):=by kernel_rfl
theorem Sq (z i:Int) (x:Nat):dR prog (qG prog) f22.ntmps bX ((aO (cA (cA (cB dB)))).extract 0 2) (DC z i x) (Su z i x)=some ([],Su z i x):=by kernel_rfl
theorem Sp (z i:Int) (x b:Nat):dR prog (qG prog) f22.ntmps bX ((aO (cA (cA (cB dB)))).extract 2 3) (.slot 14 (.im (aZ b 0 1 1)) :: .at 14 b::Su z i x) (Dn z i x b)=some ([],Dn z i x b):=by kernel_rfl
theorem So (z i:Int) (x b:Nat) (e:Int):dR prog (qG prog) f22.ntmps bX ((aO (cA (cA (cB dB)))).extract 4 5) (.slot 16 (.im (.int .i64 e))::Dn z i x b) (.slot 8 (.im (.int .i64 e))::DC z i x)=some ([],.slot 8 (.im (.int .i64 e))::DC z i x):=by kernel_rfl
def MU (l:List At) (e:Int):List Fact:=[.slot 6 (.pt 6 0),.row 6 true l,.slot 7 (.im (iV e))]
theorem Iu (z i:Int) (x:Nat) (e:Int):aH prog (qG prog) f22.ntmps (Hn true (aE [(18,.bool true)])) 60 (cB (cA (cB dB))) (.slot 8 (.im (.int .i64 e))::DC z i x) (MU iD e)=some ([aD .neq .i64 e 0=some (.bool true)],.rt,MU iD e):=by kernel_rfl
theorem YO (z i:Int) (x:Nat):aH prog (qG prog) f22.ntmps (Hn true (fun _=>none)) 60 (cB (cA (cB dB))) (.slot 8 (.im (.int .i64 0))::DC z i x) (DC z i x)=some ([],.nrm,DC z i x):=by kernel_rfl
theorem aAc (z i:Int) (x:Nat):aH prog (qG prog) f22.ntmps (Hn true (aE [(23,.bool true)])) 60 (cB (cB dB)) (DC z i x) (MU iD 71)=some ([Value.bool (!eD z 28)=.bool true],.rt,MU iD 71):=by kernel_rfl
theorem St (log:Nat) (i:Int) (x:Nat):aH prog { qG prog with x:=xG (aE [(26,iI (2^log))]) } f22.ntmps (Hn true (aE [(23,.bool false),(28,.bool true)])) 60 (cB (cB dB)) (DC (Int.ofNat log) i x) (MU iD 1)=some ([Value.bool (!eD (Int.ofNat log) 28)=.bool false,dD .shl 3 (.const (iI 1)) (.tmp 25) (iI 1) (iI log) (iI (2^log)),aD .lss .i64 i 0=some (.bool true)],.rt,MU iD 1):=by kernel_rfl
theorem Ss (log:Nat) (i:Int) (x:Nat):aH prog { qG prog with x:=xG (aE [(26,iI (2^log))]) } f22.ntmps (Hn true (aE [(23,.bool false),(28,.bool false),(32,.bool true)])) 60 (cB (cB dB)) (DC (Int.ofNat log) i x) (MU iD 1)=some ([Value.bool (!eD (Int.ofNat log) 28)=.bool false,dD .shl 3 (.const (iI 1)) (.tmp 25) (iI 1) (iI log) (iI (2^log)),aD .lss .i64 i 0=some (.bool false),aD .geq .i64 i (Int.ofNat (2^log))=some (.bool true)],.rt,MU iD 1):=by kernel_rfl
def lgP (log i:Nat):List Prop:=[Value.bool (!eD (Int.ofNat log) 28)=.bool false,dD .shl 3 (.const (iI 1)) (.tmp 25) (iI 1) (iI log) (iI (2^log)),aD .lss .i64 (Int.ofNat i) 0=some (.bool false),aD .geq .i64 (Int.ofNat i) (Int.ofNat (2^log))=some (.bool false),log<9223372036854775808,cJ log<RM,i<9223372036854775808]
theorem Ir (log i x:Nat):aH prog { qG prog with x:=xG (aE [(26,iI (2^log))]) } f22.ntmps (Hn true (aE [(23,.bool false),(28,.bool false),(32,.bool false)])) 60 (cB (cB dB)) (DC (Int.ofNat log) (Int.ofNat i) x) (MU [.q 1] 0)=some (lgP log i++[aB [.q x]=aB [.q (gJ (cJ log) i)]],.rt,MU [.q 1] 0):=by kernel_rfl
theorem It (log i x:Nat):aH prog { qG prog with x:=xG (aE [(26,iI (2^log)),(51,.int .u64 (Int.ofNat (2^log)))]) } f22.ntmps (Hn false (aE [(23,.bool false),(28,.bool false),(32,.bool false)])) 60 (cB (cB dB)) (DC (Int.ofNat log) (Int.ofNat i) x) (MU [.q (yC log i x)] 0) =
  some (lgP log i++[aB [.q x]≠aB [.q (gJ (cJ log) i)],x<RM,2^log<9223372036854775808,gJ x (2^log)<RM,1<RM,gJ (cJ log) i<RM,lV (gJ x (2^log)) 1<RM,∀w:World,(convert 3 23 (iI (2^log))).run prog w=.ok (.int .u64 (Int.ofNat (2^log))) w,2^log<18446744073709551616,x<RM,gJ (cJ log) i<RM,2^log<RM,lV x (gJ (cJ log) i)<RM,cS (2^log) (lV x (gJ (cJ log) i))<RM,cS (2^log) (lV x (gJ (cJ log) i))≠0,cS (gJ (cJ log) i) (lV (gJ x (2^log)) 1)<RM,fJ (cS (2^log) (lV x (gJ (cJ log) i)))<RM],.rt,MU [.q (yC log i x)] 0):=by kernel_rfl
theorem Lo (x:Nat):Eh 1 (fun _=>1) (fun _ _=>x)=DE x:=by
 have e1:kD 1 (fun _=>1)↔True:=⟨fun _=>trivial,fun _ j hj=>by show 1≤65536; omega⟩;have e2:kO 1 (fun _=>1) (fun _ _=>x)↔x<RM:=⟨fun h=>h 0 (by omega) 0 (show 0<1 by omega),fun h j hj k hk=>h⟩;unfold Eh DE;simp only[e1,e2,if_true]
theorem SS {w:World} {x b b2:Nat} (hx:x<aT) (h1:oldOf w b 0 [.q x]) (h2:oldOf w b2 0 [.c (aZ b 0 1 1)]):Good prog 51 (.one (.im (.int .i64 (DE x)))) [aZ b2 0 1 1] w:=by
 rw[←Lo];exact uG (vs:=fun _=>aZ b 0 1 1) ⟨b2,0,1,rfl,h2.1,h2.2⟩ (fun j hj=>LV.one h1 hx) (by omega) fun j hj=>by omega
theorem sI {log:Nat} (h:log≤28):dD .shl 3 (.const (iI 1)) (.tmp 25) (iI 1) (iI log) (iI (2^log)):=gO h
theorem QR {w0:World} (z i:Int) {x:Nat} (hx:x<aT) (hi:i<9223372036854775808):Good prog 22 (.many (FI z i x)) [iV z,iV i,.agg (aB [At.q x]).toArray] w0:=by
 have hG:bH prog (qG prog) w0.heap.size w0:=(aY _).w _ _;have hT:∀n d:Nat,TabOkW prog dW w0.heap.size w0:=fun _ _=>bG.w _ _
 have hR:∀n d:Nat,TabOkW prog Ci w0.heap.size w0:=fun _ _=>QB.w _ _
 refine bJ func22 (cs:=[.v (.im (iV z)),.v (.im (iV i)),.v (.fl [.q x])]) (args:=[iV z,iV i,.agg (aB [At.q x]).toArray]) (c:=dB) rfl ⟨rfl,rfl,rfl,trivial⟩ (Nat.le_of_ble_eq_true (by kernel_rfl)) fun a w1 hA => ?_
 rw[YP];refine wp_seq (aA aG hT hG (Sr z i x) trivial hA fun a w1 hA => ?_);refine wp_seq (wp_seq (cD (l:=List.range' 0 ((aO (cA (cA (cB dB)))).extract 0 2).size++(List.range' 2 ((aO (cA (cA (cB dB)))).extract 2 3).size++(3::(List.range' 4 ((aO (cA (cA (cB dB)))).extract 4 5).size++[])))) (by kernel_rfl) ?_));refine aL (c:=bX) (hT 0) hG (Sq z i x) trivial (by kernel_rfl) hA fun a w1 hA => ?_
 obtain⟨b,hA⟩:=hA.at (k:=14) (l:=[.q x]) (by simp[Su]);have hA:=hA.im (s:=14) (k:=14) (o:=0) (n:=1) (m:=1) (b:=b) (by simp[Su]) (by simp);refine aL (c:=bX) (hT 0) hG (Sp z i x b) trivial (by kernel_rfl) hA fun a w1 hA => ?_
 obtain⟨b2,hB⟩:=hA.at (k:=15) (l:=[.c (aZ b 0 1 1)]) (by simp[Dn]);have h11:=(hB.im (s:=15) (k:=15) (o:=0) (n:=1) (m:=1) (b:=b2) (by simp[Dn]) (by simp)).slot (s:=15) (v:=aZ b2 0 1 1) (by simp);have o1:oldOf w1 b 0 [.q x]:=hA.old (k:=14) (by simp[Dn]) (by simp[Dn]);have o2:oldOf w1 b2 0 [.c (aZ b 0 1 1)]:=hB.old (k:=15) (by simp[Dn]) (by simp);obtain⟨o,ho,hoo,hod,hog⟩:∃o,(aO (cA (cA (cB dB))))[3]?=some o∧(∃ts,o.op=.call ⟨.value (.func 51),#[.tmp 15],ts⟩)∧o.dst=some 16∧o.guard=none:=⟨_,rfl,⟨_,rfl⟩,rfl,rfl⟩
 obtain⟨ts,hoo⟩:=hoo;refine dJ ho hog (iE hoo (vs:=[aZ b2 0 1 1]) (by simp[Act.eval,h11]) (fun args=>bK func51 (by kernel_rfl) (by kernel_rfl) args _) (SS hx o1 o2) fun w2 hb => ?_);rw[hod];have hA:=hA.put hb (d:=16) (Nat.le_of_ble_eq_true (by kernel_rfl)) (.im (.int .i64 (DE x))) (kH (by kernel_rfl));refine aL (c:=bX) (hT 0) hG (So z i x b _) trivial (by kernel_rfl) hA fun a w1 hA => ?_
 show (cB (cA (cB dB))).wp _ _ _ _;unfold FI
 by_cases hxr:x<RM
 ·rw[if_pos hxr];rw[show DE x=0 by unfold DE; rw[if_pos hxr]]at hA;refine aA aG hR hG (YO z i x) trivial hA fun a w1 hA => ?_
  show (cB (cB dB)).wp _ _ _ _
  by_cases hd:eD z 28=true
  ·rw[if_pos hd];obtain⟨h1,h2⟩:=jL.1 hd;obtain⟨log,rfl⟩:∃n:Nat,z=Int.ofNat n:=⟨z.toNat,by show z=((z.toNat:Nat):Int); omega⟩
   have h3:log≤28:=by have:(log:Int)≤28:=h2; omega
   rw[show (Int.ofNat log).toNat=log from rfl];have hp2:2^log≤268435456:=Nat.pow_le_pow_right (n:=2) (by omega) h3;have hp1:0<2^log:=Nat.pow_pos (by omega)
   by_cases hb:0≤i∧i<((2^log:Nat):Int)
   ·rw[if_pos hb];obtain⟨k,rfl⟩:∃n:Nat,i=Int.ofNat n:=⟨i.toNat,by show i=((i.toNat:Nat):Int); omega⟩
    have hk:k<2^log:=by have:=hb.2; show k<_; exact Int.ofNat_lt.1 this
    rw[show (Int.ofNat k).toNat=k from rfl];have hP:aQ (lgP log k):=⟨by rw[hd]; rfl,sI h3,by rw[eN,decide_eq_false (by omega)],by show some (Value.bool (decide (Int.ofNat k≥Int.ofNat (2^log))))=_; rw[decide_eq_false (by have:=hb.2; exact Int.not_le.2 this)],by omega,eB _ _,by omega,trivial⟩
    by_cases he:x=gJ (cJ log) k
    ·rw[if_pos he];exact aA aG hR (eP _ _ _) (Ir log k x) (aS.2 ⟨hP,by rw[he],trivial⟩) hA fun a w' hA=>aW (l:=[.fl [.q 1],.im (iV 0)]) (r:=.many [.fl [.q 1],.im (iV 0)]) (by kernel_rfl) (by kernel_rfl) hA
    ·rw[if_neg he];have hw:=eB (cJ log) k;have h2R:2^log<RM:=Nat.lt_of_le_of_lt hp2 (by decide);exact aA aG (fun _ _=>QB.w _ _) (eP _ _ _) (It log k x) (aS.2 ⟨hP,fun q=>he ((DF (eQ hxr) (eQ hw)).1 q),hxr,by omega,eB _ _,by decide,hw,iK _ _,fun w=>MI (by omega) w,by omega,hxr,hw,h2R,iK _ _,cL _ _,xQ h2R (iK _ _) (by omega) (EF hxr hw he),cL _ _,jH _,trivial⟩) hA fun a w' hA=>aW (l:=[.fl [.q (yC log k x)],.im (iV 0)]) (r:=.many [.fl [.q (yC log k x)],.im (iV 0)]) (by kernel_rfl) (by kernel_rfl) hA
   ·rw[if_neg hb]
    by_cases hn:i<0
    ·exact aA aG hR (eP _ _ _) (St log i x) ⟨by rw[hd]; rfl,sI h3,by rw[eN,decide_eq_true hn],trivial⟩ hA fun a w' hA=>aW (l:=[.fl iD,.im (iV 1)]) (r:=.many [.fl iD,.im (iV 1)]) (by kernel_rfl) (by kernel_rfl) hA
    ·exact aA aG hR (eP _ _ _) (Ss log i x) ⟨by rw[hd]; rfl,sI h3,by rw[eN,decide_eq_false hn],by show some (Value.bool (decide (i≥Int.ofNat (2^log))))=_; rw[decide_eq_true (by rcases Int.lt_or_le i ((2^log:Nat):Int)with q|q; exact absurd ⟨by omega,q⟩ hb; exact q)],trivial⟩ hA fun a w' hA=>aW (l:=[.fl iD,.im (iV 1)]) (r:=.many [.fl iD,.im (iV 1)]) (by kernel_rfl) (by kernel_rfl) hA
  ·rw[if_neg hd];have h0:eD z 28=false:=by simpa using hd
   exact aA aG hR hG (aAc z i x) ⟨by rw[h0]; rfl,trivial⟩ hA fun a w' hA=>aW (l:=[.fl iD,.im (iV 71)]) (r:=.many [.fl iD,.im (iV 71)]) (by kernel_rfl) (by kernel_rfl) hA
 ·rw[if_neg hxr];rw[show DE x=21 by unfold DE; rw[if_neg hxr]]at hA;exact aA aG hR hG (Iu z i x 21) ⟨rfl,trivial⟩ hA fun a w' hA=>aW (l:=[.fl iD,.im (iV 21)]) (r:=.many [.fl iD,.im (iV 21)]) (by kernel_rfl) (by kernel_rfl) hA
end Go.Proofs.Ytjjnbgoepbiojaa.Ex
