/- Eb14 -/
import Derived.Laws.BytesArg
import Derived.Test.YtpjlhhpjpnacmaaGreatEb13
import Derived.Test.YtpjlhhpjpnacmaaGreatEb11
import Derived.Test.YtpjlhhpjpnacmaaGreatEb04
import Derived.Test.YtpjlhhpjpnacmaaGreatEb06
import Derived.Test.YtpjlhhpjpnacmaaGreatEb03
import Derived.Test.YtpjlhhpjpnacmaaGreatProg
set_option maxRecDepth 100000
set_option linter.unusedVariables false
set_option linter.unusedSimpArgs false
set_option linter.unnecessarySimpa false
noncomputable section
namespace Go.Proofs.YtpjlhhpjpnacmaaGreat.Ex
open Go.Proofs.Tryz
open Go.RowKit
def jZ (l:List Nat):List At:=l.map fun x=>.c (.int .u8 (Int.ofNat x))
theorem QY (a b:List Nat):jZ (a++b)=jZ a++jZ b:=List.map_append
theorem zS (l:List Nat):(aB (jZ l)).length=l.length*1:=by
 induction l with
 | nil=>rfl
 | cons x r ih =>
  show ([Value.int .u8 (Int.ofNat x)]++aB (jZ r)).length=_;simp only[List.length_append,ih,List.length_cons,List.length_nil];omega
theorem QV (l:List Nat):∀v∈aB (jZ l),v.oneCell'=true:=by
 induction l with
 | nil=>intro v hv; cases hv
 | cons x r ih =>
  intro v hv;have hv:v∈[Value.int .u8 (Int.ofNat x)]++aB (jZ r):=hv
  rcases List.mem_append.1 hv with h|h
  ·rw[List.mem_singleton.1 h]; rfl
  ·exact ih v h
def LQBz (w:World) (v:Value) (l:List Nat):Prop:=0<l.length∧∃b o m,v=bW b o l.length m∧b<w.heap.size∧w.rangeAt b o (aB (jZ l))
theorem LQBz.below {w w':World} {v:Value} {l:List Nat} (h:LQBz w v l) (hb:Below w.heap.size w w'):LQBz w' v l:=by
 obtain⟨h0,b,o,m,rfl,h1,h2⟩:=h;exact⟨h0,b,o,m,rfl,Nat.lt_of_lt_of_le h1 hb.size,bI hb h1 h2⟩
def HQBz (w:World) (v:Value) (K:Nat) (vs:Nat→Value) (ls:Nat→List Nat):Prop:=∃b o m,v=bW b o K m∧(∀j,j<K→oldOf w b (o+j*1) [.c (vs j)])∧∀j,j<K→LQBz w (vs j) (ls j)
theorem HQBz.below {w w':World} {v:Value} {K:Nat} {vs:Nat→Value} {ls:Nat→List Nat} (h:HQBz w v K vs ls) (hb:Below w.heap.size w w'):HQBz w' v K vs ls:=by
 obtain⟨b,o,m,rfl,h1,h2⟩:=h;exact⟨b,o,m,rfl,fun j hj=>(h1 j hj).on hb,fun j hj=>(h2 j hj).below hb⟩
def bU (ls:Nat→List Nat):Nat→List Nat
 | 0=>[]
 | k+1=>bU ls k++ls k
theorem kM (ls:Nat→List Nat):∀{k n:Nat},k≤n→(bU ls k).length≤(bU ls n).length
 | k,0,h=>by rw[show k=0 by omega]; exact Nat.le_refl _
 | k,n+1,h=>by
  by_cases e:k=n+1
  ·rw[e]; exact Nat.le_refl _
  ·refine Nat.le_trans (kM ls (show k≤n by omega)) ?_;show (bU ls n).length≤(bU ls n++ls n).length;rw[List.length_append]; omega
noncomputable abbrev Sz:Func:=f12
def fR:Code:=(f12.body).getD .skip
def VE:Code:=cA (cB (cB fR))
def GJ:Code:=By (By (cB VE))
def wF:Code:=cA (cB (cB (cB fR)))
def GK:Code:=cA (cB (cB (cB (cB fR))))
def fI:Code:=By (By (cB GK))
def yM:Code:=By (cA (cB (cB fI)))
def nU:Code:=cB yM
def VD:Code:=cB (cB (cB (cB (cB fR))))
theorem NU:fR=.seq (cA fR) (.seq (cA (cB fR)) (.seq (.seq (cA VE) (.block 0 (.loop GJ))) (.seq (.region 9 (bP wF) false) (.seq (.seq (cA GK) (.block 2 (.loop fI))) VD)))):=by kernel_rfl
theorem Bs:fI=.seq (cA fI) (.seq (cA (cB fI)) (.seq (.block 3 (.seq (cA yM) (.region 13 (bP nU) false))) (cB (cB (cB fI))))):=by kernel_rfl
theorem Br:Sz.ntmps=36:=by kernel_rfl
theorem Bo (v:Value):bJ prog (qG prog) 36 (fun _=>tC T0 fun _=>none) 60 (cA fR) (iO 0 [.v (.im v)]) [.slot 0 (.im v)]=some ([],.nrm,[.slot 0 (.im v)]):=by kernel_rfl
theorem Bn (v:Value):bJ prog (qG prog) 36 (fun _=>tC T0 fun _=>none) 60 (cA (cB fR)) [.slot 0 (.im v)] [.slot 0 (.im v),.slot 3 (.im (iI 0))]=some ([],.nrm,[.slot 0 (.im v),.slot 3 (.im (iI 0))]):=by kernel_rfl
def uA (v:Value) (K i s:Nat):List Fact:=[.slot 0 (.im v),.slot 3 (.im (iI s)),.slot 9 (.im v),.slot 10 (.im (iI K)),.slot 11 (.im (iI i))]
theorem Bm (p:Option Addr) (K m s:Nat):bJ prog (qG prog) 36 (fun _=>tC T0 fun _=>none) 60 (cA VE) [.slot 0 (.im (.slice p K m)),.slot 3 (.im (iI s))] (uA (.slice p K m) K 0 s)=some ([],.nrm,uA (.slice p K m) K 0 s):=by kernel_rfl
theorem Bp (w:World) (b o K m i s n m':Nat) (p:Option Addr):bJ prog { qG prog with x:=xO w (assoc [(13,i)]) (fun _=>none) (assoc [(14,.slice p n m')]) } 36 (fun _=>tC T0 (assoc [(12,.bool true),(18,iI (s+n)),(20,.bool false),(22,iI (i+1))])) 60 GJ (uA (bW b o K m) K i s) (uA (bW b o K m) K (i+1) (s+n))=some ([aW .lss .i64 (Int.ofNat i) (Int.ofNat K)=some (.bool true),Int.ofNat i=Int.ofNat i,i<K,oldOf w b (o+i*1) [.c (.slice p n m')],aW .add .i64 (Int.ofNat s) (Int.ofNat n)=some (iI (s+n)),aW .lss .i64 (Int.ofNat (s+n)) 0=some (.bool false),aW .add .i64 (Int.ofNat i) 1=some (iI (i+1))],.nrm,uA (bW b o K m) K (i+1) (s+n)):=by kernel_rfl
theorem Bl (v:Value) (K i s:Nat):bJ prog (qG prog) 36 (fun _=>tC T0 (assoc [(12,.bool false)])) 60 GJ (uA v K i s) (uA v K i s)=some ([aW .lss .i64 (Int.ofNat i) (Int.ofNat K)=some (.bool false)],.ex 0,uA v K i s):=by kernel_rfl
theorem Bv (v:Value) (K i s:Nat):jX prog (qG prog) 36 (tC T0 fun _=>none) ((bP wF).extract 0 1) (uA v K i s) [.slot 23 (.im (iI s)),.slot 0 (.im v)]=some ([],[.slot 23 (.im (iI s)),.slot 0 (.im v)]):=by kernel_rfl
theorem Bu (v u:Value):jX prog (qG prog) 36 (tC T0 fun _=>none) ((bP wF).extract 2 3) [.slot 24 (.im u),.slot 0 (.im v)] [.slot 6 (.im u),.slot 0 (.im v)]=some ([],[.slot 6 (.im u),.slot 0 (.im v)]):=by kernel_rfl
def fC (v u:Value) (K i:Nat):List Fact:=[.slot 6 (.im u),.slot 25 (.im v),.slot 26 (.im (iI K)),.slot 27 (.im (iI i))]
theorem UW (u:Value) (p:Option Addr) (K m:Nat):bJ prog (qG prog) 36 (fun _=>tC T0 fun _=>none) 60 (cA GK) [.slot 6 (.im u),.slot 0 (.im (.slice p K m))] (fC (.slice p K m) u K 0)=some ([],.nrm,fC (.slice p K m) u K 0):=by kernel_rfl
theorem Bt (v u:Value) (K i:Nat):bJ prog (qG prog) 36 (fun _=>tC T0 (assoc [(28,.bool true)])) 60 (cA fI) (fC v u K i) (.slot 28 (.im (.bool true))::fC v u K i)=some ([aW .lss .i64 (Int.ofNat i) (Int.ofNat K)=some (.bool true)],.nrm,.slot 28 (.im (.bool true))::fC v u K i):=by kernel_rfl
theorem VA (v u:Value) (K i:Nat):bJ prog (qG prog) 36 (fun _=>tC T0 fun _=>none) 60 (cA (cB fI)) (.slot 28 (.im (.bool true))::fC v u K i) (fC v u K i)=some ([],.nrm,fC v u K i):=by kernel_rfl
theorem Lf (v u:Value) (K i:Nat):bJ prog (qG prog) 36 (fun _=>tC T0 (assoc [(28,.bool false)])) 60 (cA fI) (fC v u K i) (.slot 28 (.im (.bool false))::fC v u K i)=some ([aW .lss .i64 (Int.ofNat i) (Int.ofNat K)=some (.bool false)],.nrm,.slot 28 (.im (.bool false))::fC v u K i):=by kernel_rfl
theorem Bj (v u:Value) (K i:Nat):bJ prog (qG prog) 36 (fun _=>tC T0 fun _=>none) 60 (cA (cB fI)) (.slot 28 (.im (.bool false))::fC v u K i) (fC v u K i)=some ([],.ex 2,fC v u K i):=by kernel_rfl
theorem UX (w:World) (b o K m i:Nat) (u h:Value):bJ prog { qG prog with x:=xO w (assoc [(29,i)]) (fun _=>none) (assoc [(30,h)]) } 36 (fun _=>tC T0 fun _=>none) 60 (cA yM) (fC (bW b o K m) u K i) (.slot 8 (.im h)::fC (bW b o K m) u K i)=some ([Int.ofNat i=Int.ofNat i,i<K,oldOf w b (o+i*1) [.c h]],.nrm,.slot 8 (.im h)::fC (bW b o K m) u K i):=by kernel_rfl
theorem VC (v u h:Value) (K i:Nat):jX prog (qG prog) 36 (tC T0 fun _=>none) ((bP nU).extract 0 2) (.slot 8 (.im h)::fC v u K i) (.slot 31 (.im u) :: .slot 32 (.im h)::fC v u K i)=some ([],.slot 31 (.im u) :: .slot 32 (.im h)::fC v u K i):=by kernel_rfl
theorem VB (v u x:Value) (K i:Nat):jX prog (qG prog) 36 (tC T0 fun _=>none) ((bP nU).extract 3 4) (.slot 33 (.im x)::fC v u K i) (fC v x K i)=some ([],fC v x K i):=by kernel_rfl
theorem Bq (v u:Value) (K i:Nat):bJ prog (qG prog) 36 (fun _=>tC T0 (assoc [(34,iI (i+1))])) 60 (cB (cB (cB fI))) (fC v u K i) (fC v u K (i+1))=some ([aW .add .i64 (Int.ofNat i) 1=some (iI (i+1))],.nrm,fC v u K (i+1)):=by kernel_rfl
theorem Le (v u:Value) (K i:Nat):bJ prog (qG prog) 36 (fun _=>tC T0 fun _=>none) 60 VD (fC v u K i) [.slot 2 (.im u)]=some ([],.rt,[.slot 2 (.im u)]):=by kernel_rfl
theorem GI {w0:World} {v:Value} {K:Nat} {vs:Nat→Value} {ls:Nat→List Nat} (hh:HQBz w0 v K vs ls) (hK0:0<K) (hK:K≤64) (hS:(bU ls K).length≤131072) :
  Calls prog 12 [v].toArray w0 fun e w'=>∃b C,e=.returned (bW b 0 (bU ls K).length C)∧LQBz w' (bW b 0 (bU ls K).length C) (bU ls K)∧w0.heap.size≤b∧Below w0.heap.size w0 w'∧AppAt w' b 5 1 (bU ls K).length C:=by
 have hG:∀base w,dC prog (qG prog) base w:=fun _ _=>(aT _).w _ _
 have hT:∀base w,∀n d:Nat,TabOkW prog T0 base w:=fun _ _ _ _=>(dV _).w _ _
 have hlen:∀i,(bU ls (i+1)).length=(bU ls i).length+(ls i).length:=fun i=>List.length_append
 have hS0:0<(bU ls K).length:=by
  have:=kM ls (show 1≤K by omega);have h1:(bU ls 1).length=(bU ls 0).length+(ls 0).length:=hlen 0;obtain⟨_,_,_,_,_,hl⟩:=id hh;have:=(hl 0 hK0).1;omega
 obtain⟨hb,ho,hm,rfl,hhd,hls⟩:=id hh;have hnt:f12.ntmps=36:=Br;refine eT func12 (cs:=[.v (.im (bW hb ho K hm))]) (args:=[bW hb ho K hm]) (c:=fR) rfl ⟨rfl,trivial⟩ (Nat.le_of_ble_eq_true (by kernel_rfl)) fun a w hA => ?_
 rw[hnt]at hA;rw[NU];refine wp_seq (aE aQ (hT _ _) (hG _ _) (Bo _) trivial hA fun a w hA => ?_);refine wp_seq (aE aQ (hT _ _) (hG _ _) (Bn _) trivial hA fun a w hA => ?_);refine wp_seq (wp_seq (aE aQ (hT _ _) (hG _ _) (Bm _ K hm 0) trivial hA fun a w hA => ?_));refine wp_block ?_;refine EU aQ (fun i=>uA (bW hb ho K hm) K i (bU ls i).length) K (fun i hi => ?_) (.ex 0) (by simp) (uA (bW hb ho K hm) K K (bU ls K).length) ⟨_,_,_,_,hG _ _,hT _ _,Bl _ K K _,oR (Nat.le_refl _),trivial⟩ hA fun a w1 hA => ?_
 ·obtain⟨_,b',o',m',e,_,_⟩:=hls i hi;have hd:=hhd i hi;rw[e]at hd;have hmn:=kM ls (show i+1≤K by omega);have hl1:=hlen i;have hr1:=Bp w0 hb ho K hm i (bU ls i).length (ls i).length m' (some ⟨b',o',none⟩);rw[←hl1]at hr1;exact⟨_,_,_,_,uR w0 _ _ _,hT _ _,hr1,xL hi,rfl,hi,hd,by rw[hl1]; exact Il (by omega),oR (n:=0) (Nat.zero_le _),IY (k:=1) (by omega),trivial⟩
 simp only[EA.out,Exit.then,Exit.inBlock,if_true];refine wp_seq (gH (l:=List.range' 0 ((bP wF).extract 0 1).size++(1::(List.range' 2 ((bP wF).extract 2 3).size++[]))) (by kernel_rfl) ?_);refine bO (c:=tC T0 _) (hT _ _ 0) (hG _ _) (Bv _ K K _) trivial (by kernel_rfl) hA fun a2 w2 hA => ?_
 obtain⟨o1,ho1,⟨ts1,hop1⟩,hd1,hg1⟩:∃x,(bP wF)[1]?=some x∧(∃ts,x.op=.call ⟨.value (.func 30),#[.const (.slice none 0 0),.tmp 23],ts⟩)∧x.dst=some 24∧x.guard=none:=⟨_,rfl,⟨_,rfl⟩,rfl,rfl⟩
 refine eU ho1 hg1 (jS hop1 (vs:=[cG,iI (bU ls K).length]) (List.cons_eq_cons.2 ⟨rfl,List.cons_eq_cons.2 ⟨yB (hA.slot (s:=23) (by simp)),rfl⟩⟩) (fun args=>eJ func30 (by kernel_rfl) (by kernel_rfl) args _) (FF hS0 hS) fun e w3 hq => ?_);obtain⟨b6,C6,rfl,hC6,hap,hb6,hbw⟩:=hq;refine⟨_,rfl,?_⟩;rw[hd1];have hb2:=hA.below;have hb3:Below w0.heap.size w0 w3:=hb2.trans (hbw.mono hb2.size);have hb60:w0.heap.size≤b6:=Nat.le_trans hb2.size hb6;have hS3:=cT (nt:=36) (w:=w3) (a:=a2.put (some 24) (bW b6 0 0 C6)) (ts:=[(24,bW b6 0 0 C6),(0,bW hb ho K hm)]) hA.defers (by rw[cJ]; exact hA.size) (fun x hx=>by
  simp only[List.mem_cons,List.not_mem_nil,or_false]at hx
  rcases hx with rfl|rfl
  ·exact dD _ _ _ (by rw[hA.size]; decide)
  ·exact mX (hA.slot (by simp)) (by simp))
 clear hA;refine bO (c:=tC T0 _) (hT _ _ 0) (hG _ _) (Bu _ _) trivial (by kernel_rfl) hS3 fun a4 w4 hA => ?_
 show (Code.seq _ _).wp _ _ _ _;refine wp_seq (wp_seq (aE aQ (hT _ _) (hG _ _) (UW _ _ K hm) trivial hA fun a5 w5 hA => ?_));have hap5:=hap.shape hA.shape;have hb5:Below w0.heap.size w0 w5:=hb3.trans (hA.below.mono hb3.size);have hdf:=hA.defers;have hsz:=hA.size;have u6:=hA.slot (s:=6) (v:=bW b6 0 0 C6) (by simp[fC]);have u25:=hA.slot (s:=25) (v:=bW hb ho K hm) (by simp[fC,bW]);have u26:=hA.slot (s:=26) (v:=iI K) (by simp[fC]);have u27:=hA.slot (s:=27) (v:=iI 0) (by simp[fC]);have hap5:AppAt w5 b6 5 1 (bU ls 0).length C6:=hap5;have hr5:w5.rangeAt b6 0 (aB (jZ (bU ls 0))):=fun j v hj=>by simp[bU,jZ,aB]at hj
 change a5.tmps[6]?=some (bW b6 0 (bU ls 0).length C6) at u6;clear hA hS3 hap hC6 hb6;refine wp_block (nE (n:=K+1) ?_);have wl:∀Q a w,(Code.seq (cA fI) (.seq (cA (cB fI)) (.seq (.block 3 (.seq (cA yM) (.region 13 (bP nU) false))) (cB (cB (cB fI)))))).wp prog Q a w→fI.wp prog Q a w:=fun Q a w h=>by rw[Bs]; exact h
 have key:∀k i b6 C6 a w,i+k=K→a.defers=[]→a.tmps.size=36→a.tmps[6]?=some (bW b6 0 (bU ls i).length C6)→a.tmps[25]?=some (bW hb ho K hm)→a.tmps[26]?=some (iI K)→a.tmps[27]?=some (iI i)→AppAt w b6 5 1 (bU ls i).length C6→w.rangeAt b6 0 (aB (jZ (bU ls i)))→w0.heap.size≤b6→Below w0.heap.size w0 w →
   Un prog fI (Exit.inBlock 2 (Exit.then (VD.wp prog (bodyPost prog f12 fun e w'=>∃b C,e=.returned (bW b 0 (bU ls K).length C)∧LQBz w' (bW b 0 (bU ls K).length C) (bU ls K)∧w0.heap.size≤b∧Below w0.heap.size w0 w'∧AppAt w' b 5 1 (bU ls K).length C)) (bodyPost prog f12 fun e w'=>∃b C,e=.returned (bW b 0 (bU ls K).length C)∧LQBz w' (bW b 0 (bU ls K).length C) (bU ls K)∧w0.heap.size≤b∧Below w0.heap.size w0 w'∧AppAt w' b 5 1 (bU ls K).length C))) (k+1) a w:=by
  intro k
  induction k with
  | zero =>
   intro i b6 C6 a w hi hd hs t6 t25 t26 t27 hap hr hge hbl;have hiK:i=K:=by omega
   subst hiK;have hH:=cT (nt:=36) (w:=w) (a:=a) (ts:=[(6,bW b6 0 (bU ls i).length C6),(25,bW hb ho i hm),(26,iI i),(27,iI i)]) hd hs (fun x hx=>by
    simp only[List.mem_cons,List.not_mem_nil,or_false]at hx
    rcases hx with rfl|rfl|rfl|rfl
    ·exact t6
    ·exact t25
    ·exact t26
    ·exact t27)
   unfold Un;refine wl _ _ _ (wp_seq (aE aQ (hT _ _) (hG _ _) (Lf _ _ i i) ⟨oR (Nat.le_refl _),trivial⟩ hH fun a w' hA => ?_));refine wp_seq (aE aQ (hT _ _) (hG _ _) (Bj _ _ i i) trivial hA fun a w' hA => ?_);simp only[EA.out,Exit.then,Exit.inBlock,if_true];refine aE aQ (hT _ _) (hG _ _) (Le _ _ i i) trivial hA fun a w' hA => ?_
   have hlt:b6<w.heap.size:=by obtain⟨cur,h1,_⟩:=hap; exact (Array.getElem?_eq_some_iff.1 h1).1
   exact iB (l:=[.im (bW b6 0 (bU ls i).length C6)]) (r:=.one (.im (bW b6 0 (bU ls i).length C6))) (by kernel_rfl) (by kernel_rfl) hA ⟨b6,C6,rfl,⟨hS0,b6,0,C6,rfl,Nat.lt_of_lt_of_le hlt hA.below.size,bI hA.below hlt hr⟩,hge,hbl.trans (hA.below.mono hbl.size),hap.shape hA.shape⟩
  | succ k ih =>
   intro i b6 C6 a w hi hd hs t6 t25 t26 t27 hap hr hge hbl;have hiK:i<K:=by omega
   have hH:=cT (nt:=36) (w:=w) (a:=a) (ts:=[(6,bW b6 0 (bU ls i).length C6),(25,bW hb ho K hm),(26,iI K),(27,iI i)]) hd hs (fun x hx=>by
    simp only[List.mem_cons,List.not_mem_nil,or_false]at hx
    rcases hx with rfl|rfl|rfl|rfl
    ·exact t6
    ·exact t25
    ·exact t26
    ·exact t27)
   unfold Un;refine wl _ _ _ (wp_seq (aE aQ (hT _ _) (hG _ _) (Bt _ _ K i) ⟨xL hiK,trivial⟩ hH fun a w1 hA => ?_));refine wp_seq (aE aQ (hT _ _) (hG _ _) (VA _ _ K i) trivial hA fun a w1 hA => ?_);refine wp_seq (wp_block (wp_seq (aE aQ (hT _ _) (uR w _ _ _) (UX w hb ho K hm i _ (vs i)) ⟨rfl,hiK,(hhd i hiK).below hbl (by have:=(hhd i hiK).1; exact this),trivial⟩ hA fun a w1 hA => ?_)));refine gH (l:=List.range' 0 ((bP nU).extract 0 2).size++(2::(List.range' 3 ((bP nU).extract 3 4).size++[]))) (by kernel_rfl) ?_;refine bO (c:=tC T0 _) (hT _ _ 0) (hG _ _) (VC _ _ _ K i) trivial (by kernel_rfl) hA fun a2 w2 hA => ?_
   obtain⟨o2,ho2,hop2,hd2,hg2⟩:∃x,(bP nU)[2]?=some x∧x.op=.call ⟨.builtin .append,#[.tmp 31,.tmp 32],#[30,30]⟩∧x.dst=some 33∧x.guard=none:=⟨_,rfl,rfl,rfl,rfl⟩
   have hb2:=hA.below;have hB2:Below w0.heap.size w0 w2:=hbl.trans (hb2.mono hbl.size);have hlt:b6<w.heap.size:=by obtain⟨cur,h1,_⟩:=hap; exact (Array.getElem?_eq_some_iff.1 h1).1
   obtain⟨hl0,b',o',m',e',hb',hr'⟩:=(hls i hiK).below hB2;have hmn:=kM ls (show i+1≤K by omega);have hl1:=hlen i;obtain⟨b7,C7,w3,hrun,a1,q2,q3,q4,a5,a6,a7⟩:=oL (P:=prog) w2 (ty:=o2.type) WS (u:=bW b6 0 (bU ls i).length C6) (n:=(bU ls i).length) (xs:=aB (jZ (bU ls i))) (Or.inr ⟨b6,C6,rfl,hap.shape hA.shape,bI hb2 hlt hr,zS _⟩) (ad:=⟨b',o',none⟩) (m:=(ls i).length) (c:=m') (news:=aB (jZ (ls i))) (zS _) (fun j v hj=>by
    have e:(⟨b',o',none⟩:Addr).add j=⟨b',o'+j,none⟩:=by simp[Addr.add]
    rw[e];exact hr' j v hj) (QV _) hl0 (by omega) (by unfold maxLen; omega)
   rw[←hl1]at hrun a1;have hrn:(execOp a2.eval o2).run prog w2=.ok (.value (bW b7 0 (bU ls (i+1)).length C7)) w3:=by
    have h31:=yB (hA.slot (s:=31) (v:=bW b6 0 (bU ls i).length C6) (by simp));have h32:=yB (hA.slot (s:=32) (v:=vs i) (by simp));rw[e']at h32;unfold execOp;simp only[hop2,resolve,invoke,builtin,Sem.run_bind,Sem.run_pure,Result.andThen_ok,List.map_toArray,List.map_cons,List.map_nil,h31,h32];rw[show bW b' o' (ls i).length m'=Value.slice (some ⟨b',o',none⟩) (ls i).length m' from rfl,hrun];rfl
   refine eU ho2 hg2 (fP hrn ?_);rw[hd2];have hB3:Below w0.heap.size w0 w3:=hB2.grown a5 hB2.size (fun k hk=>by
    have:k=b6:=by simpa[bW,Value.ownBlock,eq_comm]using hk
    omega)
   have hge7:w0.heap.size≤b7:=by
    rcases a7 with h|⟨cap0,h⟩
    ·exact Nat.le_trans hB2.size h
    ·have:b6=b7:=by simp only[bW,Value.slice.injEq,Option.some.injEq,Addr.mk.injEq]at h; exact h.1.1
     omega
   have hq3:w3.rangeAt b7 0 (aB (jZ (bU ls (i+1)))):=by
    show w3.rangeAt b7 0 (aB (jZ (bU ls i++ls i)));rw[QY,aL]; exact q3
   have hS3:=cT (nt:=36) (w:=w3) (a:=a2.put (some 33) (bW b7 0 (bU ls (i+1)).length C7)) (ts:=[(33,bW b7 0 (bU ls (i+1)).length C7),(6,bW b6 0 (bU ls i).length C6),(25,bW hb ho K hm),(26,iI K),(27,iI i)]) hA.defers (by rw[cJ]; exact hA.size) (fun x hx=>by
    simp only[List.mem_cons,List.not_mem_nil,or_false]at hx
    rcases hx with rfl|rfl|rfl|rfl|rfl
    ·exact dD _ _ _ (by rw[hA.size]; decide)
    all_goals exact mX (hA.slot (by simp[fC])) (by simp))
   clear hA hH;refine bO (c:=tC T0 _) (hT _ _ 0) (hG _ _) (VB _ _ _ K i) trivial (by kernel_rfl) hS3 fun a4 w4 hA => ?_
   show (cB (cB (cB fI))).wp _ _ _ _;refine aE aQ (hT _ _) (hG _ _) (Bq _ _ K i) ⟨IY (k:=1) (by omega),trivial⟩ hA fun a5 w5 hA => ?_
   exact ih (i+1) b7 C7 a5 w5 (by omega) hA.defers hA.size (hA.slot (by simp[fC])) (hA.slot (by simp[fC])) (hA.slot (by simp[fC])) (hA.slot (by simp[fC])) (a1.shape hA.shape) (bI hA.below q2 hq3) hge7 (hB3.trans (hA.below.mono hB3.size))
 exact key K 0 b6 C6 a5 w5 (by omega) hdf hsz u6 u25 u26 u27 hap5 hr5 hb60 hb5
def Dw:Code:=(f4.body).getD .skip
def Mj:Code:=cA (cB (cB Dw))
def Ba:Code:=cA (cB (cB (cB Dw)))
theorem Ay:Dw=.seq (cA Dw) (.seq (cA (cB Dw)) (.seq (.region 4 (bP Mj) false) (.seq (.region 5 (bP Ba) false) .ret))):=by kernel_rfl
theorem Rl:f4.ntmps=24:=by kernel_rfl
def WB (c:Int):Tab:=T0.add 10 (ND c)
theorem SE (c:Int):TabOk prog (WB c):=(dV _).ad func10 (Sg c)
theorem Kn (s:NS) (c:Int):bR prog (qG prog) (fun _=>tC (WB c) (assoc [(10,.bool true)])) f4 60 [.v (.fl (fB s))]=some ([s.1.1<aO,s.1.2<aO,s.2<aO,wE s=c,aB (fB s)=aB (fB s),aW .neq .i64 c 0=some (.bool true)],.many [.im (.slice none 0 0),.im (.int .i64 c)]):=by kernel_rfl
def Az (s:NS):List Fact:=[.slot 1 (.pt 1 0),.row 1 true (fB s)]
theorem Wv (s:NS):bJ prog (qG prog) 24 (fun _=>tC T0 fun _=>none) 60 (cA Dw) (iO 0 [.v (.fl (fB s))]) (Az s)=some ([],.nrm,Az s):=by kernel_rfl
theorem Wu (s:NS):bJ prog (qG prog) 24 (fun _=>tC (WB 0) fun _=>none) 60 (cA (cB Dw)) (Az s) (Az s)=some ([s.1.1<aO,s.1.2<aO,s.2<aO,wE s=0,aB (fB s)=aB (fB s)],.nrm,Az s):=by kernel_rfl
theorem Ru (s:NS):jX prog (qG prog) 24 (tC T0 fun _=>none) ((bP Mj).extract 0 2) (Az s) (.slot 14 (.fl [.q s.1.1,.q s.1.2])::Az s)=some ([],.slot 14 (.fl [.q s.1.1,.q s.1.2])::Az s):=by kernel_rfl
theorem Rt (v:Value) (b1:Nat):jX prog (qG prog) 24 (tC T0 fun _=>none) ((bP Mj).extract 3 8) [.slot 15 (.tu [.im v,.im (.int .i64 0)]),.slot 1 (.im (ptV b1 0))] [.slot 5 (.im v),.slot 1 (.im (ptV b1 0))]=some ([],[.slot 5 (.im v),.slot 1 (.im (ptV b1 0))]):=by kernel_rfl
theorem Rs (w:World) (s:NS) (b b1 m:Nat):jX prog { qG prog with x:=xO w (fun _=>none) (assoc [(20,[.q s.2])]) (fun _=>none) } 24 (tC T0 fun _=>none) ((bP Ba).extract 0 3) [.slot 5 (.im (bW b 0 32 m)),.slot 1 (.im (ptV b1 0))] [.slot 18 (.im (bW b 0 32 m)),.slot 20 (.fl [.q s.2])]=some ([oldOf w b1 8 [.q s.2],eS [At.q s.2]=4],[.slot 18 (.im (bW b 0 32 m)),.slot 20 (.fl [.q s.2])]):=by kernel_rfl
theorem Rq (b m b' m':Nat):jX prog (qG prog) 24 (tC T0 fun _=>none) ((bP Ba).extract 4 5) [.slot 18 (.im (bW b 0 32 m)),.slot 21 (.im (bW b' 0 32 m'))] [.slot 22 (.sl 22 0 2 2),.row 22 true [.c (bW b 0 32 m),.c (bW b' 0 32 m')]]=some ([],[.slot 22 (.sl 22 0 2 2),.row 22 true [.c (bW b 0 32 m),.c (bW b' 0 32 m')]]):=by kernel_rfl
theorem Rm (v:Value):jX prog (qG prog) 24 (tC T0 fun _=>none) ((bP Ba).extract 6 8) [.slot 23 (.im v)] [.slot 2 (.im v),.slot 3 (.im (.int .i64 0))]=some ([],[.slot 2 (.im v),.slot 3 (.im (.int .i64 0))]):=by kernel_rfl
def OS (f:Nat→Nat):List Nat:=(List.range 32).map f
theorem mU (f:Nat→Nat):(OS f).length=32:=by simp[OS]
def zD (s:NS):List Nat:=OS (mE s.1)++OS (bE s.2)
theorem rV (s:NS):(zD s).length=64:=by unfold zD; rw[List.length_append,mU,mU]
theorem DK {w:World} {b:Nat} {f:Nat→Nat} (h:Go.Proofs.YtpjlhhpjpnacmaaGreat.RowB w b 32 f):w.rangeAt b 0 (aB (bj f)):=fun j v hj=>by
 have hlt:j<32:=by
  rcases Nat.lt_or_ge j 32 with h|h
  ·exact h
  ·rw[List.getElem?_eq_none (show (aB (bj f)).length≤j from h)]at hj; cases hj
 rw[mT f j hlt]at hj;rw[Nat.zero_add,(h j hlt).1];exact hj
def BzA (w0:World) (s:NS) (e:Ending) (w':World):Prop:=∃b C,e=.returned (.tuple #[bW b 0 64 C,.int .i64 0])∧w'.rangeAt b 0 (aB (jZ (zD s)))∧w0.heap.size≤b∧Below w0.heap.size w0 w'∧AppAt w' b 5 1 64 C
theorem yH {s:NS} (h1:s.1.1<aO) (h2:s.1.2<aO) (h3:s.2<aO) (hs:wE s=0) (w0:World):Calls prog 4 [.agg (aB (fB s)).toArray].toArray w0 (BzA w0 s):=by
 have hG:∀base w,dC prog (qG prog) base w:=fun _ _=>(aT _).w _ _
 have hT:∀base w,∀n d:Nat,TabOkW prog T0 base w:=fun _ _ _ _=>(dV _).w _ _
 have hR:=Ed hs;have hnt:f4.ntmps=24:=Rl;refine eT func4 (cs:=[.v (.fl (fB s))]) (args:=[.agg (aB (fB s)).toArray]) (c:=Dw) rfl ⟨rfl,trivial⟩ (Nat.le_of_ble_eq_true (by kernel_rfl)) fun a w hA => ?_
 rw[hnt]at hA;rw[Ay];refine wp_seq (aE aQ (hT _ _) (hG _ _) (Wv s) trivial hA fun a w hA => ?_);refine wp_seq (aE aQ (fun _ _=>(SE 0).w _ _) (hG _ _) (Wu s) ⟨h1,h2,h3,hs,rfl,trivial⟩ hA fun a w hA => ?_);refine wp_seq (gH (l:=List.range' 0 ((bP Mj).extract 0 2).size++(2::(List.range' 3 ((bP Mj).extract 3 8).size++[]))) (by kernel_rfl) ?_);refine bO (c:=tC T0 _) (hT _ _ 0) (hG _ _) (Ru s) trivial (by kernel_rfl) hA fun a w1 hA => ?_
 unfold Az at hA;obtain⟨b1,hA⟩:=hA.at (k:=1) (l:=fB s) (by simp);have m1:Own w1 b1 (fB s):=hA.own (k:=1) (by simp) (by simp);have hB1:w0.heap.size≤b1:=hA.geq (k:=1) (l:=fB s) (by simp) (by simp);have hbl:=hA.below;have t1:=hA.ptS (s:=1) (k:=1) (o:=0) (b:=b1) (by simp) (by simp);have t14:=hA.slotF (s:=14) (l:=[.q s.1.1,.q s.1.2]) (by simp);have hdf:=hA.defers;have hsz:=hA.size;clear hA;obtain⟨o2,ho2,⟨ts2,hop2⟩,hd2,hg2⟩:∃x,(bP Mj)[2]?=some x∧(∃ts,x.op=.call ⟨.value (.func 11),#[.tmp 14],ts⟩)∧x.dst=some 15∧x.guard=none:=⟨_,rfl,⟨_,rfl⟩,rfl,rfl⟩
 refine eU ho2 hg2 (jS hop2 (vs:=[.agg (aB [.q s.1.1,.q s.1.2]).toArray]) (List.cons_eq_cons.2 ⟨yB t14,rfl⟩) (fun args=>eJ func11 (by kernel_rfl) (by kernel_rfl) args _) (NW s.1 (KF hR) hR [.agg (aB [.q s.1.1,.q s.1.2]).toArray] w1 ⟨rfl,trivial⟩) fun e w2 hq => ?_);obtain⟨b2,rfl,hb2,hge2,hlt2,hr2,_⟩:=hq;refine⟨_,rfl,?_⟩;rw[hd2];have Xx:=m1.on hb2;have hS2:=wV (nt:=24) (w:=w2) (a:=a.put (some 15) (FR.val ⟨bj (mE s.1),32,32,[.im (.int .i64 0)]⟩ b2)) (ts:=[(15,.tu [.im (bW b2 0 32 32),.im (.int .i64 0)]),(1,.im (ptV b1 0))]) hdf (by rw[cJ]; exact hsz) (fun x hx β=>by
  simp only[List.mem_cons,List.not_mem_nil,or_false]at hx
  rcases hx with rfl|rfl
  ·exact dD _ _ _ (by rw[hsz]; decide)
  ·exact mX t1 (by simp))
 refine bO (c:=tC T0 _) (hT _ _ 0) (hG _ _) (Rt (bW b2 0 32 32) b1) trivial (by kernel_rfl) hS2 fun a3 w3 hA => ?_
 have hb3:=hA.below;have m13:=Xx.on hb3;have hr3:=bI hb3 hlt2 hr2;have hlt3:b2<w3.heap.size:=Nat.lt_of_lt_of_le hlt2 hb3.size;have hb13:=hb2.trans (hb3.mono hb2.size);have hS3:=cT (nt:=24) (w:=w3) (a:=a3) (ts:=[(5,bW b2 0 32 32),(1,ptV b1 0)]) hA.defers hA.size (fun x hx=>by
  simp only[List.mem_cons,List.not_mem_nil,or_false]at hx
  rcases hx with rfl|rfl
  ·exact hA.slot (s:=5) (v:=bW b2 0 32 32) (by simp)
  ·exact hA.slot (s:=1) (v:=ptV b1 0) (by simp))
 clear hA hS2;refine wp_seq (gH (l:=List.range' 0 ((bP Ba).extract 0 3).size++(3::(List.range' 4 ((bP Ba).extract 4 5).size++(5::(List.range' 6 ((bP Ba).extract 6 8).size++[]))))) (by kernel_rfl) ?_);refine bO (c:=tC T0 _) (hT _ _ 0) (uR w3 _ _ _) (Rs w3 s b2 b1 32) ⟨m13.old (o:=8) (s:=[.q s.2]) rfl,rfl,trivial⟩ (by kernel_rfl) hS3 fun a4 w4 hA => ?_
 have hb4:=hA.below;have hr4:=bI hb4 hlt3 hr3;have t18:=hA.slot (s:=18) (v:=bW b2 0 32 32) (by simp);have t20:=hA.slotF (s:=20) (l:=[.q s.2]) (by simp);have hdf4:=hA.defers;have hsz4:=hA.size;clear hA hS3;obtain⟨o3,ho3,⟨ts3,hop3⟩,hd3,hg3⟩:∃x,(bP Ba)[3]?=some x∧(∃ts,x.op=.call ⟨.value (.func 13),#[.tmp 20],ts⟩)∧x.dst=some 21∧x.guard=none:=⟨_,rfl,⟨_,rfl⟩,rfl,rfl⟩
 have hlb:=pL (fw s.2 0) (fw s.2 1) (fw s.2 2) (fw s.2 3) (cP s.2) w4;rw[gY h3]at hlb;refine eU ho3 hg3 (jS hop3 (vs:=[.agg (aB [.q s.2]).toArray]) (List.cons_eq_cons.2 ⟨yB t20,rfl⟩) (fun args=>eJ func13 (by kernel_rfl) (by kernel_rfl) args _) hlb fun e w5 hq => ?_);obtain⟨b5,rfl,hge5,hlt5,hrow5,hb5,_⟩:=hq;refine⟨_,rfl,?_⟩;rw[hd3];have hr5:=bI hb5 (Nat.lt_of_lt_of_le hlt3 hb4.size) hr4;have hlt25:b2<w5.heap.size:=Nat.lt_of_lt_of_le (Nat.lt_of_lt_of_le hlt3 hb4.size) hb5.size;have hS5:=cT (nt:=24) (w:=w5) (a:=a4.put (some 21) (bW b5 0 32 32)) (ts:=[(18,bW b2 0 32 32),(21,bW b5 0 32 32)]) hdf4 (by rw[cJ]; exact hsz4) (fun x hx=>by
  simp only[List.mem_cons,List.not_mem_nil,or_false]at hx
  rcases hx with rfl|rfl
  ·exact mX t18 (by simp)
  ·exact dD _ _ _ (by rw[hsz4]; decide))
 refine bO (c:=tC T0 _) (hT _ _ 0) (hG _ _) (Rq b2 32 b5 32) trivial (by kernel_rfl) hS5 fun a6 w6 hA => ?_
 obtain⟨b22,hA⟩:=hA.at (k:=22) (l:=[.c (bW b2 0 32 32),.c (bW b5 0 32 32)]) (by simp);have m22:Own w6 b22 [.c (bW b2 0 32 32),.c (bW b5 0 32 32)]:=hA.own (k:=22) (by simp) (by simp);have hb6:=hA.below;have hA2:=hA.im (s:=22) (k:=22) (o:=0) (n:=2) (m:=2) (b:=b22) (by simp) (by simp);have t22:=hA2.slot (s:=22) (v:=bW b22 0 2 2) (by simp);have hdf6:=hA.defers;have hsz6:=hA.size;have hr6:=bI hb6 hlt25 hr5;have hr56:=bI hb6 hlt5 (DK hrow5);have hHQ:HQBz w6 (bW b22 0 2 2) 2 (fun j=>if j=0 then bW b2 0 32 32 else bW b5 0 32 32) (fun j=>if j=0 then OS (mE s.1)else OS (bE s.2)):=by
  refine⟨b22,0,2,rfl,fun j hj => ?_,fun j hj => ?_⟩
  ·match j,hj with
   | 0,_=>exact m22.old rfl
   | 1,_=>exact m22.old rfl
  ·match j,hj with
   | 0,_=>exact⟨by show 0<(OS (mE s.1)).length; rw[mU]; decide,b2,0,32,by show bW b2 0 32 32=bW b2 0 (OS (mE s.1)).length 32; rw[mU],Nat.lt_of_lt_of_le hlt25 hb6.size,hr6⟩
   | 1,_=>exact⟨by show 0<(OS (bE s.2)).length; rw[mU]; decide,b5,0,32,by show bW b5 0 32 32=bW b5 0 (OS (bE s.2)).length 32; rw[mU],Nat.lt_of_lt_of_le hlt5 hb6.size,hr56⟩
 have hcl:bU (fun j=>if j=0 then OS (mE s.1)else OS (bE s.2)) 2=zD s:=rfl;clear hA hA2 hS5;obtain⟨o5,ho5,⟨ts5,hop5⟩,hd5,hg5⟩:∃x,(bP Ba)[5]?=some x∧(∃ts,x.op=.call ⟨.value (.func 12),#[.tmp 22],ts⟩)∧x.dst=some 23∧x.guard=none:=⟨_,rfl,⟨_,rfl⟩,rfl,rfl⟩
 refine eU ho5 hg5 (jS hop5 (vs:=[bW b22 0 2 2]) (List.cons_eq_cons.2 ⟨yB t22,rfl⟩) (fun args=>eJ func12 (by kernel_rfl) (by kernel_rfl) args _) (GI hHQ (by decide) (by decide) (by rw[hcl,rV]; decide)) fun e w7 hq => ?_);rw[hcl,rV]at hq;obtain⟨b7,C7,rfl,⟨_,b7',o7',m7',e7,hlt7,hr7⟩,hge7,hb7,hap7⟩:=hq;rw[rV]at e7;cases e7;refine⟨_,rfl,?_⟩;rw[hd5];have hS7:=cT (nt:=24) (w:=w7) (a:=a6.put (some 23) (bW b7 0 64 C7)) (ts:=[(23,bW b7 0 64 C7)]) hdf6 (by rw[cJ]; exact hsz6) (fun x hx=>by
  simp only[List.mem_cons,List.not_mem_nil,or_false]at hx
  rcases hx with rfl
  exact dD _ _ _ (by rw[hsz6]; decide))
 refine bO (c:=tC T0 _) (hT _ _ 0) (hG _ _) (Rm (bW b7 0 64 C7)) trivial (by kernel_rfl) hS7 fun a8 w8 hA => ?_
 have hb8:=hA.below;have s1:=hbl.size;have s2:=hb13.size;have s4:=hb4.size;have s5:=hb5.size;have s6:=hb6.size;have hB7:Below w0.heap.size w0 w7:=((((hbl.trans (hb13.mono s1)).trans (hb4.mono (by omega))).trans (hb5.mono (by omega))).trans (hb6.mono (by omega))).trans (hb7.mono (by omega));have s7:=hB7.size;exact wp_ret (iB (l:=[.im (bW b7 0 64 C7),.im (.int .i64 0)]) (r:=.many [.im (bW b7 0 64 C7),.im (.int .i64 0)]) (by kernel_rfl) (by kernel_rfl) hA ⟨b7,C7,rfl,bI hb8 hlt7 hr7,by omega,hB7.trans (hb8.mono s7),hap7.shape hA.shape⟩)
def Jk (f g:Nat→Nat) (R:RV):gP
 | [.s l n m]=>some ([n=32,aB l=aB (bj f++bj g),Eu f R],R)
 | _=>none
theorem ZX (f g:Nat→Nat) (R:RV):∀cs pre r,Jk f g R cs=some (pre,r)→aS pre→∀(args:List Value) (w:World),cH w cs args→bC prog 17 r args w:=by
 intro cs pre r hg hp args w ha;unfold Jk at hg;split at hg
 ·rename_i l n m;cases hg;obtain⟨p1,p2,p3,_⟩:=hp;subst p1
  match args,ha with
  | [v],ha =>
   obtain⟨b,o,e,hb,hr⟩:=ha.1;rw[p2]at hr;refine p3 m [v] w ⟨⟨b,o,e,hb,fun j x hj=>hr j x ?_⟩,trivial⟩;rw[aL];have hl:j<(aB (bj f)).length:=by
    rcases Nat.lt_or_ge j (aB (bj f)).length with h|h
    ·exact h
    ·rw[List.getElem?_eq_none h]at hj; cases hj
   rw[List.getElem?_append_left hl];exact hj
  | [],ha=>exact ha.elim
  | _::_::_,ha=>exact ha.2.elim
 ·cases hg
def Jl (g:Nat→Nat) (S:Nat):gP
 | [.s l n m]=>some ([n=32,aB l=aB (bj g)],.many [.fl [.q S],.im (.int .i64 0)])
 | _=>none
def KM (f g:Nat→Nat) (R:RV) (S:Nat) (z:Bool):Tab:=((T0.add 17 (Jk f g R)).add 18 (Jl g S)).add 19 (Ak z)
def Kg (f g:Nat→Nat) (m:Nat) (R:RV):List Prop:=[32≤m,32=32,aB (bj f++bj g)=aB (bj f++bj g),Eu f R]
theorem Qy (f g:Nat→Nat) (m S:Nat) (P:NP):bR prog (qG prog) (fun _=>tC (KM f g (gF P 0) S true) (fun _=>none)) f6 60 [.s (bj f++bj g) 64 m]=some (Kg f g m (gF P 0)++[32≤64,64≤m,32<m,32=32,aB (bj g)=aB (bj g),S<aO,decide (S<lJ)=true],.many [.fl (fB (P,S)),.im (.int .i64 0)]):=by kernel_rfl
theorem Qx (f g:Nat→Nat) (m S:Nat) (P:NP):bR prog (qG prog) (fun _=>tC (KM f g (gF P 0) S false) (fun _=>none)) f6 60 [.s (bj f++bj g) 64 m]=some (Kg f g m (gF P 0)++[32≤64,64≤m,32<m,32=32,aB (bj g)=aB (bj g),S<aO,decide (S<lJ)=false],.many [.fl OY,.im (.int .i64 4)]):=by kernel_rfl
theorem Qw (p:Option Addr) (n m:Nat):bR prog (qG prog) (fun _=>tC (T0) (assoc [(6,.bool true),(7,.bool true),(8,.bool true),(9,.bool true),(10,.bool true),(5,.bool true),(11,.bool true)])) f6 60 [.v (.im (.slice p n m))]=some ([aW .neq .i64 n 64=some (.bool true)],.many [.fl OY,.im (.int .i64 3)]):=by kernel_rfl
theorem ZY {g:Nat→Nat} (hg:∀k,g k<256):∀cs pre r,Jl g (Go.Proofs.YtpjlhhpjpnacmaaGreat.gL g 0 32) cs=some (pre,r)→aS pre→∀(args:List Value) (w:World),cH w cs args→bC prog 18 r args w:=by
 intro cs pre r hg' hp args w ha;unfold Jl at hg';split at hg'
 ·rename_i l n m;cases hg';obtain⟨p1,p2,_⟩:=hp;subst p1
  match args,ha with
  | [v],ha =>
   obtain⟨b,o,rfl,hb,hr⟩:=ha.1;rw[p2]at hr;refine (Go.Proofs.YtpjlhhpjpnacmaaGreat.II b o m g hg w hb (pM hr)).mono fun e w' h => ?_
   obtain⟨s0,s1,s2,s3,c,he,hs,⟨hv,hc⟩,hbl⟩:=h;have hlt:Go.Proofs.YtpjlhhpjpnacmaaGreat.gL g 0 32<aO:=Do hg (by decide);obtain⟨e0,e1,e2,e3⟩:=fN hs hlt hv;subst e0; subst e1; subst e2; subst e3; subst hc;exact⟨he,hbl⟩
  | [],ha=>exact ha.elim
  | _::_::_,ha=>exact ha.2.elim
 ·cases hg'
theorem EI {f g:Nat→Nat} (hg:∀k,g k<256) (R:RV) (z:Bool):TabOk prog (KM f g R (Go.Proofs.YtpjlhhpjpnacmaaGreat.gL g 0 32) z):=(((dV _).ad func17 (ZX f g R)).ad func18 (ZY hg)).ad func19 (Kp z)
theorem BL (p:Option Addr) (n m:Nat) (hn:n≠64) (w:World):bC prog 6 (.many [.fl OY,.im (.int .i64 3)]) [.slice p n m] w :=
 aG aQ (fun _ _=>dV _) (aT _) func6 (Qw p n m) ⟨by
  show some (Value.bool ((n:Int) != 64))=_;rw[bne_iff_ne.2 (by omega)],trivial⟩ (args:=[.slice p n m]) ⟨rfl,trivial⟩
end Go.Proofs.YtpjlhhpjpnacmaaGreat.Ex
namespace Go.Proofs.YtpjlhhpjpnacmaaGreat
open Go.Proofs.Tryz
open Go.RowKit
def tQ:Nat:=40770029410420498293352137776570907027550720424234931066070132305055
theorem YW:aZ 11211439779908376895 1735440370612733063 1376415503089949544 12990080814∧aA 11211439779908376895 1735440370612733063 1376415503089949544 12990080814=2*tQ+1∧aZ 14829091926808964256 867720185306366531 688207751544974772 6495040407∧aA 14829091926808964256 867720185306366531 688207751544974772 6495040407=tQ+1:=⟨by unfold aZ; decide,by kernel_rfl,by unfold aZ; decide,by kernel_rfl⟩
theorem TP:FR.M=2^28*(2*tQ+1)+1:=by rw[Lw]; rfl
theorem NK (e:Nat) (he:e=10944121435919637611123202872628637544274182200208017171849102093287904247808):5^e%FR.M=FR.M-1 :=
 RO (by subst he; decide) (by subst he; kernel_rfl)
theorem SI (T:Nat) (hT:T=28):(2*tQ+1)*2^(T-1)=10944121435919637611123202872628637544274182200208017171849102093287904247808:=by subst hT; rfl
theorem TS (T:Nat) (hT:T=28):(5^(2*tQ+1)%FR.M)^2^(T-1)%FR.M=FR.M-1:=by
 rw[←Nat.pow_mod,←Nat.pow_mul];exact NK _ (SI T hT)
theorem WU {M A T R S C:Nat} (h:qL M A T R S C):qL M A T (R%M) (S%M) (C%M):=by
 obtain⟨h1,h2,h3,h4⟩:=h;refine⟨h1,?_,?_,?_⟩
 ·rw[←Nat.mul_mod,h2,Nat.mul_mod_mod]
 ·rw[←Nat.pow_mod]; exact h3
 ·rw[←Nat.pow_mod]; exact h4
theorem LA {M A H T C:Nat} (hM:M=2^T*(2*H+1)+1) (hT:1≤T) (hC:C^2^(T-1)%M=M-1) (hs:A^(M/2)%M=1) :
  qL M A T (A^(H+1)%M) (A^(2*H+1)%M) C:=by
 have h:=uU hM hT hC hs;have e1:A*A^H=A^(H+1):=by rw[Nat.pow_succ,Nat.mul_comm]
 have e2:A*A^H*A^H=A^(2*H+1):=by rw[e1,←Nat.pow_add]; congr 1; omega
 rw[e2,e1]at h;obtain⟨h1,h2,h3,h4⟩:=h;refine⟨h1,?_,h3,?_⟩
 ·rw[←Nat.mul_mod,h2,Nat.mul_mod_mod]
 ·rw[←Nat.pow_mod]; exact h4
theorem PK {M g:Nat} (hr:Root M g) (h2:2<M) {A T o R S C:Nat} (h:qL M A T R S C) (ho:0<o) (hoT:o<T) (h1:S^2^o%M=1) (hmin:S^2^(o-1)%M≠1) :
  qL M A o (R*(C^2^(T-o-1)%M)%M) (S*(C^2^(T-o-1)%M*(C^2^(T-o-1)%M)%M)%M) (C^2^(T-o-1)%M*(C^2^(T-o-1)%M)%M):=by
 have h':=WU (yY hr h2 h ho hoT h1 hmin);rw[←Nat.mul_mod,Nat.mul_mod_mod,Nat.mul_mod_mod];exact h'
set_option maxHeartbeats 4000000 in
theorem uK (a0 a1 a2 a3:Nat) (ha:aZ a0 a1 a2 a3) (hs:aA a0 a1 a2 a3^(FR.M/2)%FR.M=1∨aA a0 a1 a2 a3=0) (w:World) :
  Calls prog 75 #[.agg #[.int .u64 a0,.int .u64 a1,.int .u64 a2,.int .u64 a3]] w (fun e w'=>∃s0 s1 s2 s3:Nat,e=.returned (.agg #[.int .u64 s0,.int .u64 s1,.int .u64 s2,.int .u64 s3])∧aZ s0 s1 s2 s3∧aA s0 s1 s2 s3*aA s0 s1 s2 s3%FR.M=aA a0 a1 a2 a3%FR.M∧aA s0 s1 s2 s3<FR.M∧Below w.heap.size w w'):=by
 have hG:=jQ;have hf:FieldIs 2 FR:=Or.inr ⟨rfl,rfl⟩;obtain⟨gg,hroot⟩:=hf.root;have HRt:=Lib.hid hroot;have HSq:=Lib.hid hs;have HOd:=Lib.hid YW;have h2:=Ew.gt;clear hroot hs
 go_enter func75,ntmps75
 go_upto_region 3 with fail
 have HM:=Lib.hid (((((Mem.nil w).new (w.heap.size) a0 a1 a2 a3 24 (by simp)).new (w.heap.size+1) 0 0 0 0 24 (by simp)).new (w.heap.size+1+1) 11211439779908376895 1735440370612733063 1376415503089949544 12990080814 27 (by simp)).new (w.heap.size+1+1+1) 14829091926808964256 867720185306366531 688207751544974772 6495040407 27 (by simp))
 go_cut [5] (fun s5 wx=>∃gc c0 c1 c2 c3:Nat,s5=.pointer (some ⟨gc,0,none⟩)∧w.heap.size+1+1+1<gc∧aZ c0 c1 c2 c3∧Hid (aA c0 c1 c2 c3=5^(2*tQ+1)%FR.M)∧Hid (Mem w wx [(gc,c0,c1,c2,c3),(w.heap.size+1+1+1,14829091926808964256,867720185306366531,688207751544974772,6495040407),(w.heap.size+1+1,11211439779908376895,1735440370612733063,1376415503089949544,12990080814),(w.heap.size+1,0,0,0,0),(w.heap.size,a0,a1,a2,a3)]))
 case first =>
  refine bM (fun wx=>Mem w wx [(w.heap.size+1+1+1,14829091926808964256,867720185306366531,688207751544974772,6495040407),(w.heap.size+1+1,11211439779908376895,1735440370612733063,1376415503089949544,12990080814),(w.heap.size+1,0,0,0,0),(w.heap.size,a0,a1,a2,a3)]) 4 (by kernel_rfl) ?_;have HM':=Lib.hid (HM.out.drewN 1);clear HM;have HM:=HM';clear HM';have HS:=HM.out.sub (rs':=[(w.heap.size+1+1+1,14829091926808964256,867720185306366531,688207751544974772,6495040407),(w.heap.size+1+1,11211439779908376895,1735440370612733063,1376415503089949544,12990080814),(w.heap.size+1,0,0,0,0),(w.heap.size,a0,a1,a2,a3)]) (by simp);refine aC (i:=1) (v:=.agg #[.int .u64 11211439779908376895,.int .u64 1735440370612733063,.int .u64 1376415503089949544,.int .u64 12990080814]) rfl (by kernel_rfl) (by kernel_rfl) (by kernel_rfl) (by kernel_rfl) (fun _ _ _ h=>h) HS (Or.inl ⟨by kernel_rfl,fun wx hx => ?_⟩) ?_
  ·have kr:=hx.row (b:=w.heap.size+1+1) (c0:=11211439779908376895) (c1:=1735440370612733063) (c2:=1376415503089949544) (c3:=12990080814) (by simp);have x0:=kr.c0; have x1:=kr.c1; have x2:=kr.c2; have x3:=kr.c3;clear kr HS hx;go_simp
  simp only[Act.put,List.setIfInBounds_toArray,List.set_cons_zero,List.set_cons_succ];clear HS;refine cI (i:=0) (j:=3) (by kernel_rfl) rfl rfl (fun K hK => ?_) (fun K hK => ?_)
  ·go_simp;refine (pU 5 _).mono ?_
   rintro e v1 ⟨rfl,hbl⟩
   have HM':=Lib.hid (HM.out.on hbl);clear HM hbl;have HM:=HM';clear HM';have HS:=HM.out.sub (rs':=[(w.heap.size+1+1+1,14829091926808964256,867720185306366531,688207751544974772,6495040407),(w.heap.size+1+1,11211439779908376895,1735440370612733063,1376415503089949544,12990080814),(w.heap.size+1,0,0,0,0),(w.heap.size,a0,a1,a2,a3)]) (by simp);refine hK.out _ _ (Or.inr HS) (fun _ => ?_);clear hK K;clear HS;refine cI (i:=2) (j:=3) (by kernel_rfl) rfl rfl (fun K hK => ?_) (fun K hK => ?_)
   ·go_simp;refine (eP 2 FR hf 5 0 0 0 11211439779908376895 1735440370612733063 1376415503089949544 12990080814 (show aZ 5 0 0 0 by unfold aZ; decide) HOd.out.1 _).mono ?_
    rintro e v2 ⟨c0,c1,c2,c3,rfl,hc,hv,hbl⟩
    have HVc:=Lib.hid (show aA c0 c1 c2 c3=5^(2*tQ+1)%FR.M by rw[hv,HOd.out.2.1,show aA 5 0 0 0=5 from rfl]);clear hv;have HM':=Lib.hid (HM.out.on hbl);clear HM hbl;have HM:=HM';clear HM';have HS:=HM.out.sub (rs':=[(w.heap.size+1+1+1,14829091926808964256,867720185306366531,688207751544974772,6495040407),(w.heap.size+1+1,11211439779908376895,1735440370612733063,1376415503089949544,12990080814),(w.heap.size+1,0,0,0,0),(w.heap.size,a0,a1,a2,a3)]) (by simp);refine hK.out _ _ (Or.inr HS) (fun _ => ?_);clear hK K;clear HS;refine aD (i:=3) (by kernel_rfl) rfl (fun K hK => ?_);go_simp;have HM9:=HM;have hgb:w.heap.size≤(v2.heap.size):=by first|exact HM.out.1.size|(have:=HM.out.1.size; simp at this; omega)|omega
    have hgl0:w.heap.size+1+1+1<(v2.heap.size):=by first|exact HM.out.lt (b:=w.heap.size+1+1+1) (c0:=14829091926808964256) (c1:=867720185306366531) (c2:=688207751544974772) (c3:=6495040407) (by simp)|(have:=HM.out.lt (b:=w.heap.size+1+1+1) (c0:=14829091926808964256) (c1:=867720185306366531) (c2:=688207751544974772) (c3:=6495040407) (by simp); simp at this; omega)|omega
    have hgl1:w.heap.size+1+1<(v2.heap.size):=by first|exact HM.out.lt (b:=w.heap.size+1+1) (c0:=11211439779908376895) (c1:=1735440370612733063) (c2:=1376415503089949544) (c3:=12990080814) (by simp)|(have:=HM.out.lt (b:=w.heap.size+1+1) (c0:=11211439779908376895) (c1:=1735440370612733063) (c2:=1376415503089949544) (c3:=12990080814) (by simp); simp at this; omega)|omega
    have hgl2:w.heap.size+1<(v2.heap.size):=by first|exact HM.out.lt (b:=w.heap.size+1) (c0:=0) (c1:=0) (c2:=0) (c3:=0) (by simp)|(have:=HM.out.lt (b:=w.heap.size+1) (c0:=0) (c1:=0) (c2:=0) (c3:=0) (by simp); simp at this; omega)|omega
    have hgl3:w.heap.size<(v2.heap.size):=by first|exact HM.out.lt (b:=w.heap.size) (c0:=a0) (c1:=a1) (c2:=a2) (c3:=a3) (by simp)|(have:=HM.out.lt (b:=w.heap.size) (c0:=a0) (c1:=a1) (c2:=a2) (c3:=a3) (by simp); simp at this; omega)|omega
    have HM':=Lib.hid (HM.out.new (v2.heap.size) 0 0 0 0 24 (by first|rfl|(simp; done)));clear HM;have HM:=HM';clear HM';have HS:=HM.out.sub (rs':=[(w.heap.size+1+1+1,14829091926808964256,867720185306366531,688207751544974772,6495040407),(w.heap.size+1+1,11211439779908376895,1735440370612733063,1376415503089949544,12990080814),(w.heap.size+1,0,0,0,0),(w.heap.size,a0,a1,a2,a3)]) (by simp);refine hK.out _ _ (Or.inr HS) (fun _ => ?_);clear hK K HS;have kr:=HM.out.row (b:=(v2.heap.size)) (c0:=0) (c1:=0) (c2:=0) (c3:=0) (by simp);have yl:=HM.out.lt (b:=(v2.heap.size)) (c0:=0) (c1:=0) (c2:=0) (c3:=0) (by simp);have y0:=kr.c0; have y1:=kr.c1; have y2:=kr.c2; have y3:=kr.c3; have yf:=kr.fr;clear kr;refine aD (i:=4) (by kernel_rfl) rfl (fun K hK => ?_);go_simp;have HM':=Lib.hid (HM9.out.new (v2.heap.size) c0 c1 c2 c3 24 (by first|rfl|(simp; done)));clear HM;have HM:=HM';clear HM';refine hK.out _ _ (Or.inl rfl) (fun _ => ?_);clear hK K;refine aU (by kernel_rfl) ?_;go_wp2_with fail
    go_meet
    exact⟨(v2.heap.size),c0,c1,c2,c3,rfl,by omega,hc,HVc,HM⟩
   ·go_simp;have HM9:=HM;have hgb:w.heap.size≤(v1.heap.size):=by first|exact HM.out.1.size|(have:=HM.out.1.size; simp at this; omega)|omega
    have hgl0:w.heap.size+1+1+1<(v1.heap.size):=by first|exact HM.out.lt (b:=w.heap.size+1+1+1) (c0:=14829091926808964256) (c1:=867720185306366531) (c2:=688207751544974772) (c3:=6495040407) (by simp)|(have:=HM.out.lt (b:=w.heap.size+1+1+1) (c0:=14829091926808964256) (c1:=867720185306366531) (c2:=688207751544974772) (c3:=6495040407) (by simp); simp at this; omega)|omega
    have hgl1:w.heap.size+1+1<(v1.heap.size):=by first|exact HM.out.lt (b:=w.heap.size+1+1) (c0:=11211439779908376895) (c1:=1735440370612733063) (c2:=1376415503089949544) (c3:=12990080814) (by simp)|(have:=HM.out.lt (b:=w.heap.size+1+1) (c0:=11211439779908376895) (c1:=1735440370612733063) (c2:=1376415503089949544) (c3:=12990080814) (by simp); simp at this; omega)|omega
    have hgl2:w.heap.size+1<(v1.heap.size):=by first|exact HM.out.lt (b:=w.heap.size+1) (c0:=0) (c1:=0) (c2:=0) (c3:=0) (by simp)|(have:=HM.out.lt (b:=w.heap.size+1) (c0:=0) (c1:=0) (c2:=0) (c3:=0) (by simp); simp at this; omega)|omega
    have hgl3:w.heap.size<(v1.heap.size):=by first|exact HM.out.lt (b:=w.heap.size) (c0:=a0) (c1:=a1) (c2:=a2) (c3:=a3) (by simp)|(have:=HM.out.lt (b:=w.heap.size) (c0:=a0) (c1:=a1) (c2:=a2) (c3:=a3) (by simp); simp at this; omega)|omega
    have HM':=Lib.hid (HM.out.new (v1.heap.size) 0 0 0 0 24 (by first|rfl|(simp; done)));clear HM;have HM:=HM';clear HM';have HS:=HM.out.sub (rs':=[(w.heap.size+1+1+1,14829091926808964256,867720185306366531,688207751544974772,6495040407),(w.heap.size+1+1,11211439779908376895,1735440370612733063,1376415503089949544,12990080814),(w.heap.size+1,0,0,0,0),(w.heap.size,a0,a1,a2,a3)]) (by simp);refine hK.out _ _ (Or.inr HS) (fun _ => ?_);clear hK K HS;refine aD (i:=2) (by kernel_rfl) rfl (fun K hK => ?_);go_simp;refine (eP 2 FR hf 5 0 0 0 11211439779908376895 1735440370612733063 1376415503089949544 12990080814 (show aZ 5 0 0 0 by unfold aZ; decide) HOd.out.1 _).mono ?_
    rintro e v2 ⟨c0,c1,c2,c3,rfl,hc,hv,hbl⟩
    have HVc:=Lib.hid (show aA c0 c1 c2 c3=5^(2*tQ+1)%FR.M by rw[hv,HOd.out.2.1,show aA 5 0 0 0=5 from rfl]);clear hv;have HM':=Lib.hid (HM.out.on hbl);clear HM hbl;have HM:=HM';clear HM';have HS:=HM.out.sub (rs':=[(w.heap.size+1+1+1,14829091926808964256,867720185306366531,688207751544974772,6495040407),(w.heap.size+1+1,11211439779908376895,1735440370612733063,1376415503089949544,12990080814),(w.heap.size+1,0,0,0,0),(w.heap.size,a0,a1,a2,a3)]) (by simp);refine hK.out _ _ (Or.inr HS) (fun _ => ?_);clear hK K;clear HS;have kr:=HM.out.row (b:=(v1.heap.size)) (c0:=0) (c1:=0) (c2:=0) (c3:=0) (by simp);have yl:=HM.out.lt (b:=(v1.heap.size)) (c0:=0) (c1:=0) (c2:=0) (c3:=0) (by simp);have y0:=kr.c0; have y1:=kr.c1; have y2:=kr.c2; have y3:=kr.c3; have yf:=kr.fr;clear kr;refine aD (i:=4) (by kernel_rfl) rfl (fun K hK => ?_);go_simp;have HM':=Lib.hid ((HM.out.sub (rs':=[((v1.heap.size),0,0,0,0),(w.heap.size+1+1+1,14829091926808964256,867720185306366531,688207751544974772,6495040407),(w.heap.size+1+1,11211439779908376895,1735440370612733063,1376415503089949544,12990080814),(w.heap.size+1,0,0,0,0),(w.heap.size,a0,a1,a2,a3)]) (by simp)).put c0 c1 c2 c3 hgb (by intro r hr; simp at hr; rcases hr with rfl|rfl|rfl|rfl<;>simp<;>omega));clear HM;have HM:=HM';clear HM';refine hK.out _ _ (Or.inl rfl) (fun _ => ?_);clear hK K;refine aU (by kernel_rfl) ?_;go_wp2_with fail
    go_meet
    exact⟨(v1.heap.size),c0,c1,c2,c3,rfl,by omega,hc,HVc,HM⟩
  ·go_simp;have HM9:=HM;have hgb:w.heap.size≤(w.heap.size+1+1+1+1):=by first|exact HM.out.1.size|(have:=HM.out.1.size; simp at this; omega)|omega
   have hgl0:w.heap.size+1+1+1<(w.heap.size+1+1+1+1):=by first|exact HM.out.lt (b:=w.heap.size+1+1+1) (c0:=14829091926808964256) (c1:=867720185306366531) (c2:=688207751544974772) (c3:=6495040407) (by simp)|(have:=HM.out.lt (b:=w.heap.size+1+1+1) (c0:=14829091926808964256) (c1:=867720185306366531) (c2:=688207751544974772) (c3:=6495040407) (by simp); simp at this; omega)|omega
   have hgl1:w.heap.size+1+1<(w.heap.size+1+1+1+1):=by first|exact HM.out.lt (b:=w.heap.size+1+1) (c0:=11211439779908376895) (c1:=1735440370612733063) (c2:=1376415503089949544) (c3:=12990080814) (by simp)|(have:=HM.out.lt (b:=w.heap.size+1+1) (c0:=11211439779908376895) (c1:=1735440370612733063) (c2:=1376415503089949544) (c3:=12990080814) (by simp); simp at this; omega)|omega
   have hgl2:w.heap.size+1<(w.heap.size+1+1+1+1):=by first|exact HM.out.lt (b:=w.heap.size+1) (c0:=0) (c1:=0) (c2:=0) (c3:=0) (by simp)|(have:=HM.out.lt (b:=w.heap.size+1) (c0:=0) (c1:=0) (c2:=0) (c3:=0) (by simp); simp at this; omega)|omega
   have hgl3:w.heap.size<(w.heap.size+1+1+1+1):=by first|exact HM.out.lt (b:=w.heap.size) (c0:=a0) (c1:=a1) (c2:=a2) (c3:=a3) (by simp)|(have:=HM.out.lt (b:=w.heap.size) (c0:=a0) (c1:=a1) (c2:=a2) (c3:=a3) (by simp); simp at this; omega)|omega
   have HM':=Lib.hid (HM.out.new (w.heap.size+1+1+1+1) 0 0 0 0 24 (by first|rfl|(simp; done)));clear HM;have HM:=HM';clear HM';have HS:=HM.out.sub (rs':=[(w.heap.size+1+1+1,14829091926808964256,867720185306366531,688207751544974772,6495040407),(w.heap.size+1+1,11211439779908376895,1735440370612733063,1376415503089949544,12990080814),(w.heap.size+1,0,0,0,0),(w.heap.size,a0,a1,a2,a3)]) (by simp);refine hK.out _ _ (Or.inr HS) (fun _ => ?_);clear hK K HS;refine aD (i:=0) (by kernel_rfl) rfl (fun K hK => ?_);go_simp;refine (pU 5 _).mono ?_
   rintro e v1 ⟨rfl,hbl⟩
   have HM':=Lib.hid (HM.out.on hbl);clear HM hbl;have HM:=HM';clear HM';have HS:=HM.out.sub (rs':=[(w.heap.size+1+1+1,14829091926808964256,867720185306366531,688207751544974772,6495040407),(w.heap.size+1+1,11211439779908376895,1735440370612733063,1376415503089949544,12990080814),(w.heap.size+1,0,0,0,0),(w.heap.size,a0,a1,a2,a3)]) (by simp);refine hK.out _ _ (Or.inr HS) (fun _ => ?_);clear hK K;clear HS;refine aD (i:=2) (by kernel_rfl) rfl (fun K hK => ?_);go_simp;refine (eP 2 FR hf 5 0 0 0 11211439779908376895 1735440370612733063 1376415503089949544 12990080814 (show aZ 5 0 0 0 by unfold aZ; decide) HOd.out.1 _).mono ?_
   rintro e v2 ⟨c0,c1,c2,c3,rfl,hc,hv,hbl⟩
   have HVc:=Lib.hid (show aA c0 c1 c2 c3=5^(2*tQ+1)%FR.M by rw[hv,HOd.out.2.1,show aA 5 0 0 0=5 from rfl]);clear hv;have HM':=Lib.hid (HM.out.on hbl);clear HM hbl;have HM:=HM';clear HM';have HS:=HM.out.sub (rs':=[(w.heap.size+1+1+1,14829091926808964256,867720185306366531,688207751544974772,6495040407),(w.heap.size+1+1,11211439779908376895,1735440370612733063,1376415503089949544,12990080814),(w.heap.size+1,0,0,0,0),(w.heap.size,a0,a1,a2,a3)]) (by simp);refine hK.out _ _ (Or.inr HS) (fun _ => ?_);clear hK K;clear HS;have kr:=HM.out.row (b:=(w.heap.size+1+1+1+1)) (c0:=0) (c1:=0) (c2:=0) (c3:=0) (by simp);have yl:=HM.out.lt (b:=(w.heap.size+1+1+1+1)) (c0:=0) (c1:=0) (c2:=0) (c3:=0) (by simp);have y0:=kr.c0; have y1:=kr.c1; have y2:=kr.c2; have y3:=kr.c3; have yf:=kr.fr;clear kr;refine aD (i:=4) (by kernel_rfl) rfl (fun K hK => ?_);go_simp;have HM':=Lib.hid ((HM.out.sub (rs':=[((w.heap.size+1+1+1+1),0,0,0,0),(w.heap.size+1+1+1,14829091926808964256,867720185306366531,688207751544974772,6495040407),(w.heap.size+1+1,11211439779908376895,1735440370612733063,1376415503089949544,12990080814),(w.heap.size+1,0,0,0,0),(w.heap.size,a0,a1,a2,a3)]) (by simp)).put c0 c1 c2 c3 hgb (by intro r hr; simp at hr; rcases hr with rfl|rfl|rfl|rfl<;>simp<;>omega));clear HM;have HM:=HM';clear HM';refine hK.out _ _ (Or.inl rfl) (fun _ => ?_);clear hK K;refine aU (by kernel_rfl) ?_;go_wp2_with fail
   go_meet
   exact⟨(w.heap.size+1+1+1+1),c0,c1,c2,c3,rfl,by omega,hc,HVc,HM⟩
 case rest =>
  obtain⟨gc,c0,c1,c2,c3,rfl,hgc,hc,HVc,HM⟩:=hcut;have kr:=HM.out.row (b:=w.heap.size) (c0:=a0) (c1:=a1) (c2:=a2) (c3:=a3) (by simp);have p0:=kr.c0; have p1:=kr.c1; have p2:=kr.c2; have p3:=kr.c3;clear kr;have pl:=HM.out.lt (b:=w.heap.size) (c0:=a0) (c1:=a1) (c2:=a2) (c3:=a3) (by simp);have kr:=HM.out.row (b:=w.heap.size+1+1+1) (c0:=14829091926808964256) (c1:=867720185306366531) (c2:=688207751544974772) (c3:=6495040407) (by simp);have q0:=kr.c0; have q1:=kr.c1; have q2:=kr.c2; have q3:=kr.c3;clear kr;have ql:=HM.out.lt (b:=w.heap.size+1+1+1) (c0:=14829091926808964256) (c1:=867720185306366531) (c2:=688207751544974772) (c3:=6495040407) (by simp);go_wp2_with fail;refine (eP 2 FR hf a0 a1 a2 a3 14829091926808964256 867720185306366531 688207751544974772 6495040407 ha HOd.out.2.2.1 _).mono ?_
  rintro e v3 ⟨x0,x1,x2,x3,rfl,hx,hv,hbl⟩
  have HVx:=Lib.hid (show aA x0 x1 x2 x3=aA a0 a1 a2 a3^(tQ+1)%FR.M by rw[hv,HOd.out.2.2.2]);have lc:gc<v3.heap.size:=(HM.out.on hbl).lt (b:=gc) (c0:=c0) (c1:=c1) (c2:=c2) (c3:=c3) (by simp);have HM':=Lib.hid ((HM.out.on hbl).new v3.heap.size x0 x1 x2 x3 24 rfl);clear hbl hv p0 p1 p2 p3 pl q0 q1 q2 q3 ql;clear HM;have HM:=HM';clear HM';have kr:=HM.out.row (b:=w.heap.size) (c0:=a0) (c1:=a1) (c2:=a2) (c3:=a3) (by simp);have p0:=kr.c0; have p1:=kr.c1; have p2:=kr.c2; have p3:=kr.c3;clear kr;have pl:=HM.out.lt (b:=w.heap.size) (c0:=a0) (c1:=a1) (c2:=a2) (c3:=a3) (by simp);have kr:=HM.out.row (b:=w.heap.size+1+1) (c0:=11211439779908376895) (c1:=1735440370612733063) (c2:=1376415503089949544) (c3:=12990080814) (by simp);have q0:=kr.c0; have q1:=kr.c1; have q2:=kr.c2; have q3:=kr.c3;clear kr;have ql:=HM.out.lt (b:=w.heap.size+1+1) (c0:=11211439779908376895) (c1:=1735440370612733063) (c2:=1376415503089949544) (c3:=12990080814) (by simp);go_wp2_with fail;refine (eP 2 FR hf a0 a1 a2 a3 11211439779908376895 1735440370612733063 1376415503089949544 12990080814 ha HOd.out.1 _).mono ?_
  rintro e v4 ⟨t0,t1,t2,t3,rfl,ht,hv,hbl⟩
  have HVt:=Lib.hid (show aA t0 t1 t2 t3=aA a0 a1 a2 a3^(2*tQ+1)%FR.M by rw[hv,HOd.out.2.1]);have lx:v3.heap.size<v4.heap.size:=(HM.out.on hbl).lt (b:=v3.heap.size) (c0:=x0) (c1:=x1) (c2:=x2) (c3:=x3) (by simp);have HM':=Lib.hid ((HM.out.on hbl).new v4.heap.size t0 t1 t2 t3 24 rfl);clear hbl hv p0 p1 p2 p3 pl q0 q1 q2 q3 ql;clear HM;have HM:=HM';clear HM';have HI:Hid (qL FR.M (aA a0 a1 a2 a3) 28 (aA x0 x1 x2 x3) (aA t0 t1 t2 t3) (aA c0 c1 c2 c3)∨(aA t0 t1 t2 t3=0∧aA x0 x1 x2 x3=0∧aA a0 a1 a2 a3=0)):=Lib.hid (by
   rcases HSq.out with h|h
   ·left;rw[HVx.out,HVt.out,HVc.out];exact LA TP (by omega) (TS 28 rfl) h
   ·right;rw[HVx.out,HVt.out,h];exact⟨by rw[Nat.zero_pow (by omega)]; rfl,by rw[Nat.zero_pow (by omega)]; rfl,rfl⟩)
  have HLT:=Lib.hid (show aA x0 x1 x2 x3<FR.M∧aA t0 t1 t2 t3<FR.M∧aA c0 c1 c2 c3<FR.M by rw[HVx.out,HVt.out,HVc.out]; exact⟨Nat.mod_lt _ (by omega),Nat.mod_lt _ (by omega),Nat.mod_lt _ (by omega)⟩);go_wp2_with fail;obtain⟨gx,hgx⟩:∃gx,gx=v3.heap.size:=⟨_,rfl⟩
  obtain⟨gt,hgt⟩:∃gt,gt=v4.heap.size:=⟨_,rfl⟩
  rw[←hgx,←hgt]at HM ⊢;have ord1:w.heap.size+1+1+1<gc∧gc<gx∧gx<gt:=by omega
  clear HVx HVt HVc hgx hgt lc lx hgc HSq HOd;have HM':=Lib.hid (HM.out.sub (rs':=[(gt,t0,t1,t2,t3),(gx,x0,x1,x2,x3),(gc,c0,c1,c2,c3),(w.heap.size+1,0,0,0,0)]) (by simp));clear HM
  go_loopw [8] (fun t wr=>∃n x0 x1 x2 x3 t0 t1 t2 t3 c0 c1 c2 c3:Nat,t=.int .i64 n∧n≤28∧aZ x0 x1 x2 x3∧aZ t0 t1 t2 t3∧aZ c0 c1 c2 c3∧Hid (qL FR.M (aA a0 a1 a2 a3) n (aA x0 x1 x2 x3) (aA t0 t1 t2 t3) (aA c0 c1 c2 c3)∨(aA t0 t1 t2 t3=0∧aA x0 x1 x2 x3=0∧aA a0 a1 a2 a3=0))∧Hid (aA x0 x1 x2 x3<FR.M∧aA t0 t1 t2 t3<FR.M∧aA c0 c1 c2 c3<FR.M)∧Hid (Mem w wr [(gt,t0,t1,t2,t3),(gx,x0,x1,x2,x3),(gc,c0,c1,c2,c3),(w.heap.size+1,0,0,0,0)])) (fun t _=>(intOf t).toNat)
  case atStart=>exact⟨28,x0,x1,x2,x3,t0,t1,t2,t3,c0,c1,c2,c3,rfl,Nat.le_refl _,hx,ht,hc,HI,HLT,HM'⟩
  case round =>
   clear HM' HI HLT;obtain⟨n,x0,x1,x2,x3,t0,t1,t2,t3,c0,c1,c2,c3,rfl,hn28,hx,ht,hc,HI,HLT,HM⟩:=hrel;have kr:=HM.out.row (b:=gt) (c0:=t0) (c1:=t1) (c2:=t2) (c3:=t3) (by simp);have p0:=kr.c0; have p1:=kr.c1; have p2:=kr.c2; have p3:=kr.c3;clear kr;have pl:=HM.out.lt (b:=gt) (c0:=t0) (c1:=t1) (c2:=t2) (c3:=t3) (by simp);have kr:=HM.out.row (b:=gx) (c0:=x0) (c1:=x1) (c2:=x2) (c3:=x3) (by simp);have q0:=kr.c0; have q1:=kr.c1; have q2:=kr.c2; have q3:=kr.c3;clear kr;have ql:=HM.out.lt (b:=gx) (c0:=x0) (c1:=x1) (c2:=x2) (c3:=x3) (by simp);have kr:=HM.out.row (b:=w.heap.size+1) (c0:=0) (c1:=0) (c2:=0) (c3:=0) (by simp);have y0:=kr.c0; have y1:=kr.c1; have y2:=kr.c2; have y3:=kr.c3; have yf:=kr.fr;clear kr;have yl:=HM.out.lt (b:=w.heap.size+1) (c0:=0) (c1:=0) (c2:=0) (c3:=0) (by simp)
   by_cases h0:aA t0 t1 t2 t3=0
   ·have E0:=BO ht h0;have E1:=iX ht (by rw[h0]; decide);have HQ:=Lib.hid (show aA x0 x1 x2 x3*aA x0 x1 x2 x3%FR.M=aA a0 a1 a2 a3%FR.M by
     rcases HI.out with h|h
     ·rw[h.2.1,h0,Nat.mul_zero,Nat.zero_mod];have h4:=h.2.2.2;rw[h0,Nat.zero_pow (Nat.two_pow_pos _),Nat.zero_mod]at h4;exact absurd h4 (by decide)
     ·rw[h.2.1,h.2.2])
    clear h0 HI;go_wp2_with fail;refine bodyPost_ret (v:=.agg #[.int .u64 x0,.int .u64 x1,.int .u64 x2,.int .u64 x3]) (by simp[results,results75,go_sem, *]) rfl ?_;refine⟨_,_,_,_,rfl,hx,HQ.out,HLT.out.1,?_⟩;exact aM HM.out.1 (by omega) _ _ _ _
   ·by_cases h1:aA t0 t1 t2 t3=1
    ·have E0:=yE ht h0;have E1:=yD ht h1;have HQ:=Lib.hid (show aA x0 x1 x2 x3*aA x0 x1 x2 x3%FR.M=aA a0 a1 a2 a3%FR.M by
      rcases HI.out with h|h
      ·rw[h.2.1,h1,Nat.mul_one]
      ·exact absurd h.1 h0)
     clear h0 h1 HI;go_wp2_with fail;refine bodyPost_ret (v:=.agg #[.int .u64 x0,.int .u64 x1,.int .u64 x2,.int .u64 x3]) (by simp[results,results75,go_sem, *]) rfl ?_;refine⟨_,_,_,_,rfl,hx,HQ.out,HLT.out.1,?_⟩;exact aM HM.out.1 (by omega) _ _ _ _
    ·have E0:=yE ht h0;have E1:=iX ht h1;have HT:Hid (qL FR.M (aA a0 a1 a2 a3) n (aA x0 x1 x2 x3) (aA t0 t1 t2 t3) (aA c0 c1 c2 c3)):=Lib.hid (by
      rcases HI.out with h|h
      ·exact h
      ·exact absurd h.1 h0)
     have HN1:=Lib.hid h1;have hn1:1≤n:=HT.out.1;clear h0 h1 HI;go_wp2_with fail;have HM':=Lib.hid (HM.out.new wr.heap.size t0 t1 t2 t3 24 rfl);have S0:=Lib.hid (show aA t0 t1 t2 t3=aA t0 t1 t2 t3^2^0%FR.M by rw[Nat.pow_zero,Nat.pow_one,Nat.mod_eq_of_lt HLT.out.2.1]);clear p0 p1 p2 p3 pl q0 q1 q2 q3 ql y0 y1 y2 y3 yf yl E0 E1;obtain⟨wo,hwo⟩:∃wo,wo=wr:=⟨_,rfl⟩
     rw[←hwo]at HM' ⊢;have ltw:gt<wo.heap.size:=by rw[hwo]; exact HM.out.lt (b:=gt) (c0:=t0) (c1:=t1) (c2:=t2) (c3:=t3) (by simp)
     clear HM hwo
     go_loopw [9,10] (fun t9 t10 wr=>∃k gs s0 s1 s2 s3:Nat,t9=.int .i64 k∧t10=.pointer (some ⟨gs,0,none⟩)∧gt<gs∧k<n∧aZ s0 s1 s2 s3∧Hid (aA s0 s1 s2 s3=aA t0 t1 t2 t3^2^k%FR.M)∧Hid (∀j,j<k→aA t0 t1 t2 t3^2^j%FR.M≠1)∧Hid (Mem w wr [(gs,s0,s1,s2,s3),(gt,t0,t1,t2,t3),(gx,x0,x1,x2,x3),(gc,c0,c1,c2,c3),(w.heap.size+1,0,0,0,0)])) (fun t9 _ _=>n-(intOf t9).toNat)
     case atStart=>exact⟨0,wo.heap.size,t0,t1,t2,t3,rfl,rfl,ltw,by omega,ht,S0,Lib.hid (fun j h=>absurd h (by omega)),HM'⟩
     case round =>
      clear HM' S0;obtain⟨k,gs,s0,s1,s2,s3,rfl,rfl,hgs,hkn,hs,HVs,HMin,HM⟩:=hrel;have kr:=HM.out.row (b:=gs) (c0:=s0) (c1:=s1) (c2:=s2) (c3:=s3) (by simp);have p0:=kr.c0; have p1:=kr.c1; have p2:=kr.c2; have p3:=kr.c3; have pf:=kr.fr;clear kr;have pl:=HM.out.lt (b:=gs) (c0:=s0) (c1:=s1) (c2:=s2) (c3:=s3) (by simp)
      by_cases h1:aA s0 s1 s2 s3=1
      ·have E1:=yD hs h1;have hk1:0<k:=by
        rcases Nat.eq_zero_or_pos k with e|e
        ·subst e;have:=HVs.out;rw[h1,Nat.pow_zero,Nat.pow_one,Nat.mod_eq_of_lt HLT.out.2.1]at this;exact absurd this.symm HN1.out
        ·exact e
       have HO:=Lib.hid (show aA t0 t1 t2 t3^2^k%FR.M=1 by rw[←HVs.out]; exact h1);clear h1 HVs;obtain⟨wi,hwi⟩:∃wi,wi=wr:=⟨_,rfl⟩
       rw[←hwi]at HM pl pf p0 p1 p2 p3 ⊢;clear hwi;have HM':=Lib.hid (HM.out.sub (rs':=[(gt,t0,t1,t2,t3),(gx,x0,x1,x2,x3),(gc,c0,c1,c2,c3),(w.heap.size+1,0,0,0,0)]) (by simp));clear HM;have HM:=HM';clear HM';have kr:=HM.out.row (b:=gc) (c0:=c0) (c1:=c1) (c2:=c2) (c3:=c3) (by simp);have q0:=kr.c0; have q1:=kr.c1; have q2:=kr.c2; have q3:=kr.c3;clear kr;have ql:=HM.out.lt (b:=gc) (c0:=c0) (c1:=c1) (c2:=c2) (c3:=c3) (by simp);have zz1:(n:Int)-(k:Int)=((n-k:Nat):Int):=by omega
       have zz2:((n-k:Nat):Int)-1=((n-k-1:Nat):Int):=by omega
       obtain⟨d,hd⟩:∃d,d=n-k-1:=⟨_,rfl⟩
       rw[←hd]at zz2;have HD:=Lib.hid hd;have hd28:d≤28:=by omega
       clear hd;go_wp2_with fail;have HM':=Lib.hid (HM.out.new wi.heap.size c0 c1 c2 c3 24 rfl);have ltb:gt<wi.heap.size:=HM.out.lt (b:=gt) (c0:=t0) (c1:=t1) (c2:=t2) (c3:=t3) (by simp);obtain⟨gb,hgb⟩:∃gb,gb=wi.heap.size:=⟨_,rfl⟩
       rw[←hgb]at HM' ltb ⊢;clear HM hgb p0 p1 p2 p3 pf pl q0 q1 q2 q3 ql E1;have C0:=Lib.hid (show aA c0 c1 c2 c3=aA c0 c1 c2 c3^2^0%FR.M by rw[Nat.pow_zero,Nat.pow_one,Nat.mod_eq_of_lt HLT.out.2.2])
       go_loopw [12] (fun t12 wr=>∃i b0 b1 b2 b3:Nat,t12=.int .i64 i∧i≤d∧aZ b0 b1 b2 b3∧Hid (aA b0 b1 b2 b3=aA c0 c1 c2 c3^2^i%FR.M)∧Hid (Mem w wr [(gb,b0,b1,b2,b3),(gt,t0,t1,t2,t3),(gx,x0,x1,x2,x3),(gc,c0,c1,c2,c3),(w.heap.size+1,0,0,0,0)])) (fun t12 _=>d-(intOf t12).toNat)
       case atStart=>exact⟨0,c0,c1,c2,c3,rfl,Nat.zero_le _,hc,C0,HM'⟩
       case round =>
        clear HM' C0;obtain⟨i,b0,b1,b2,b3,rfl,hid,hb,HVb,HM⟩:=hrel;have kr:=HM.out.row (b:=gb) (c0:=b0) (c1:=b1) (c2:=b2) (c3:=b3) (by simp);have p0:=kr.c0; have p1:=kr.c1; have p2:=kr.c2; have p3:=kr.c3; have pf:=kr.fr;clear kr;have pl:=HM.out.lt (b:=gb) (c0:=b0) (c1:=b1) (c2:=b2) (c3:=b3) (by simp)
        by_cases hlt:i<d
        ·go_wp2_with fail;refine (fD 2 FR hf b0 b1 b2 b3 b0 b1 b2 b3 hb hb _).mono ?_
         rintro e v5 ⟨u0,u1,u2,u3,rfl,hu,hv,hbl⟩
         have HVu:=Lib.hid (show aA u0 u1 u2 u3=aA c0 c1 c2 c3^2^(i+1)%FR.M by rw[hv,HVb.out,←Nat.mul_mod,←fK]);have HM':=Lib.hid (HM.out.on hbl);clear hv hbl p0 p1 p2 p3 pf pl;clear HM;have HM:=HM';clear HM';have kr:=HM.out.row (b:=gb) (c0:=b0) (c1:=b1) (c2:=b2) (c3:=b3) (by simp);have p0:=kr.c0; have p1:=kr.c1; have p2:=kr.c2; have p3:=kr.c3; have pf:=kr.fr;clear kr;have pl:=HM.out.lt (b:=gb) (c0:=b0) (c1:=b1) (c2:=b2) (c3:=b3) (by simp);have HM':=Lib.hid (HM.out.put u0 u1 u2 u3 (by omega) (by intro r hr; simp at hr; rcases hr with rfl|rfl|rfl|rfl<;>simp<;>omega));clear HM;have HM:=HM';clear HM';go_wp2_with fail
         go_roundw
         case rel=>exact⟨i+1,u0,u1,u2,u3,by go_num,by omega,hu,HVu,HM⟩
         case measure=>simp[intOf]; omega
        ·obtain rfl:d=i:=by omega
         obtain⟨wj,hwj⟩:∃wj,wj=wr:=⟨_,rfl⟩
         rw[←hwj]at HM pl pf p0 p1 p2 p3 ⊢;clear hwj;go_wp2_with fail;refine (fD 2 FR hf b0 b1 b2 b3 b0 b1 b2 b3 hb hb _).mono ?_
         rintro e v5 ⟨u0,u1,u2,u3,rfl,hu,hv,hbl⟩
         have HVu:=Lib.hid hv;have HM':=Lib.hid (HM.out.on hbl);clear hv hbl p0 p1 p2 p3 pf pl;clear HM;have HM:=HM';clear HM';have kr:=HM.out.row (b:=gc) (c0:=c0) (c1:=c1) (c2:=c2) (c3:=c3) (by simp);have q0:=kr.c0; have q1:=kr.c1; have q2:=kr.c2; have q3:=kr.c3; have qf:=kr.fr;clear kr;have ql:=HM.out.lt (b:=gc) (c0:=c0) (c1:=c1) (c2:=c2) (c3:=c3) (by simp);have HM':=Lib.hid ((HM.out.sub (rs':=[(gc,c0,c1,c2,c3),(gb,b0,b1,b2,b3),(gt,t0,t1,t2,t3),(gx,x0,x1,x2,x3),(w.heap.size+1,0,0,0,0)]) (by simp)).put u0 u1 u2 u3 (by omega) (by intro r hr; simp at hr; rcases hr with rfl|rfl|rfl|rfl<;>simp<;>omega));clear HM;have HM:=HM';clear HM';have HX:=Lib.hid HM.out;unfold set4 at HX;obtain⟨z5,hz5⟩:∃z5,z5=v5.heap.size:=⟨_,rfl⟩
         have kx:=HX.out.row (b:=gx) (c0:=x0) (c1:=x1) (c2:=x2) (c3:=x3) (by simp);have x_0:=kx.c0; have x_1:=kx.c1; have x_2:=kx.c2; have x_3:=kx.c3;have kb:=HX.out.row (b:=gb) (c0:=b0) (c1:=b1) (c2:=b2) (c3:=b3) (by simp);have b_0:=kb.c0; have b_1:=kb.c1; have b_2:=kb.c2; have b_3:=kb.c3;clear kx kb hz5 z5 HM;go_wp2_with fail;refine (fD 2 FR hf x0 x1 x2 x3 b0 b1 b2 b3 hx hb _).mono ?_
         rintro e v6 ⟨v0,v1,v2,v3,rfl,hvo,hv,hbl⟩
         have HVv:=Lib.hid hv;have HM:=Lib.hid (HX.out.on hbl);clear hv hbl q0 q1 q2 q3 qf ql x_0 x_1 x_2 x_3 b_0 b_1 b_2 b_3 HX;have kr:=HM.out.row (b:=gx) (c0:=x0) (c1:=x1) (c2:=x2) (c3:=x3) (by simp);have q0:=kr.c0; have q1:=kr.c1; have q2:=kr.c2; have q3:=kr.c3; have qf:=kr.fr;clear kr;have ql:=HM.out.lt (b:=gx) (c0:=x0) (c1:=x1) (c2:=x2) (c3:=x3) (by simp);have HX:=Lib.hid ((HM.out.sub (rs':=[(gx,x0,x1,x2,x3),(gc,u0,u1,u2,u3),(gt,t0,t1,t2,t3),(w.heap.size+1,0,0,0,0)]) (by simp)).put v0 v1 v2 v3 (by omega) (by intro r hr; simp at hr; rcases hr with rfl|rfl|rfl<;>simp<;>omega));clear HM;have HM:=Lib.hid HX.out;clear HX;have HX:=Lib.hid HM.out;clear HM;have HX':=HX.out;unfold set4 at HX';have HM:=Lib.hid HX';clear HX HX';have kx:=HM.out.row (b:=gt) (c0:=t0) (c1:=t1) (c2:=t2) (c3:=t3) (by simp);have x_0:=kx.c0; have x_1:=kx.c1; have x_2:=kx.c2; have x_3:=kx.c3;have kb:=HM.out.row (b:=gc) (c0:=u0) (c1:=u1) (c2:=u2) (c3:=u3) (by simp);have b_0:=kb.c0; have b_1:=kb.c1; have b_2:=kb.c2; have b_3:=kb.c3;clear kx kb;go_wp2_with fail;refine (fD 2 FR hf t0 t1 t2 t3 u0 u1 u2 u3 ht hu _).mono ?_
         rintro e v7 ⟨y0,y1,y2,y3,rfl,hy,hv,hbl⟩
         have HVy:=Lib.hid hv;have HM':=Lib.hid (HM.out.on hbl);clear hv hbl q0 q1 q2 q3 qf ql x_0 x_1 x_2 x_3 b_0 b_1 b_2 b_3;clear HM;have HM:=HM';clear HM';have kr:=HM.out.row (b:=gt) (c0:=t0) (c1:=t1) (c2:=t2) (c3:=t3) (by simp);have q0:=kr.c0; have q1:=kr.c1; have q2:=kr.c2; have q3:=kr.c3; have qf:=kr.fr;clear kr;have ql:=HM.out.lt (b:=gt) (c0:=t0) (c1:=t1) (c2:=t2) (c3:=t3) (by simp);have HM':=Lib.hid ((HM.out.sub (rs':=[(gt,t0,t1,t2,t3),(gx,v0,v1,v2,v3),(gc,u0,u1,u2,u3),(w.heap.size+1,0,0,0,0)]) (by simp)).put y0 y1 y2 y3 (by omega) (by intro r hr; simp at hr; rcases hr with rfl|rfl|rfl<;>simp<;>omega));clear HM;have HM:=HM';clear HM';have HTN:=Lib.hid (show qL FR.M (aA a0 a1 a2 a3) k (aA v0 v1 v2 v3) (aA y0 y1 y2 y3) (aA u0 u1 u2 u3) by
          have h:=PK HRt.out h2 HT.out hk1 hkn HO.out (HMin.out (k-1) (by omega));rw[HVy.out,HVv.out,HVu.out,HVb.out,HD.out];exact h)
         have HLN:=Lib.hid (show aA v0 v1 v2 v3<FR.M∧aA y0 y1 y2 y3<FR.M∧aA u0 u1 u2 u3<FR.M by rw[HVv.out,HVy.out,HVu.out]; exact⟨Nat.mod_lt _ (by omega),Nat.mod_lt _ (by omega),Nat.mod_lt _ (by omega)⟩);have hk28:k≤28:=by omega
         go_wp2_with fail
         go_roundw
         case rel=>exact⟨k,v0,v1,v2,v3,y0,y1,y2,y3,u0,u1,u2,u3,rfl,hk28,hvo,hy,hu,Lib.hid (Or.inl HTN.out),HLN,HM⟩
         case measure=>simp[intOf]; omega
      ·have E1:=iX hs h1;have hkn':k+1<n:=by
        rcases Nat.lt_or_ge (k+1) n with e|e
        ·exact e
        ·obtain rfl:k=n-1:=by omega
         exact absurd (HVs.out.trans HT.out.2.2.2) h1
       have HMin':=Lib.hid (show ∀j,j<k+1→aA t0 t1 t2 t3^2^j%FR.M≠1 from fun j hj=>by
        by_cases e:j=k
        ·subst e; rw[←HVs.out]; exact h1
        ·exact HMin.out j (by omega))
       clear h1;go_wp2_with fail;refine (fD 2 FR hf s0 s1 s2 s3 s0 s1 s2 s3 hs hs _).mono ?_
       rintro e v5 ⟨u0,u1,u2,u3,rfl,hu,hv,hbl⟩
       have HVu:=Lib.hid (show aA u0 u1 u2 u3=aA t0 t1 t2 t3^2^(k+1)%FR.M by rw[hv,HVs.out,←Nat.mul_mod,←fK]);have HM':=Lib.hid (HM.out.on hbl);clear hv hbl p0 p1 p2 p3 pf pl;clear HM;have HM:=HM';clear HM';have kr:=HM.out.row (b:=gs) (c0:=s0) (c1:=s1) (c2:=s2) (c3:=s3) (by simp);have p0:=kr.c0; have p1:=kr.c1; have p2:=kr.c2; have p3:=kr.c3; have pf:=kr.fr;clear kr;have pl:=HM.out.lt (b:=gs) (c0:=s0) (c1:=s1) (c2:=s2) (c3:=s3) (by simp);have HM':=Lib.hid (((HM.out.put u0 u1 u2 u3 (by omega) (by intro r hr; simp at hr; rcases hr with rfl|rfl|rfl|rfl<;>simp<;>omega)).sub (rs':=[(gt,t0,t1,t2,t3),(gx,x0,x1,x2,x3),(gc,c0,c1,c2,c3),(w.heap.size+1,0,0,0,0)]) (by simp)).new v5.heap.size u0 u1 u2 u3 24 (by unfold set4; simp));have gs5:gt<v5.heap.size:=by omega
       clear HM;have HM:=HM';clear HM';go_wp2_with fail
       go_roundw
       case rel=>exact⟨k+1,v5.heap.size,u0,u1,u2,u3,by go_num,rfl,gs5,hkn',hu,HVu,HMin',HM⟩
       case measure=>simp[intOf]; omega
section
variable {P:Program} {ops:Array Oper} {Q:Exit→Act→World→Prop} {md:Region.Mode} {S:World→Prop} {L:Nat}
end
set_option maxHeartbeats 4000000 in
theorem QL (f:Int) (F:FC) (hf:FieldIs f F) (a0 a1 a2 a3:Nat) (ha:aZ a0 a1 a2 a3) (hl:oY F.M (aA a0 a1 a2 a3) = -1) (w:World) :
  Calls prog 41 #[.int .i64 f,.agg #[.int .u64 a0,.int .u64 a1,.int .u64 a2,.int .u64 a3]] w (fun e w'=>∃s0 s1 s2 s3:Nat,e=.returned (.tuple #[.agg #[.int .u64 s0,.int .u64 s1,.int .u64 s2,.int .u64 s3],.int .i64 23])∧aZ s0 s1 s2 s3∧aA s0 s1 s2 s3=0∧Below w.heap.size w w'):=by
 go_enter func41,ntmps41
 go_wp2_with fail;have HM:=Lib.hid (((Mem.nil w).new (w.heap.size) a0 a1 a2 a3 24 (by simp)).new (w.heap.size+1) 0 0 0 0 24 (by simp));refine (sQ f F hf a0 a1 a2 a3 ha _).mono ?_
 rintro e w1 ⟨rfl,hbl⟩
 have HM':=Lib.hid (HM.out.on hbl);clear hbl;clear HM;have HM:=HM';clear HM';rw[hl];have kr:=HM.out.row (b:=w.heap.size+1) (c0:=0) (c1:=0) (c2:=0) (c3:=0) (by simp);have y0:=kr.c0; have y1:=kr.c1; have y2:=kr.c2; have y3:=kr.c3; have yf:=kr.fr;clear kr;have yl:=HM.out.lt (b:=w.heap.size+1) (c0:=0) (c1:=0) (c2:=0) (c3:=0) (by simp);clear hl;go_wp2_with fail;refine bodyPost_ret (v:=.tuple #[.agg #[.int .u64 (0:Nat),.int .u64 (0:Nat),.int .u64 (0:Nat),.int .u64 (0:Nat)],.int .i64 23]) (by simp[results,results41,go_sem, *]) rfl ?_;refine⟨_,_,_,_,rfl,wN,rfl,?_⟩;exact aM HM.out.1 (by omega) 0 0 0 0
set_option maxHeartbeats 4000000 in
theorem DJ (a0 a1 a2 a3:Nat) (ha:aZ a0 a1 a2 a3) (la:aA a0 a1 a2 a3<FR.M) (hs:aA a0 a1 a2 a3^(FR.M/2)%FR.M=1∨aA a0 a1 a2 a3=0) (w:World) :
  Calls prog 41 #[.int .i64 2,.agg #[.int .u64 a0,.int .u64 a1,.int .u64 a2,.int .u64 a3]] w (fun e w'=>∃s0 s1 s2 s3:Nat,e=.returned (.tuple #[.agg #[.int .u64 s0,.int .u64 s1,.int .u64 s2,.int .u64 s3],.int .i64 0])∧aZ s0 s1 s2 s3∧aA s0 s1 s2 s3*aA s0 s1 s2 s3%FR.M=aA a0 a1 a2 a3∧aA s0 s1 s2 s3<FR.M∧cR FR.M (aA s0 s1 s2 s3)=true∧Below w.heap.size w w'):=by
 have hf:FieldIs 2 FR:=Or.inr ⟨rfl,rfl⟩;have hok:=hf.ok;have hpos:=hok.pos;have HSq:=Lib.hid hs;have hlv:oY FR.M (aA a0 a1 a2 a3)=0∨oY FR.M (aA a0 a1 a2 a3)=1:=by
  unfold oY
  rcases hs with h|h
  ·right; rw[if_neg (by rw[h]; decide),if_pos h]
  ·left; rw[if_pos (by rw[h,Nat.zero_pow (by decide)]; rfl)]
 clear hs
 go_enter func41,ntmps41
 go_wp2_with fail;have HM:=Lib.hid (((Mem.nil w).new (w.heap.size) a0 a1 a2 a3 24 (by simp)).new (w.heap.size+1) 0 0 0 0 24 (by simp));refine (sQ 2 FR hf a0 a1 a2 a3 ha _).mono ?_
 rintro e w1 ⟨rfl,hbl⟩
 have HM':=Lib.hid (HM.out.on hbl);clear hbl;clear HM;have HM:=HM';clear HM';generalize hlg:oY _ _=lv at *;have hll:decide (lv<0)=false:=by rcases hlv with h|h<;>subst h<;>rfl
 clear hlv hlg;have kr:=HM.out.row (b:=w.heap.size) (c0:=a0) (c1:=a1) (c2:=a2) (c3:=a3) (by simp);have x0:=kr.c0; have x1:=kr.c1; have x2:=kr.c2; have x3:=kr.c3;clear kr;have xl:=HM.out.lt (b:=w.heap.size) (c0:=a0) (c1:=a1) (c2:=a2) (c3:=a3) (by simp);have gxl:w.heap.size+1<w1.heap.size:=HM.out.lt (b:=w.heap.size+1) (c0:=0) (c1:=0) (c2:=0) (c3:=0) (by simp);go_wp2_with fail;refine (uK a0 a1 a2 a3 ha HSq.out _).mono ?_
 rintro e w2 ⟨s0,s1,s2,s3,rfl,hs,hv,hlt,hbl⟩
 have HVs:=Lib.hid (show aA s0 s1 s2 s3*aA s0 s1 s2 s3%FR.M=aA a0 a1 a2 a3∧aA s0 s1 s2 s3<FR.M from⟨hv.trans (Nat.mod_eq_of_lt la),hlt⟩);clear hlt;have HM':=Lib.hid ((HM.out.new w1.heap.size 0 0 0 0 24 rfl).on hbl);clear hv hbl x0 x1 x2 x3 xl;clear HM;have HM:=HM';clear HM';have kr:=HM.out.row (b:=w1.heap.size) (c0:=0) (c1:=0) (c2:=0) (c3:=0) (by simp);have x0:=kr.c0; have x1:=kr.c1; have x2:=kr.c2; have x3:=kr.c3; have xf:=kr.fr;clear kr;have xl:=HM.out.lt (b:=w1.heap.size) (c0:=0) (c1:=0) (c2:=0) (c3:=0) (by simp);have HM':=Lib.hid (HM.out.put s0 s1 s2 s3 (by omega) (by intro r hr; simp at hr; rcases hr with rfl|rfl<;>simp<;>omega));clear HM;have HX:=HM'.out;unfold set4 at HX;clear HM';have HM:=Lib.hid HX;clear HX;have HLs:=HVs.out.2;go_wp2_with fail;refine (xE 2 FR hf s0 s1 s2 s3 hs HVs.out.2 _).mono ?_
 rintro e w3 ⟨rfl,hbl⟩
 have HM':=Lib.hid (HM.out.on hbl);clear hbl x0 x1 x2 x3 xf xl;clear HM;have HM:=HM';clear HM';have kr:=HM.out.row (b:=w1.heap.size) (c0:=s0) (c1:=s1) (c2:=s2) (c3:=s3) (by simp);have x0:=kr.c0; have x1:=kr.c1; have x2:=kr.c2; have x3:=kr.c3; have xf:=kr.fr;clear kr;have xl:=HM.out.lt (b:=w1.heap.size) (c0:=s0) (c1:=s1) (c2:=s2) (c3:=s3) (by simp);have kr:=HM.out.row (b:=w.heap.size+1) (c0:=0) (c1:=0) (c2:=0) (c3:=0) (by simp);have y0:=kr.c0; have y1:=kr.c1; have y2:=kr.c2; have y3:=kr.c3; have yf:=kr.fr;clear kr;have yl:=HM.out.lt (b:=w.heap.size+1) (c0:=0) (c1:=0) (c2:=0) (c3:=0) (by simp);cases hlo:cR FR.M (aA s0 s1 s2 s3)with
 | true =>
  have HLo:=Lib.hid hlo;clear hlo;go_wp2_with fail;refine bodyPost_ret (v:=.tuple #[.agg #[.int .u64 s0,.int .u64 s1,.int .u64 s2,.int .u64 s3],.int .i64 0]) (by simp[results,results41,go_sem, *]) rfl ?_;refine⟨_,_,_,_,rfl,hs,HVs.out.1,HVs.out.2,HLo.out,?_⟩;exact aM HM.out.1 (by omega) _ _ _ _
 | false =>
  have HLo:=Lib.hid (JE hok HVs.out.2 hlo);clear hlo;go_wp2_with fail;refine (nH 2 FR hf s0 s1 s2 s3 hs _).mono ?_
  rintro e w4 ⟨n0,n1,n2,n3,rfl,hn,hv,hbl⟩
  have HVn:=Lib.hid (show aA n0 n1 n2 n3=(0+FR.M-aA s0 s1 s2 s3)%FR.M by rw[hv,Nat.mod_eq_of_lt HVs.out.2,Nat.zero_add]);have HM':=Lib.hid (HM.out.on hbl);clear hv hbl x0 x1 x2 x3 xf xl y0 y1 y2 y3 yf yl;clear HM;have HM:=HM';clear HM';have kr:=HM.out.row (b:=w1.heap.size) (c0:=s0) (c1:=s1) (c2:=s2) (c3:=s3) (by simp);have x0:=kr.c0; have x1:=kr.c1; have x2:=kr.c2; have x3:=kr.c3; have xf:=kr.fr;clear kr;have xl:=HM.out.lt (b:=w1.heap.size) (c0:=s0) (c1:=s1) (c2:=s2) (c3:=s3) (by simp);have kr:=HM.out.row (b:=w.heap.size+1) (c0:=0) (c1:=0) (c2:=0) (c3:=0) (by simp);have y0:=kr.c0; have y1:=kr.c1; have y2:=kr.c2; have y3:=kr.c3; have yf:=kr.fr;clear kr;have yl:=HM.out.lt (b:=w.heap.size+1) (c0:=0) (c1:=0) (c2:=0) (c3:=0) (by simp);have ne1:¬w.heap.size+1=w1.heap.size:=by omega
  have ne1':¬w1.heap.size=w.heap.size+1:=by omega
  go_wp2_with fail;refine bodyPost_ret (v:=.tuple #[.agg #[.int .u64 n0,.int .u64 n1,.int .u64 n2,.int .u64 n3],.int .i64 0]) (by simp[results,results41,go_sem, *]) rfl ?_;refine⟨_,_,_,_,rfl,hn,by rw[HVn.out,HLo.out.1]; exact HVs.out.1,by rw[HVn.out]; exact HLo.out.2.1,by rw[HVn.out]; exact HLo.out.2.2,?_⟩;exact aM (aM HM.out.1 (by omega) _ _ _ _) (by omega) _ _ _ _
end Go.Proofs.YtpjlhhpjpnacmaaGreat
namespace Go.Proofs.YtpjlhhpjpnacmaaGreat.R1
open Go.Proofs.Tryz
open Go.RowKit
theorem rcmp_l3 (a0 a1 a2 a3 b0 b1 b2 b3:Nat) (ha:aZ a0 a1 a2 a3) (hb:aZ b0 b1 b2 b3) (e3:a3<b3) (w:World) :
  Calls prog 22 #[.agg #[.int .u64 a0,.int .u64 a1,.int .u64 a2,.int .u64 a3],.agg #[.int .u64 b0,.int .u64 b1,.int .u64 b2,.int .u64 b3]] w fun e w'=>e=.returned (.int .i64 (bF (aA a0 a1 a2 a3) (aA b0 b1 b2 b3)))∧Below w.heap.size w w':=by
 have hfin:bF (aA a0 a1 a2 a3) (aA b0 b1 b2 b3) = -1:=by
  obtain⟨p0,p1,p2,p3⟩:=ha; obtain⟨q0,q1,q2,q3⟩:=hb; unfold bF aA;rw[if_neg (by omega),if_pos (by omega)]
 rw[hfin];clear hfin;have l3:decide (a3<b3)=true:=decide_eq_true (by omega);clear e3
 go_enter func22,ntmps22
 go_wp2_with fail;refine wp_loop_rounds 5 ?_;rw[rounds_succ];go_wp2_with fail
 go_quiet (fail)
 go_wp2_with fail;go_ret;exact⟨rfl,by repeat (first|exact Below.refl _ _|refine Below.trans ?_ (aN _ _ _)|refine Below.drew ?_|refine Below.alloc ?_ (by first|(simp; done)|(simp; omega)) _)⟩
theorem rcmp_g3 (a0 a1 a2 a3 b0 b1 b2 b3:Nat) (ha:aZ a0 a1 a2 a3) (hb:aZ b0 b1 b2 b3) (e3:b3<a3) (w:World) :
  Calls prog 22 #[.agg #[.int .u64 a0,.int .u64 a1,.int .u64 a2,.int .u64 a3],.agg #[.int .u64 b0,.int .u64 b1,.int .u64 b2,.int .u64 b3]] w fun e w'=>e=.returned (.int .i64 (bF (aA a0 a1 a2 a3) (aA b0 b1 b2 b3)))∧Below w.heap.size w w':=by
 have hfin:bF (aA a0 a1 a2 a3) (aA b0 b1 b2 b3)=1:=by
  obtain⟨p0,p1,p2,p3⟩:=ha; obtain⟨q0,q1,q2,q3⟩:=hb; unfold bF aA;rw[if_neg (by omega),if_neg (by omega)]
 rw[hfin];clear hfin;have l3:decide (a3<b3)=false:=decide_eq_false (by omega);have g3:decide (b3<a3)=true:=decide_eq_true (by omega);clear e3
 go_enter func22,ntmps22
 go_wp2_with fail;refine wp_loop_rounds 5 ?_;rw[rounds_succ];go_wp2_with fail
 go_quiet (fail)
 go_wp2_with fail
 go_quiet (fail)
 go_wp2_with fail;go_ret;exact⟨rfl,by repeat (first|exact Below.refl _ _|refine Below.trans ?_ (aN _ _ _)|refine Below.drew ?_|refine Below.alloc ?_ (by first|(simp; done)|(simp; omega)) _)⟩
theorem rcmp_l2 (a0 a1 a2 a3 b0 b1 b2 b3:Nat) (ha:aZ a0 a1 a2 a3) (hb:aZ b0 b1 b2 b3) (e3:a3=b3) (e2:a2<b2) (w:World) :
  Calls prog 22 #[.agg #[.int .u64 a0,.int .u64 a1,.int .u64 a2,.int .u64 a3],.agg #[.int .u64 b0,.int .u64 b1,.int .u64 b2,.int .u64 b3]] w fun e w'=>e=.returned (.int .i64 (bF (aA a0 a1 a2 a3) (aA b0 b1 b2 b3)))∧Below w.heap.size w w':=by
 have hfin:bF (aA a0 a1 a2 a3) (aA b0 b1 b2 b3) = -1:=by
  obtain⟨p0,p1,p2,p3⟩:=ha; obtain⟨q0,q1,q2,q3⟩:=hb; unfold bF aA;rw[if_neg (by omega),if_pos (by omega)]
 rw[hfin];clear hfin;have l3:decide (a3<b3)=false:=decide_eq_false (by omega);have g3:decide (b3<a3)=false:=decide_eq_false (by omega);clear e3;have l2:decide (a2<b2)=true:=decide_eq_true (by omega);clear e2
 go_enter func22,ntmps22
 go_wp2_with fail;refine wp_loop_rounds 5 ?_;rw[rounds_succ];go_wp2_with fail
 go_quiet (fail)
 go_wp2_with fail
 go_quiet (fail)
 go_wp2_with fail;rw[rounds_succ];go_wp2_with fail
 go_quiet (fail)
 go_wp2_with fail;go_ret;exact⟨rfl,by repeat (first|exact Below.refl _ _|refine Below.trans ?_ (aN _ _ _)|refine Below.drew ?_|refine Below.alloc ?_ (by first|(simp; done)|(simp; omega)) _)⟩
theorem rcmp_g2 (a0 a1 a2 a3 b0 b1 b2 b3:Nat) (ha:aZ a0 a1 a2 a3) (hb:aZ b0 b1 b2 b3) (e3:a3=b3) (e2:b2<a2) (w:World) :
  Calls prog 22 #[.agg #[.int .u64 a0,.int .u64 a1,.int .u64 a2,.int .u64 a3],.agg #[.int .u64 b0,.int .u64 b1,.int .u64 b2,.int .u64 b3]] w fun e w'=>e=.returned (.int .i64 (bF (aA a0 a1 a2 a3) (aA b0 b1 b2 b3)))∧Below w.heap.size w w':=by
 have hfin:bF (aA a0 a1 a2 a3) (aA b0 b1 b2 b3)=1:=by
  obtain⟨p0,p1,p2,p3⟩:=ha; obtain⟨q0,q1,q2,q3⟩:=hb; unfold bF aA;rw[if_neg (by omega),if_neg (by omega)]
 rw[hfin];clear hfin;have l3:decide (a3<b3)=false:=decide_eq_false (by omega);have g3:decide (b3<a3)=false:=decide_eq_false (by omega);clear e3;have l2:decide (a2<b2)=false:=decide_eq_false (by omega);have g2:decide (b2<a2)=true:=decide_eq_true (by omega);clear e2
 go_enter func22,ntmps22
 go_wp2_with fail;refine wp_loop_rounds 5 ?_;rw[rounds_succ];go_wp2_with fail
 go_quiet (fail)
 go_wp2_with fail
 go_quiet (fail)
 go_wp2_with fail;rw[rounds_succ];go_wp2_with fail
 go_quiet (fail)
 go_wp2_with fail
 go_quiet (fail)
 go_wp2_with fail;go_ret;exact⟨rfl,by repeat (first|exact Below.refl _ _|refine Below.trans ?_ (aN _ _ _)|refine Below.drew ?_|refine Below.alloc ?_ (by first|(simp; done)|(simp; omega)) _)⟩
theorem rcmp_l1 (a0 a1 a2 a3 b0 b1 b2 b3:Nat) (ha:aZ a0 a1 a2 a3) (hb:aZ b0 b1 b2 b3) (e3:a3=b3) (e2:a2=b2) (e1:a1<b1) (w:World) :
  Calls prog 22 #[.agg #[.int .u64 a0,.int .u64 a1,.int .u64 a2,.int .u64 a3],.agg #[.int .u64 b0,.int .u64 b1,.int .u64 b2,.int .u64 b3]] w fun e w'=>e=.returned (.int .i64 (bF (aA a0 a1 a2 a3) (aA b0 b1 b2 b3)))∧Below w.heap.size w w':=by
 have hfin:bF (aA a0 a1 a2 a3) (aA b0 b1 b2 b3) = -1:=by
  obtain⟨p0,p1,p2,p3⟩:=ha; obtain⟨q0,q1,q2,q3⟩:=hb; unfold bF aA;rw[if_neg (by omega),if_pos (by omega)]
 rw[hfin];clear hfin;have l3:decide (a3<b3)=false:=decide_eq_false (by omega);have g3:decide (b3<a3)=false:=decide_eq_false (by omega);clear e3;have l2:decide (a2<b2)=false:=decide_eq_false (by omega);have g2:decide (b2<a2)=false:=decide_eq_false (by omega);clear e2;have l1:decide (a1<b1)=true:=decide_eq_true (by omega);clear e1
 go_enter func22,ntmps22
 go_wp2_with fail;refine wp_loop_rounds 5 ?_;rw[rounds_succ];go_wp2_with fail
 go_quiet (fail)
 go_wp2_with fail
 go_quiet (fail)
 go_wp2_with fail;rw[rounds_succ];go_wp2_with fail
 go_quiet (fail)
 go_wp2_with fail
 go_quiet (fail)
 go_wp2_with fail;rw[rounds_succ];go_wp2_with fail
 go_quiet (fail)
 go_wp2_with fail;go_ret;exact⟨rfl,by repeat (first|exact Below.refl _ _|refine Below.trans ?_ (aN _ _ _)|refine Below.drew ?_|refine Below.alloc ?_ (by first|(simp; done)|(simp; omega)) _)⟩
theorem rcmp_g1 (a0 a1 a2 a3 b0 b1 b2 b3:Nat) (ha:aZ a0 a1 a2 a3) (hb:aZ b0 b1 b2 b3) (e3:a3=b3) (e2:a2=b2) (e1:b1<a1) (w:World) :
  Calls prog 22 #[.agg #[.int .u64 a0,.int .u64 a1,.int .u64 a2,.int .u64 a3],.agg #[.int .u64 b0,.int .u64 b1,.int .u64 b2,.int .u64 b3]] w fun e w'=>e=.returned (.int .i64 (bF (aA a0 a1 a2 a3) (aA b0 b1 b2 b3)))∧Below w.heap.size w w':=by
 have hfin:bF (aA a0 a1 a2 a3) (aA b0 b1 b2 b3)=1:=by
  obtain⟨p0,p1,p2,p3⟩:=ha; obtain⟨q0,q1,q2,q3⟩:=hb; unfold bF aA;rw[if_neg (by omega),if_neg (by omega)]
 rw[hfin];clear hfin;have l3:decide (a3<b3)=false:=decide_eq_false (by omega);have g3:decide (b3<a3)=false:=decide_eq_false (by omega);clear e3;have l2:decide (a2<b2)=false:=decide_eq_false (by omega);have g2:decide (b2<a2)=false:=decide_eq_false (by omega);clear e2;have l1:decide (a1<b1)=false:=decide_eq_false (by omega);have g1:decide (b1<a1)=true:=decide_eq_true (by omega);clear e1
 go_enter func22,ntmps22
 go_wp2_with fail;refine wp_loop_rounds 5 ?_;rw[rounds_succ];go_wp2_with fail
 go_quiet (fail)
 go_wp2_with fail
 go_quiet (fail)
 go_wp2_with fail;rw[rounds_succ];go_wp2_with fail
 go_quiet (fail)
 go_wp2_with fail
 go_quiet (fail)
 go_wp2_with fail;rw[rounds_succ];go_wp2_with fail
 go_quiet (fail)
 go_wp2_with fail
 go_quiet (fail)
 go_wp2_with fail;go_ret;exact⟨rfl,by repeat (first|exact Below.refl _ _|refine Below.trans ?_ (aN _ _ _)|refine Below.drew ?_|refine Below.alloc ?_ (by first|(simp; done)|(simp; omega)) _)⟩
theorem rcmp_l0 (a0 a1 a2 a3 b0 b1 b2 b3:Nat) (ha:aZ a0 a1 a2 a3) (hb:aZ b0 b1 b2 b3) (e3:a3=b3) (e2:a2=b2) (e1:a1=b1) (e0:a0<b0) (w:World) :
  Calls prog 22 #[.agg #[.int .u64 a0,.int .u64 a1,.int .u64 a2,.int .u64 a3],.agg #[.int .u64 b0,.int .u64 b1,.int .u64 b2,.int .u64 b3]] w fun e w'=>e=.returned (.int .i64 (bF (aA a0 a1 a2 a3) (aA b0 b1 b2 b3)))∧Below w.heap.size w w':=by
 have hfin:bF (aA a0 a1 a2 a3) (aA b0 b1 b2 b3) = -1:=by
  obtain⟨p0,p1,p2,p3⟩:=ha; obtain⟨q0,q1,q2,q3⟩:=hb; unfold bF aA;rw[if_neg (by omega),if_pos (by omega)]
 rw[hfin];clear hfin;have l3:decide (a3<b3)=false:=decide_eq_false (by omega);have g3:decide (b3<a3)=false:=decide_eq_false (by omega);clear e3;have l2:decide (a2<b2)=false:=decide_eq_false (by omega);have g2:decide (b2<a2)=false:=decide_eq_false (by omega);clear e2;have l1:decide (a1<b1)=false:=decide_eq_false (by omega);have g1:decide (b1<a1)=false:=decide_eq_false (by omega);clear e1;have l0:decide (a0<b0)=true:=decide_eq_true (by omega);clear e0
 go_enter func22,ntmps22
 go_wp2_with fail;refine wp_loop_rounds 5 ?_;rw[rounds_succ];go_wp2_with fail
 go_quiet (fail)
 go_wp2_with fail
 go_quiet (fail)
 go_wp2_with fail;rw[rounds_succ];go_wp2_with fail
 go_quiet (fail)
 go_wp2_with fail
 go_quiet (fail)
 go_wp2_with fail;rw[rounds_succ];go_wp2_with fail
 go_quiet (fail)
 go_wp2_with fail
 go_quiet (fail)
 go_wp2_with fail;rw[rounds_succ];go_wp2_with fail
 go_quiet (fail)
 go_wp2_with fail;go_ret;exact⟨rfl,by repeat (first|exact Below.refl _ _|refine Below.trans ?_ (aN _ _ _)|refine Below.drew ?_|refine Below.alloc ?_ (by first|(simp; done)|(simp; omega)) _)⟩
theorem rcmp_g0 (a0 a1 a2 a3 b0 b1 b2 b3:Nat) (ha:aZ a0 a1 a2 a3) (hb:aZ b0 b1 b2 b3) (e3:a3=b3) (e2:a2=b2) (e1:a1=b1) (e0:b0<a0) (w:World) :
  Calls prog 22 #[.agg #[.int .u64 a0,.int .u64 a1,.int .u64 a2,.int .u64 a3],.agg #[.int .u64 b0,.int .u64 b1,.int .u64 b2,.int .u64 b3]] w fun e w'=>e=.returned (.int .i64 (bF (aA a0 a1 a2 a3) (aA b0 b1 b2 b3)))∧Below w.heap.size w w':=by
 have hfin:bF (aA a0 a1 a2 a3) (aA b0 b1 b2 b3)=1:=by
  obtain⟨p0,p1,p2,p3⟩:=ha; obtain⟨q0,q1,q2,q3⟩:=hb; unfold bF aA;rw[if_neg (by omega),if_neg (by omega)]
 rw[hfin];clear hfin;have l3:decide (a3<b3)=false:=decide_eq_false (by omega);have g3:decide (b3<a3)=false:=decide_eq_false (by omega);clear e3;have l2:decide (a2<b2)=false:=decide_eq_false (by omega);have g2:decide (b2<a2)=false:=decide_eq_false (by omega);clear e2;have l1:decide (a1<b1)=false:=decide_eq_false (by omega);have g1:decide (b1<a1)=false:=decide_eq_false (by omega);clear e1;have l0:decide (a0<b0)=false:=decide_eq_false (by omega);have g0:decide (b0<a0)=true:=decide_eq_true (by omega);clear e0
 go_enter func22,ntmps22
 go_wp2_with fail;refine wp_loop_rounds 5 ?_;rw[rounds_succ];go_wp2_with fail
 go_quiet (fail)
 go_wp2_with fail
 go_quiet (fail)
 go_wp2_with fail;rw[rounds_succ];go_wp2_with fail
 go_quiet (fail)
 go_wp2_with fail
 go_quiet (fail)
 go_wp2_with fail;rw[rounds_succ];go_wp2_with fail
 go_quiet (fail)
 go_wp2_with fail
 go_quiet (fail)
 go_wp2_with fail;rw[rounds_succ];go_wp2_with fail
 go_quiet (fail)
 go_wp2_with fail
 go_quiet (fail)
 go_wp2_with fail;go_ret;exact⟨rfl,by repeat (first|exact Below.refl _ _|refine Below.trans ?_ (aN _ _ _)|refine Below.drew ?_|refine Below.alloc ?_ (by first|(simp; done)|(simp; omega)) _)⟩
theorem rcmp_e (a0 a1 a2 a3 b0 b1 b2 b3:Nat) (ha:aZ a0 a1 a2 a3) (hb:aZ b0 b1 b2 b3) (e3:a3=b3) (e2:a2=b2) (e1:a1=b1) (e0:a0=b0) (w:World) :
  Calls prog 22 #[.agg #[.int .u64 a0,.int .u64 a1,.int .u64 a2,.int .u64 a3],.agg #[.int .u64 b0,.int .u64 b1,.int .u64 b2,.int .u64 b3]] w fun e w'=>e=.returned (.int .i64 (bF (aA a0 a1 a2 a3) (aA b0 b1 b2 b3)))∧Below w.heap.size w w':=by
 have hfin:bF (aA a0 a1 a2 a3) (aA b0 b1 b2 b3)=0:=by
  obtain⟨p0,p1,p2,p3⟩:=ha; obtain⟨q0,q1,q2,q3⟩:=hb; unfold bF aA;rw[if_pos (by omega)]
 rw[hfin];clear hfin;have l3:decide (a3<b3)=false:=decide_eq_false (by omega);have g3:decide (b3<a3)=false:=decide_eq_false (by omega);clear e3;have l2:decide (a2<b2)=false:=decide_eq_false (by omega);have g2:decide (b2<a2)=false:=decide_eq_false (by omega);clear e2;have l1:decide (a1<b1)=false:=decide_eq_false (by omega);have g1:decide (b1<a1)=false:=decide_eq_false (by omega);clear e1;have l0:decide (a0<b0)=false:=decide_eq_false (by omega);have g0:decide (b0<a0)=false:=decide_eq_false (by omega);clear e0
 go_enter func22,ntmps22
 go_wp2_with fail;refine wp_loop_rounds 5 ?_;rw[rounds_succ];go_wp2_with fail
 go_quiet (fail)
 go_wp2_with fail
 go_quiet (fail)
 go_wp2_with fail;rw[rounds_succ];go_wp2_with fail
 go_quiet (fail)
 go_wp2_with fail
 go_quiet (fail)
 go_wp2_with fail;rw[rounds_succ];go_wp2_with fail
 go_quiet (fail)
 go_wp2_with fail
 go_quiet (fail)
 go_wp2_with fail;rw[rounds_succ];go_wp2_with fail
 go_quiet (fail)
 go_wp2_with fail
 go_quiet (fail)
 go_wp2_with fail;rw[rounds_succ];go_wp2_with fail;go_ret;exact⟨rfl,by repeat (first|exact Below.refl _ _|refine Below.trans ?_ (aN _ _ _)|refine Below.drew ?_|refine Below.alloc ?_ (by first|(simp; done)|(simp; omega)) _)⟩
theorem refCmp_calls (a0 a1 a2 a3 b0 b1 b2 b3:Nat) (ha:aZ a0 a1 a2 a3) (hb:aZ b0 b1 b2 b3) (w:World) :
  Calls prog 22 #[.agg #[.int .u64 a0,.int .u64 a1,.int .u64 a2,.int .u64 a3],.agg #[.int .u64 b0,.int .u64 b1,.int .u64 b2,.int .u64 b3]] w fun e w'=>e=.returned (.int .i64 (bF (aA a0 a1 a2 a3) (aA b0 b1 b2 b3)))∧Below w.heap.size w w':=by
 rcases Nat.lt_trichotomy a3 b3 with e3|e3|e3
 ·exact rcmp_l3 a0 a1 a2 a3 b0 b1 b2 b3 ha hb e3 w
 ·rcases Nat.lt_trichotomy a2 b2 with e2|e2|e2
  ·exact rcmp_l2 a0 a1 a2 a3 b0 b1 b2 b3 ha hb e3 e2 w
  ·rcases Nat.lt_trichotomy a1 b1 with e1|e1|e1
   ·exact rcmp_l1 a0 a1 a2 a3 b0 b1 b2 b3 ha hb e3 e2 e1 w
   ·rcases Nat.lt_trichotomy a0 b0 with e0|e0|e0
    ·exact rcmp_l0 a0 a1 a2 a3 b0 b1 b2 b3 ha hb e3 e2 e1 e0 w
    ·exact rcmp_e a0 a1 a2 a3 b0 b1 b2 b3 ha hb e3 e2 e1 e0 w
    ·exact rcmp_g0 a0 a1 a2 a3 b0 b1 b2 b3 ha hb e3 e2 e1 e0 w
   ·exact rcmp_g1 a0 a1 a2 a3 b0 b1 b2 b3 ha hb e3 e2 e1 w
  ·exact rcmp_g2 a0 a1 a2 a3 b0 b1 b2 b3 ha hb e3 e2 w
 ·exact rcmp_g3 a0 a1 a2 a3 b0 b1 b2 b3 ha hb e3 w
end Go.Proofs.YtpjlhhpjpnacmaaGreat.R1
