/- Eo15 -/
import Derived.Laws.BytesArg
import Derived.ProofKit
import Derived.LaidMore
import Derived.OpenShut
import Derived.Stop.Joined
import Derived.Carry
import Derived.RowKit
import Derived.ChangeSame
import Derived.JoinedOf
import Derived.JoinedAt
import Derived.Laws.IdiomArrays
import Derived.Deep.Strs
import Derived.SizedLaws
import Derived.Lib.LaidTab
import Derived.MakeChecks
import Derived.Deep.Slices
import Derived.Test.YtpjlhhpjpnacmaaGreatDoorEo14
import Derived.Test.YtpjlhhpjpnacmaaGreatDoorRows
import Derived.Test.YtpjlhhpjpnacmaaGreatDoorEo03
import Derived.Test.YtpjlhhpjpnacmaaGreatDoorEo02
import Derived.Test.YtpjlhhpjpnacmaaGreatDoorEo08
import Derived.Test.YtpjlhhpjpnacmaaGreatDoorProg
set_option maxRecDepth 100000
set_option linter.unusedVariables false
set_option linter.unusedSimpArgs false
set_option linter.unnecessarySimpa false
noncomputable section
namespace Go.Proofs.YtpjlhhpjpnacmaaGreatDoor.Ex
open Go.Proofs.Tryz
open Go.RowKit
def lD (l:List Nat):List At:=l.map fun x=>.c (.int .u8 (Int.ofNat x))
theorem WH (a b:List Nat):lD (a++b)=lD a++lD b:=List.map_append
theorem DF (l:List Nat):(aA (lD l)).length=l.length*1:=by
 induction l with
 | nil=>rfl
 | cons x r ih =>
  show ([Value.int .u8 (Int.ofNat x)]++aA (lD r)).length=_;simp only[List.length_append,ih,List.length_cons,List.length_nil];omega
theorem WG (l:List Nat):∀v∈aA (lD l),v.oneCell'=true:=by
 induction l with
 | nil=>intro v hv; cases hv
 | cons x r ih =>
  intro v hv;have hv:v∈[Value.int .u8 (Int.ofNat x)]++aA (lD r):=hv
  rcases List.mem_append.1 hv with h|h
  ·rw[List.mem_singleton.1 h]; rfl
  ·exact ih v h
def LQBz (w:World) (v:Value) (l:List Nat):Prop:=0<l.length∧∃b o m,v=aK b o l.length m∧b<w.heap.size∧w.rangeAt b o (aA (lD l))
theorem LQBz.below {w w':World} {v:Value} {l:List Nat} (h:LQBz w v l) (hb:Below w.heap.size w w'):LQBz w' v l:=by
 obtain⟨h0,b,o,m,rfl,h1,h2⟩:=h;exact⟨h0,b,o,m,rfl,Nat.lt_of_lt_of_le h1 hb.size,bG hb h1 h2⟩
def HQBz (w:World) (v:Value) (K:Nat) (vs:Nat→Value) (ls:Nat→List Nat):Prop:=∃b o m,v=aK b o K m∧(∀j,j<K→oldOf w b (o+j*1) [.c (vs j)])∧∀j,j<K→LQBz w (vs j) (ls j)
theorem HQBz.below {w w':World} {v:Value} {K:Nat} {vs:Nat→Value} {ls:Nat→List Nat} (h:HQBz w v K vs ls) (hb:Below w.heap.size w w'):HQBz w' v K vs ls:=by
 obtain⟨b,o,m,rfl,h1,h2⟩:=h;exact⟨b,o,m,rfl,fun j hj=>(h1 j hj).on hb,fun j hj=>(h2 j hj).below hb⟩
def cD (ls:Nat→List Nat):Nat→List Nat
 | 0=>[]
 | k+1=>cD ls k++ls k
theorem lR (ls:Nat→List Nat):∀{k n:Nat},k≤n→(cD ls k).length≤(cD ls n).length
 | k,0,h=>by rw[show k=0 by omega]; exact Nat.le_refl _
 | k,n+1,h=>by
  by_cases e:k=n+1
  ·rw[e]; exact Nat.le_refl _
  ·refine Nat.le_trans (lR ls (show k≤n by omega)) ?_;show (cD ls n).length≤(cD ls n++ls n).length;rw[List.length_append]; omega
noncomputable abbrev aDG:Func:=f36
def fW:Code:=(f36.body).getD .skip
def By:Code:=cA (cB (cB fW))
def LR:Code:=iR (iR (cB By))
def yO:Code:=cA (cB (cB (cB fW)))
def LS:Code:=cA (cB (cB (cB (cB fW))))
def fK:Code:=iR (iR (cB LS))
def BI:Code:=iR (cA (cB (cB fK)))
def pG:Code:=cB BI
def Bx:Code:=cB (cB (cB (cB (cB fW))))
theorem SO:fW=.seq (cA fW) (.seq (cA (cB fW)) (.seq (.seq (cA By) (.block 0 (.loop LR))) (.seq (.region 9 (aD yO) false) (.seq (.seq (cA LS) (.block 2 (.loop fK))) Bx)))):=by kernel_rfl
theorem Lq:fK=.seq (cA fK) (.seq (cA (cB fK)) (.seq (.block 3 (.seq (cA BI) (.region 13 (aD pG) false))) (cB (cB (cB fK))))):=by kernel_rfl
theorem Lp:aDG.ntmps=36:=by kernel_rfl
theorem Lm (v:Value):aX prog (qG prog) 36 (fun _=>tC T0 fun _=>none) 60 (cA fW) (fD 0 [.v (.im v)]) [.slot 0 (.im v)]=some ([],.nrm,[.slot 0 (.im v)]):=by kernel_rfl
theorem Ll (v:Value):aX prog (qG prog) 36 (fun _=>tC T0 fun _=>none) 60 (cA (cB fW)) [.slot 0 (.im v)] [.slot 0 (.im v),.slot 3 (.im (iI 0))]=some ([],.nrm,[.slot 0 (.im v),.slot 3 (.im (iI 0))]):=by kernel_rfl
def wK (v:Value) (K i s:Nat):List Fact:=[.slot 0 (.im v),.slot 3 (.im (iI s)),.slot 9 (.im v),.slot 10 (.im (iI K)),.slot 11 (.im (iI i))]
theorem Lk (p:Option Addr) (K m s:Nat):aX prog (qG prog) 36 (fun _=>tC T0 fun _=>none) 60 (cA By) [.slot 0 (.im (.slice p K m)),.slot 3 (.im (iI s))] (wK (.slice p K m) K 0 s)=some ([],.nrm,wK (.slice p K m) K 0 s):=by kernel_rfl
theorem Ln (w:World) (b o K m i s n m':Nat) (p:Option Addr):aX prog { qG prog with x:=xO w (assoc [(13,i)]) (fun _=>none) (assoc [(14,.slice p n m')]) } 36 (fun _=>tC T0 (assoc [(12,.bool true),(18,iI (s+n)),(20,.bool false),(22,iI (i+1))])) 60 LR (wK (aK b o K m) K i s) (wK (aK b o K m) K (i+1) (s+n))=some ([aJ .lss .i64 (Int.ofNat i) (Int.ofNat K)=some (.bool true),Int.ofNat i=Int.ofNat i,i<K,oldOf w b (o+i*1) [.c (.slice p n m')],aJ .add .i64 (Int.ofNat s) (Int.ofNat n)=some (iI (s+n)),aJ .lss .i64 (Int.ofNat (s+n)) 0=some (.bool false),aJ .add .i64 (Int.ofNat i) 1=some (iI (i+1))],.nrm,wK (aK b o K m) K (i+1) (s+n)):=by kernel_rfl
theorem Lj (v:Value) (K i s:Nat):aX prog (qG prog) 36 (fun _=>tC T0 (assoc [(12,.bool false)])) 60 LR (wK v K i s) (wK v K i s)=some ([aJ .lss .i64 (Int.ofNat i) (Int.ofNat K)=some (.bool false)],.ex 0,wK v K i s):=by kernel_rfl
theorem Lu (v:Value) (K i s:Nat):cO prog (qG prog) 36 (tC T0 fun _=>none) ((aD yO).extract 0 1) (wK v K i s) [.slot 23 (.im (iI s)),.slot 0 (.im v)]=some ([],[.slot 23 (.im (iI s)),.slot 0 (.im v)]):=by kernel_rfl
theorem Lt (v u:Value):cO prog (qG prog) 36 (tC T0 fun _=>none) ((aD yO).extract 2 3) [.slot 24 (.im u),.slot 0 (.im v)] [.slot 6 (.im u),.slot 0 (.im v)]=some ([],[.slot 6 (.im u),.slot 0 (.im v)]):=by kernel_rfl
def fG (v u:Value) (K i:Nat):List Fact:=[.slot 6 (.im u),.slot 25 (.im v),.slot 26 (.im (iI K)),.slot 27 (.im (iI i))]
theorem Bq (u:Value) (p:Option Addr) (K m:Nat):aX prog (qG prog) 36 (fun _=>tC T0 fun _=>none) 60 (cA LS) [.slot 6 (.im u),.slot 0 (.im (.slice p K m))] (fG (.slice p K m) u K 0)=some ([],.nrm,fG (.slice p K m) u K 0):=by kernel_rfl
theorem Lr (v u:Value) (K i:Nat):aX prog (qG prog) 36 (fun _=>tC T0 (assoc [(28,.bool true)])) 60 (cA fK) (fG v u K i) (.slot 28 (.im (.bool true))::fG v u K i)=some ([aJ .lss .i64 (Int.ofNat i) (Int.ofNat K)=some (.bool true)],.nrm,.slot 28 (.im (.bool true))::fG v u K i):=by kernel_rfl
theorem Bu (v u:Value) (K i:Nat):aX prog (qG prog) 36 (fun _=>tC T0 fun _=>none) 60 (cA (cB fK)) (.slot 28 (.im (.bool true))::fG v u K i) (fG v u K i)=some ([],.nrm,fG v u K i):=by kernel_rfl
theorem Wb (v u:Value) (K i:Nat):aX prog (qG prog) 36 (fun _=>tC T0 (assoc [(28,.bool false)])) 60 (cA fK) (fG v u K i) (.slot 28 (.im (.bool false))::fG v u K i)=some ([aJ .lss .i64 (Int.ofNat i) (Int.ofNat K)=some (.bool false)],.nrm,.slot 28 (.im (.bool false))::fG v u K i):=by kernel_rfl
theorem Li (v u:Value) (K i:Nat):aX prog (qG prog) 36 (fun _=>tC T0 fun _=>none) 60 (cA (cB fK)) (.slot 28 (.im (.bool false))::fG v u K i) (fG v u K i)=some ([],.ex 2,fG v u K i):=by kernel_rfl
theorem Br (w:World) (b o K m i:Nat) (u h:Value):aX prog { qG prog with x:=xO w (assoc [(29,i)]) (fun _=>none) (assoc [(30,h)]) } 36 (fun _=>tC T0 fun _=>none) 60 (cA BI) (fG (aK b o K m) u K i) (.slot 8 (.im h)::fG (aK b o K m) u K i)=some ([Int.ofNat i=Int.ofNat i,i<K,oldOf w b (o+i*1) [.c h]],.nrm,.slot 8 (.im h)::fG (aK b o K m) u K i):=by kernel_rfl
theorem Bw (v u h:Value) (K i:Nat):cO prog (qG prog) 36 (tC T0 fun _=>none) ((aD pG).extract 0 2) (.slot 8 (.im h)::fG v u K i) (.slot 31 (.im u) :: .slot 32 (.im h)::fG v u K i)=some ([],.slot 31 (.im u) :: .slot 32 (.im h)::fG v u K i):=by kernel_rfl
theorem Bv (v u x:Value) (K i:Nat):cO prog (qG prog) 36 (tC T0 fun _=>none) ((aD pG).extract 3 4) (.slot 33 (.im x)::fG v u K i) (fG v x K i)=some ([],fG v x K i):=by kernel_rfl
theorem Lo (v u:Value) (K i:Nat):aX prog (qG prog) 36 (fun _=>tC T0 (assoc [(34,iI (i+1))])) 60 (cB (cB (cB fK))) (fG v u K i) (fG v u K (i+1))=some ([aJ .add .i64 (Int.ofNat i) 1=some (iI (i+1))],.nrm,fG v u K (i+1)):=by kernel_rfl
theorem Wa (v u:Value) (K i:Nat):aX prog (qG prog) 36 (fun _=>tC T0 fun _=>none) 60 Bx (fG v u K i) [.slot 2 (.im u)]=some ([],.rt,[.slot 2 (.im u)]):=by kernel_rfl
theorem LQ {w0:World} {v:Value} {K:Nat} {vs:Nat→Value} {ls:Nat→List Nat} (hh:HQBz w0 v K vs ls) (hK0:0<K) (hK:K≤64) (hS:(cD ls K).length≤131072) :
  Calls prog 36 [v].toArray w0 fun e w'=>∃b C,e=.returned (aK b 0 (cD ls K).length C)∧LQBz w' (aK b 0 (cD ls K).length C) (cD ls K)∧w0.heap.size≤b∧Below w0.heap.size w0 w'∧AppAt w' b 5 1 (cD ls K).length C:=by
 have hG:∀base w,bO prog (qG prog) base w:=fun _ _=>(aW _).w _ _
 have hT:∀base w,∀n d:Nat,TabOkW prog T0 base w:=fun _ _ _ _=>(bU _).w _ _
 have hlen:∀i,(cD ls (i+1)).length=(cD ls i).length+(ls i).length:=fun i=>List.length_append
 have hS0:0<(cD ls K).length:=by
  have:=lR ls (show 1≤K by omega);have h1:(cD ls 1).length=(cD ls 0).length+(ls 0).length:=hlen 0;obtain⟨_,_,_,_,_,hl⟩:=id hh;have:=(hl 0 hK0).1;omega
 obtain⟨hb,ho,hm,rfl,hhd,hls⟩:=id hh;have hnt:f36.ntmps=36:=Lp;refine cH func36 (cs:=[.v (.im (aK hb ho K hm))]) (args:=[aK hb ho K hm]) (c:=fW) rfl ⟨rfl,trivial⟩ (Nat.le_of_ble_eq_true (by kernel_rfl)) fun a w hA => ?_
 rw[hnt]at hA;rw[SO];refine wp_seq (aB aI (hT _ _) (hG _ _) (Lm _) trivial hA fun a w hA => ?_);refine wp_seq (aB aI (hT _ _) (hG _ _) (Ll _) trivial hA fun a w hA => ?_);refine wp_seq (wp_seq (aB aI (hT _ _) (hG _ _) (Lk _ K hm 0) trivial hA fun a w hA => ?_));refine wp_block ?_;refine jD aI (fun i=>wK (aK hb ho K hm) K i (cD ls i).length) K (fun i hi => ?_) (.ex 0) (by simp) (wK (aK hb ho K hm) K K (cD ls K).length) ⟨_,_,_,_,hG _ _,hT _ _,Lj _ K K _,dD (Nat.le_refl _),trivial⟩ hA fun a w1 hA => ?_
 ·obtain⟨_,b',o',m',e,_,_⟩:=hls i hi;have hd:=hhd i hi;rw[e]at hd;have hmn:=lR ls (show i+1≤K by omega);have hl1:=hlen i;have hr1:=Ln w0 hb ho K hm i (cD ls i).length (ls i).length m' (some ⟨b',o',none⟩);rw[←hl1]at hr1;exact⟨_,_,_,_,dN w0 _ _ _,hT _ _,hr1,eO hi,rfl,hi,hd,by rw[hl1]; exact oX (by omega),dD (n:=0) (Nat.zero_le _),fU (k:=1) (by omega),trivial⟩
 simp only[EA.out,Exit.then,Exit.inBlock,if_true];refine wp_seq (bI (l:=List.range' 0 ((aD yO).extract 0 1).size++(1::(List.range' 2 ((aD yO).extract 2 3).size++[]))) (by kernel_rfl) ?_);refine aG (c:=tC T0 _) (hT _ _ 0) (hG _ _) (Lu _ K K _) trivial (by kernel_rfl) hA fun a2 w2 hA => ?_
 obtain⟨o1,ho1,⟨ts1,hop1⟩,hd1,hg1⟩:∃x,(aD yO)[1]?=some x∧(∃ts,x.op=.call ⟨.value (.func 68),#[.const (.slice none 0 0),.tmp 23],ts⟩)∧x.dst=some 24∧x.guard=none:=⟨_,rfl,⟨_,rfl⟩,rfl,rfl⟩
 refine aZ ho1 hg1 (cF hop1 (vs:=[cN,iI (cD ls K).length]) (List.cons_eq_cons.2 ⟨rfl,List.cons_eq_cons.2 ⟨cL (hA.slot (s:=23) (by simp)),rfl⟩⟩) (fun args=>bQ func68 (by kernel_rfl) (by kernel_rfl) args _) (KH hS0 hS) fun e w3 hq => ?_);obtain⟨b6,C6,rfl,hC6,hap,hb6,hbw⟩:=hq;refine⟨_,rfl,?_⟩;rw[hd1];have hb2:=hA.below;have hb3:Below w0.heap.size w0 w3:=hb2.trans (hbw.mono hb2.size);have hb60:w0.heap.size≤b6:=Nat.le_trans hb2.size hb6;have hS3:=aP (nt:=36) (w:=w3) (a:=a2.put (some 24) (aK b6 0 0 C6)) (ts:=[(24,aK b6 0 0 C6),(0,aK hb ho K hm)]) hA.defers (by rw[aF]; exact hA.size) (fun x hx=>by
  simp only[List.mem_cons,List.not_mem_nil,or_false]at hx
  rcases hx with rfl|rfl
  ·exact aT _ _ _ (by rw[hA.size]; decide)
  ·exact aS (hA.slot (by simp)) (by simp))
 clear hA;refine aG (c:=tC T0 _) (hT _ _ 0) (hG _ _) (Lt _ _) trivial (by kernel_rfl) hS3 fun a4 w4 hA => ?_
 show (Code.seq _ _).wp _ _ _ _;refine wp_seq (wp_seq (aB aI (hT _ _) (hG _ _) (Bq _ _ K hm) trivial hA fun a5 w5 hA => ?_));have hap5:=hap.shape hA.shape;have hb5:Below w0.heap.size w0 w5:=hb3.trans (hA.below.mono hb3.size);have hdf:=hA.defers;have hsz:=hA.size;have u6:=hA.slot (s:=6) (v:=aK b6 0 0 C6) (by simp[fG]);have u25:=hA.slot (s:=25) (v:=aK hb ho K hm) (by simp[fG,aK]);have u26:=hA.slot (s:=26) (v:=iI K) (by simp[fG]);have u27:=hA.slot (s:=27) (v:=iI 0) (by simp[fG]);have hap5:AppAt w5 b6 5 1 (cD ls 0).length C6:=hap5;have hr5:w5.rangeAt b6 0 (aA (lD (cD ls 0))):=fun j v hj=>by simp[cD,lD,aA]at hj
 change a5.tmps[6]?=some (aK b6 0 (cD ls 0).length C6) at u6;clear hA hS3 hap hC6 hb6;refine wp_block (dS (n:=K+1) ?_);have wl:∀Q a w,(Code.seq (cA fK) (.seq (cA (cB fK)) (.seq (.block 3 (.seq (cA BI) (.region 13 (aD pG) false))) (cB (cB (cB fK)))))).wp prog Q a w→fK.wp prog Q a w:=fun Q a w h=>by rw[Lq]; exact h
 have key:∀k i b6 C6 a w,i+k=K→a.defers=[]→a.tmps.size=36→a.tmps[6]?=some (aK b6 0 (cD ls i).length C6)→a.tmps[25]?=some (aK hb ho K hm)→a.tmps[26]?=some (iI K)→a.tmps[27]?=some (iI i)→AppAt w b6 5 1 (cD ls i).length C6→w.rangeAt b6 0 (aA (lD (cD ls i)))→w0.heap.size≤b6→Below w0.heap.size w0 w →
   Un prog fK (Exit.inBlock 2 (Exit.then (Bx.wp prog (bodyPost prog f36 fun e w'=>∃b C,e=.returned (aK b 0 (cD ls K).length C)∧LQBz w' (aK b 0 (cD ls K).length C) (cD ls K)∧w0.heap.size≤b∧Below w0.heap.size w0 w'∧AppAt w' b 5 1 (cD ls K).length C)) (bodyPost prog f36 fun e w'=>∃b C,e=.returned (aK b 0 (cD ls K).length C)∧LQBz w' (aK b 0 (cD ls K).length C) (cD ls K)∧w0.heap.size≤b∧Below w0.heap.size w0 w'∧AppAt w' b 5 1 (cD ls K).length C))) (k+1) a w:=by
  intro k
  induction k with
  | zero =>
   intro i b6 C6 a w hi hd hs t6 t25 t26 t27 hap hr hge hbl;have hiK:i=K:=by omega
   subst hiK;have hH:=aP (nt:=36) (w:=w) (a:=a) (ts:=[(6,aK b6 0 (cD ls i).length C6),(25,aK hb ho i hm),(26,iI i),(27,iI i)]) hd hs (fun x hx=>by
    simp only[List.mem_cons,List.not_mem_nil,or_false]at hx
    rcases hx with rfl|rfl|rfl|rfl
    ·exact t6
    ·exact t25
    ·exact t26
    ·exact t27)
   unfold Un;refine wl _ _ _ (wp_seq (aB aI (hT _ _) (hG _ _) (Wb _ _ i i) ⟨dD (Nat.le_refl _),trivial⟩ hH fun a w' hA => ?_));refine wp_seq (aB aI (hT _ _) (hG _ _) (Li _ _ i i) trivial hA fun a w' hA => ?_);simp only[EA.out,Exit.then,Exit.inBlock,if_true];refine aB aI (hT _ _) (hG _ _) (Wa _ _ i i) trivial hA fun a w' hA => ?_
   have hlt:b6<w.heap.size:=by obtain⟨cur,h1,_⟩:=hap; exact (Array.getElem?_eq_some_iff.1 h1).1
   exact cK (l:=[.im (aK b6 0 (cD ls i).length C6)]) (r:=.one (.im (aK b6 0 (cD ls i).length C6))) (by kernel_rfl) (by kernel_rfl) hA ⟨b6,C6,rfl,⟨hS0,b6,0,C6,rfl,Nat.lt_of_lt_of_le hlt hA.below.size,bG hA.below hlt hr⟩,hge,hbl.trans (hA.below.mono hbl.size),hap.shape hA.shape⟩
  | succ k ih =>
   intro i b6 C6 a w hi hd hs t6 t25 t26 t27 hap hr hge hbl;have hiK:i<K:=by omega
   have hH:=aP (nt:=36) (w:=w) (a:=a) (ts:=[(6,aK b6 0 (cD ls i).length C6),(25,aK hb ho K hm),(26,iI K),(27,iI i)]) hd hs (fun x hx=>by
    simp only[List.mem_cons,List.not_mem_nil,or_false]at hx
    rcases hx with rfl|rfl|rfl|rfl
    ·exact t6
    ·exact t25
    ·exact t26
    ·exact t27)
   unfold Un;refine wl _ _ _ (wp_seq (aB aI (hT _ _) (hG _ _) (Lr _ _ K i) ⟨eO hiK,trivial⟩ hH fun a w1 hA => ?_));refine wp_seq (aB aI (hT _ _) (hG _ _) (Bu _ _ K i) trivial hA fun a w1 hA => ?_);refine wp_seq (wp_block (wp_seq (aB aI (hT _ _) (dN w _ _ _) (Br w hb ho K hm i _ (vs i)) ⟨rfl,hiK,(hhd i hiK).below hbl (by have:=(hhd i hiK).1; exact this),trivial⟩ hA fun a w1 hA => ?_)));refine bI (l:=List.range' 0 ((aD pG).extract 0 2).size++(2::(List.range' 3 ((aD pG).extract 3 4).size++[]))) (by kernel_rfl) ?_;refine aG (c:=tC T0 _) (hT _ _ 0) (hG _ _) (Bw _ _ _ K i) trivial (by kernel_rfl) hA fun a2 w2 hA => ?_
   obtain⟨o2,ho2,hop2,hd2,hg2⟩:∃x,(aD pG)[2]?=some x∧x.op=.call ⟨.builtin .append,#[.tmp 31,.tmp 32],#[25,25]⟩∧x.dst=some 33∧x.guard=none:=⟨_,rfl,rfl,rfl,rfl⟩
   have hb2:=hA.below;have hB2:Below w0.heap.size w0 w2:=hbl.trans (hb2.mono hbl.size);have hlt:b6<w.heap.size:=by obtain⟨cur,h1,_⟩:=hap; exact (Array.getElem?_eq_some_iff.1 h1).1
   obtain⟨hl0,b',o',m',e',hb',hr'⟩:=(hls i hiK).below hB2;have hmn:=lR ls (show i+1≤K by omega);have hl1:=hlen i;obtain⟨b7,C7,w3,hrun,a1,q2,q3,q4,a5,a6,a7⟩:=pV (P:=prog) w2 (ty:=o2.type) Yx (u:=aK b6 0 (cD ls i).length C6) (n:=(cD ls i).length) (xs:=aA (lD (cD ls i))) (Or.inr ⟨b6,C6,rfl,hap.shape hA.shape,bG hb2 hlt hr,DF _⟩) (ad:=⟨b',o',none⟩) (m:=(ls i).length) (c:=m') (news:=aA (lD (ls i))) (DF _) (fun j v hj=>by
    have e:(⟨b',o',none⟩:Addr).add j=⟨b',o'+j,none⟩:=by simp[Addr.add]
    rw[e];exact hr' j v hj) (WG _) hl0 (by omega) (by unfold maxLen; omega)
   rw[←hl1]at hrun a1;have hrn:(execOp a2.eval o2).run prog w2=.ok (.value (aK b7 0 (cD ls (i+1)).length C7)) w3:=by
    have h31:=cL (hA.slot (s:=31) (v:=aK b6 0 (cD ls i).length C6) (by simp));have h32:=cL (hA.slot (s:=32) (v:=vs i) (by simp));rw[e']at h32;unfold execOp;simp only[hop2,resolve,invoke,builtin,Sem.run_bind,Sem.run_pure,Result.andThen_ok,List.map_toArray,List.map_cons,List.map_nil,h31,h32];rw[show aK b' o' (ls i).length m'=Value.slice (some ⟨b',o',none⟩) (ls i).length m' from rfl,hrun];rfl
   refine aZ ho2 hg2 (bZ hrn ?_);rw[hd2];have hB3:Below w0.heap.size w0 w3:=hB2.grown a5 hB2.size (fun k hk=>by
    have:k=b6:=by simpa[aK,Value.ownBlock,eq_comm]using hk
    omega)
   have hge7:w0.heap.size≤b7:=by
    rcases a7 with h|⟨cap0,h⟩
    ·exact Nat.le_trans hB2.size h
    ·have:b6=b7:=by simp only[aK,Value.slice.injEq,Option.some.injEq,Addr.mk.injEq]at h; exact h.1.1
     omega
   have hq3:w3.rangeAt b7 0 (aA (lD (cD ls (i+1)))):=by
    show w3.rangeAt b7 0 (aA (lD (cD ls i++ls i)));rw[WH,aM]; exact q3
   have hS3:=aP (nt:=36) (w:=w3) (a:=a2.put (some 33) (aK b7 0 (cD ls (i+1)).length C7)) (ts:=[(33,aK b7 0 (cD ls (i+1)).length C7),(6,aK b6 0 (cD ls i).length C6),(25,aK hb ho K hm),(26,iI K),(27,iI i)]) hA.defers (by rw[aF]; exact hA.size) (fun x hx=>by
    simp only[List.mem_cons,List.not_mem_nil,or_false]at hx
    rcases hx with rfl|rfl|rfl|rfl|rfl
    ·exact aT _ _ _ (by rw[hA.size]; decide)
    all_goals exact aS (hA.slot (by simp[fG])) (by simp))
   clear hA hH;refine aG (c:=tC T0 _) (hT _ _ 0) (hG _ _) (Bv _ _ _ K i) trivial (by kernel_rfl) hS3 fun a4 w4 hA => ?_
   show (cB (cB (cB fK))).wp _ _ _ _;refine aB aI (hT _ _) (hG _ _) (Lo _ _ K i) ⟨fU (k:=1) (by omega),trivial⟩ hA fun a5 w5 hA => ?_
   exact ih (i+1) b7 C7 a5 w5 (by omega) hA.defers hA.size (hA.slot (by simp[fG])) (hA.slot (by simp[fG])) (hA.slot (by simp[fG])) (hA.slot (by simp[fG])) (a1.shape hA.shape) (bG hA.below q2 hq3) hge7 (hB3.trans (hA.below.mono hB3.size))
 exact key K 0 b6 C6 a5 w5 (by omega) hdf hsz u6 u25 u26 u27 hap5 hr5 hb60 hb5
def Og:Code:=(f11.body).getD .skip
def Xv:Code:=cA (cB (cB Og))
def Kl:Code:=cA (cB (cB (cB Og)))
theorem Kj:Og=.seq (cA Og) (.seq (cA (cB Og)) (.seq (.region 4 (aD Xv) false) (.seq (.region 5 (aD Kl) false) .ret))):=by kernel_rfl
theorem aCj:f11.ntmps=24:=by kernel_rfl
def Cy (c:Int):Tab:=T0.add 34 (Uh c)
theorem XL (c:Int):TabOk prog (Cy c):=(bU _).ad func34 (aCx c)
theorem Va (s:NS) (c:Int):cR prog (qG prog) (fun _=>tC (Cy c) (assoc [(10,.bool true)])) f11 60 [.v (.fl (kH s))]=some ([s.1.1<aH,s.1.2<aH,s.2<aH,TY s=c,aA (kH s)=aA (kH s),aJ .neq .i64 c 0=some (.bool true)],.many [.im (.slice none 0 0),.im (.int .i64 c)]):=by kernel_rfl
def Kk (s:NS):List Fact:=[.slot 1 (.pt 1 0),.row 1 true (kH s)]
theorem aGB (s:NS):aX prog (qG prog) 24 (fun _=>tC T0 fun _=>none) 60 (cA Og) (fD 0 [.v (.fl (kH s))]) (Kk s)=some ([],.nrm,Kk s):=by kernel_rfl
theorem aGA (s:NS):aX prog (qG prog) 24 (fun _=>tC (Cy 0) fun _=>none) 60 (cA (cB Og)) (Kk s) (Kk s)=some ([s.1.1<aH,s.1.2<aH,s.2<aH,TY s=0,aA (kH s)=aA (kH s)],.nrm,Kk s):=by kernel_rfl
theorem aCo (s:NS):cO prog (qG prog) 24 (tC T0 fun _=>none) ((aD Xv).extract 0 2) (Kk s) (.slot 14 (.fl [.q s.1.1,.q s.1.2])::Kk s)=some ([],.slot 14 (.fl [.q s.1.1,.q s.1.2])::Kk s):=by kernel_rfl
theorem aCn (v:Value) (b1:Nat):cO prog (qG prog) 24 (tC T0 fun _=>none) ((aD Xv).extract 3 8) [.slot 15 (.tu [.im v,.im (.int .i64 0)]),.slot 1 (.im (ptV b1 0))] [.slot 5 (.im v),.slot 1 (.im (ptV b1 0))]=some ([],[.slot 5 (.im v),.slot 1 (.im (ptV b1 0))]):=by kernel_rfl
theorem aCm (w:World) (s:NS) (b b1 m:Nat):cO prog { qG prog with x:=xO w (fun _=>none) (assoc [(20,[.q s.2])]) (fun _=>none) } 24 (tC T0 fun _=>none) ((aD Kl).extract 0 3) [.slot 5 (.im (aK b 0 32 m)),.slot 1 (.im (ptV b1 0))] [.slot 18 (.im (aK b 0 32 m)),.slot 20 (.fl [.q s.2])]=some ([oldOf w b1 8 [.q s.2],dJ [At.q s.2]=4],[.slot 18 (.im (aK b 0 32 m)),.slot 20 (.fl [.q s.2])]):=by kernel_rfl
theorem aCl (b m b' m':Nat):cO prog (qG prog) 24 (tC T0 fun _=>none) ((aD Kl).extract 4 5) [.slot 18 (.im (aK b 0 32 m)),.slot 21 (.im (aK b' 0 32 m'))] [.slot 22 (.sl 22 0 2 2),.row 22 true [.c (aK b 0 32 m),.c (aK b' 0 32 m')]]=some ([],[.slot 22 (.sl 22 0 2 2),.row 22 true [.c (aK b 0 32 m),.c (aK b' 0 32 m')]]):=by kernel_rfl
theorem aCk (v:Value):cO prog (qG prog) 24 (tC T0 fun _=>none) ((aD Kl).extract 6 8) [.slot 23 (.im v)] [.slot 2 (.im v),.slot 3 (.im (.int .i64 0))]=some ([],[.slot 2 (.im v),.slot 3 (.im (.int .i64 0))]):=by kernel_rfl
def TZ (f:Nat→Nat):List Nat:=(List.range 32).map f
theorem oD (f:Nat→Nat):(TZ f).length=32:=by simp[TZ]
def tJ (s:NS):List Nat:=TZ (xH s.1)++TZ (bT s.2)
theorem pT (s:NS):(tJ s).length=64:=by unfold tJ; rw[List.length_append,oD,oD]
theorem IU {w:World} {b:Nat} {f:Nat→Nat} (h:Go.Proofs.YtpjlhhpjpnacmaaGreatDoor.RowB w b 32 f):w.rangeAt b 0 (aA (bj f)):=fun j v hj=>by
 have hlt:j<32:=by
  rcases Nat.lt_or_ge j 32 with h|h
  ·exact h
  ·rw[List.getElem?_eq_none (show (aA (bj f)).length≤j from h)]at hj; cases hj
 rw[OZ f j hlt]at hj;rw[Nat.zero_add,(h j hlt).1];exact hj
def BzA (w0:World) (s:NS) (e:Ending) (w':World):Prop:=∃b C,e=.returned (.tuple #[aK b 0 64 C,.int .i64 0])∧w'.rangeAt b 0 (aA (lD (tJ s)))∧w0.heap.size≤b∧Below w0.heap.size w0 w'∧AppAt w' b 5 1 64 C
theorem rE {s:NS} (h1:s.1.1<aH) (h2:s.1.2<aH) (h3:s.2<aH) (hs:TY s=0) (w0:World):Calls prog 11 [.agg (aA (kH s)).toArray].toArray w0 (BzA w0 s):=by
 have hG:∀base w,bO prog (qG prog) base w:=fun _ _=>(aW _).w _ _
 have hT:∀base w,∀n d:Nat,TabOkW prog T0 base w:=fun _ _ _ _=>(bU _).w _ _
 have hR:=aDz hs;have hnt:f11.ntmps=24:=aCj;refine cH func11 (cs:=[.v (.fl (kH s))]) (args:=[.agg (aA (kH s)).toArray]) (c:=Og) rfl ⟨rfl,trivial⟩ (Nat.le_of_ble_eq_true (by kernel_rfl)) fun a w hA => ?_
 rw[hnt]at hA;rw[Kj];refine wp_seq (aB aI (hT _ _) (hG _ _) (aGB s) trivial hA fun a w hA => ?_);refine wp_seq (aB aI (fun _ _=>(XL 0).w _ _) (hG _ _) (aGA s) ⟨h1,h2,h3,hs,rfl,trivial⟩ hA fun a w hA => ?_);refine wp_seq (bI (l:=List.range' 0 ((aD Xv).extract 0 2).size++(2::(List.range' 3 ((aD Xv).extract 3 8).size++[]))) (by kernel_rfl) ?_);refine aG (c:=tC T0 _) (hT _ _ 0) (hG _ _) (aCo s) trivial (by kernel_rfl) hA fun a w1 hA => ?_
 unfold Kk at hA;obtain⟨b1,hA⟩:=hA.at (k:=1) (l:=kH s) (by simp);have m1:Own w1 b1 (kH s):=hA.own (k:=1) (by simp) (by simp);have hB1:w0.heap.size≤b1:=hA.geq (k:=1) (l:=kH s) (by simp) (by simp);have hbl:=hA.below;have t1:=hA.ptS (s:=1) (k:=1) (o:=0) (b:=b1) (by simp) (by simp);have t14:=hA.slotF (s:=14) (l:=[.q s.1.1,.q s.1.2]) (by simp);have hdf:=hA.defers;have hsz:=hA.size;clear hA;obtain⟨o2,ho2,⟨ts2,hop2⟩,hd2,hg2⟩:∃x,(aD Xv)[2]?=some x∧(∃ts,x.op=.call ⟨.value (.func 35),#[.tmp 14],ts⟩)∧x.dst=some 15∧x.guard=none:=⟨_,rfl,⟨_,rfl⟩,rfl,rfl⟩
 refine aZ ho2 hg2 (cF hop2 (vs:=[.agg (aA [.q s.1.1,.q s.1.2]).toArray]) (List.cons_eq_cons.2 ⟨cL t14,rfl⟩) (fun args=>bQ func35 (by kernel_rfl) (by kernel_rfl) args _) (SP s.1 (Lg hR) hR [.agg (aA [.q s.1.1,.q s.1.2]).toArray] w1 ⟨rfl,trivial⟩) fun e w2 hq => ?_);obtain⟨b2,rfl,hb2,hge2,hlt2,hr2,_⟩:=hq;refine⟨_,rfl,?_⟩;rw[hd2];have Nt:=m1.on hb2;have hS2:=iO (nt:=24) (w:=w2) (a:=a.put (some 15) (FR.val ⟨bj (xH s.1),32,32,[.im (.int .i64 0)]⟩ b2)) (ts:=[(15,.tu [.im (aK b2 0 32 32),.im (.int .i64 0)]),(1,.im (ptV b1 0))]) hdf (by rw[aF]; exact hsz) (fun x hx β=>by
  simp only[List.mem_cons,List.not_mem_nil,or_false]at hx
  rcases hx with rfl|rfl
  ·exact aT _ _ _ (by rw[hsz]; decide)
  ·exact aS t1 (by simp))
 refine aG (c:=tC T0 _) (hT _ _ 0) (hG _ _) (aCn (aK b2 0 32 32) b1) trivial (by kernel_rfl) hS2 fun a3 w3 hA => ?_
 have hb3:=hA.below;have m13:=Nt.on hb3;have hr3:=bG hb3 hlt2 hr2;have hlt3:b2<w3.heap.size:=Nat.lt_of_lt_of_le hlt2 hb3.size;have hb13:=hb2.trans (hb3.mono hb2.size);have hS3:=aP (nt:=24) (w:=w3) (a:=a3) (ts:=[(5,aK b2 0 32 32),(1,ptV b1 0)]) hA.defers hA.size (fun x hx=>by
  simp only[List.mem_cons,List.not_mem_nil,or_false]at hx
  rcases hx with rfl|rfl
  ·exact hA.slot (s:=5) (v:=aK b2 0 32 32) (by simp)
  ·exact hA.slot (s:=1) (v:=ptV b1 0) (by simp))
 clear hA hS2;refine wp_seq (bI (l:=List.range' 0 ((aD Kl).extract 0 3).size++(3::(List.range' 4 ((aD Kl).extract 4 5).size++(5::(List.range' 6 ((aD Kl).extract 6 8).size++[]))))) (by kernel_rfl) ?_);refine aG (c:=tC T0 _) (hT _ _ 0) (dN w3 _ _ _) (aCm w3 s b2 b1 32) ⟨m13.old (o:=8) (s:=[.q s.2]) rfl,rfl,trivial⟩ (by kernel_rfl) hS3 fun a4 w4 hA => ?_
 have hb4:=hA.below;have hr4:=bG hb4 hlt3 hr3;have t18:=hA.slot (s:=18) (v:=aK b2 0 32 32) (by simp);have t20:=hA.slotF (s:=20) (l:=[.q s.2]) (by simp);have hdf4:=hA.defers;have hsz4:=hA.size;clear hA hS3;obtain⟨o3,ho3,⟨ts3,hop3⟩,hd3,hg3⟩:∃x,(aD Kl)[3]?=some x∧(∃ts,x.op=.call ⟨.value (.func 37),#[.tmp 20],ts⟩)∧x.dst=some 21∧x.guard=none:=⟨_,rfl,⟨_,rfl⟩,rfl,rfl⟩
 have hlb:=rJ (fw s.2 0) (fw s.2 1) (fw s.2 2) (fw s.2 3) (eR s.2) w4;rw[fC h3]at hlb;refine aZ ho3 hg3 (cF hop3 (vs:=[.agg (aA [.q s.2]).toArray]) (List.cons_eq_cons.2 ⟨cL t20,rfl⟩) (fun args=>bQ func37 (by kernel_rfl) (by kernel_rfl) args _) hlb fun e w5 hq => ?_);obtain⟨b5,rfl,hge5,hlt5,hrow5,hb5,_⟩:=hq;refine⟨_,rfl,?_⟩;rw[hd3];have hr5:=bG hb5 (Nat.lt_of_lt_of_le hlt3 hb4.size) hr4;have hlt25:b2<w5.heap.size:=Nat.lt_of_lt_of_le (Nat.lt_of_lt_of_le hlt3 hb4.size) hb5.size;have hS5:=aP (nt:=24) (w:=w5) (a:=a4.put (some 21) (aK b5 0 32 32)) (ts:=[(18,aK b2 0 32 32),(21,aK b5 0 32 32)]) hdf4 (by rw[aF]; exact hsz4) (fun x hx=>by
  simp only[List.mem_cons,List.not_mem_nil,or_false]at hx
  rcases hx with rfl|rfl
  ·exact aS t18 (by simp)
  ·exact aT _ _ _ (by rw[hsz4]; decide))
 refine aG (c:=tC T0 _) (hT _ _ 0) (hG _ _) (aCl b2 32 b5 32) trivial (by kernel_rfl) hS5 fun a6 w6 hA => ?_
 obtain⟨b22,hA⟩:=hA.at (k:=22) (l:=[.c (aK b2 0 32 32),.c (aK b5 0 32 32)]) (by simp);have m22:Own w6 b22 [.c (aK b2 0 32 32),.c (aK b5 0 32 32)]:=hA.own (k:=22) (by simp) (by simp);have hb6:=hA.below;have hA2:=hA.im (s:=22) (k:=22) (o:=0) (n:=2) (m:=2) (b:=b22) (by simp) (by simp);have t22:=hA2.slot (s:=22) (v:=aK b22 0 2 2) (by simp);have hdf6:=hA.defers;have hsz6:=hA.size;have hr6:=bG hb6 hlt25 hr5;have hr56:=bG hb6 hlt5 (IU hrow5);have hHQ:HQBz w6 (aK b22 0 2 2) 2 (fun j=>if j=0 then aK b2 0 32 32 else aK b5 0 32 32) (fun j=>if j=0 then TZ (xH s.1)else TZ (bT s.2)):=by
  refine⟨b22,0,2,rfl,fun j hj => ?_,fun j hj => ?_⟩
  ·match j,hj with
   | 0,_=>exact m22.old rfl
   | 1,_=>exact m22.old rfl
  ·match j,hj with
   | 0,_=>exact⟨by show 0<(TZ (xH s.1)).length; rw[oD]; decide,b2,0,32,by show aK b2 0 32 32=aK b2 0 (TZ (xH s.1)).length 32; rw[oD],Nat.lt_of_lt_of_le hlt25 hb6.size,hr6⟩
   | 1,_=>exact⟨by show 0<(TZ (bT s.2)).length; rw[oD]; decide,b5,0,32,by show aK b5 0 32 32=aK b5 0 (TZ (bT s.2)).length 32; rw[oD],Nat.lt_of_lt_of_le hlt5 hb6.size,hr56⟩
 have hcl:cD (fun j=>if j=0 then TZ (xH s.1)else TZ (bT s.2)) 2=tJ s:=rfl;clear hA hA2 hS5;obtain⟨o5,ho5,⟨ts5,hop5⟩,hd5,hg5⟩:∃x,(aD Kl)[5]?=some x∧(∃ts,x.op=.call ⟨.value (.func 36),#[.tmp 22],ts⟩)∧x.dst=some 23∧x.guard=none:=⟨_,rfl,⟨_,rfl⟩,rfl,rfl⟩
 refine aZ ho5 hg5 (cF hop5 (vs:=[aK b22 0 2 2]) (List.cons_eq_cons.2 ⟨cL t22,rfl⟩) (fun args=>bQ func36 (by kernel_rfl) (by kernel_rfl) args _) (LQ hHQ (by decide) (by decide) (by rw[hcl,pT]; decide)) fun e w7 hq => ?_);rw[hcl,pT]at hq;obtain⟨b7,C7,rfl,⟨_,b7',o7',m7',e7,hlt7,hr7⟩,hge7,hb7,hap7⟩:=hq;rw[pT]at e7;cases e7;refine⟨_,rfl,?_⟩;rw[hd5];have hS7:=aP (nt:=24) (w:=w7) (a:=a6.put (some 23) (aK b7 0 64 C7)) (ts:=[(23,aK b7 0 64 C7)]) hdf6 (by rw[aF]; exact hsz6) (fun x hx=>by
  simp only[List.mem_cons,List.not_mem_nil,or_false]at hx
  rcases hx with rfl
  exact aT _ _ _ (by rw[hsz6]; decide))
 refine aG (c:=tC T0 _) (hT _ _ 0) (hG _ _) (aCk (aK b7 0 64 C7)) trivial (by kernel_rfl) hS7 fun a8 w8 hA => ?_
 have hb8:=hA.below;have s1:=hbl.size;have s2:=hb13.size;have s4:=hb4.size;have s5:=hb5.size;have s6:=hb6.size;have hB7:Below w0.heap.size w0 w7:=((((hbl.trans (hb13.mono s1)).trans (hb4.mono (by omega))).trans (hb5.mono (by omega))).trans (hb6.mono (by omega))).trans (hb7.mono (by omega));have s7:=hB7.size;exact wp_ret (cK (l:=[.im (aK b7 0 64 C7),.im (.int .i64 0)]) (r:=.many [.im (aK b7 0 64 C7),.im (.int .i64 0)]) (by kernel_rfl) (by kernel_rfl) hA ⟨b7,C7,rfl,bG hb8 hlt7 hr7,by omega,hB7.trans (hb8.mono s7),hap7.shape hA.shape⟩)
theorem Own.holdsSl {nt k r n m:Nat} {w:World} {l:List At} {a:Act} {ts:List (Nat×Value)} (h:Own w r l) (hd:a.defers=[]) (hs:a.tmps.size=nt) (hk:Nat.beq k nt=false) (hp:a.tmps[k]?=some (aK r 0 n m)) (ht:∀x∈ts,a.tmps[x.1]?=some x.2) :
  Holds nt r w (.slot k (.sl k 0 n m) :: .row k true l :: .at k r :: .at nt w.heap.size::ts.map fun x=>.slot x.1 (.im x.2)) a w:=by
 refine⟨hd,hs,Below.refl _ _,Nat.le_of_lt h.lt,fun q=>bif Nat.beq q nt then (w.heap.size,0,0)else (r,0,0),fun φ hφ => ?_,fun k1 k2 o' l1 l2 h1 h2 hne => ?_,fun k1 l1 h1=>Or.inl ?_,?_,fun p q1 q2=>⟨rfl,rfl⟩,Shape.refl _⟩
 ·simp only[List.mem_cons,List.mem_map]at hφ
  rcases hφ with rfl|rfl|rfl|rfl|⟨x,hx,rfl⟩
  ·show a.tmps[k]?=_;rw[hp];simp[AV.den,hk,Go.Proofs.YtpjlhhpjpnacmaaGreatDoor.Ex.aK]
  ·refine⟨?_,?_,fun _=>⟨?_,?_,?_⟩,fun h=>by cases h⟩<;>simp only[hk,cond_false]
   ·exact h.lt
   ·exact h.row
   ·exact Nat.le_refl _
   ·exact h.free
  ·simp only[Fact.ok,hk,cond_false,and_self]
  ·simp[Fact.ok]
  ·exact ht x hx
 ·have e:∀k3 o3 l3,Fact.row k3 o3 l3∈(Fact.slot k (.sl k 0 n m) :: .row k true l :: .at k r :: .at nt w.heap.size::ts.map fun x=>Fact.slot x.1 (.im x.2))→k3=k:=fun k3 o3 l3 h3=>by
   simp only[List.mem_cons,reduceCtorEq,false_or,List.mem_map,and_false,exists_const,or_false]at h3;cases h3; rfl
  exact (hne ((e _ _ _ h1).trans (e _ _ _ h2).symm)).elim
 ·have e:k1=k:=by
   simp only[List.mem_cons,reduceCtorEq,false_or,List.mem_map,and_false,exists_const,or_false]at h1;cases h1; rfl
  subst e;simp only[hk,cond_false]
 ·simp
def QK:Code:=(f4.body).getD .skip
def Ow (sg:gL):Tab:=(T0.add 8 (g0 (.one (.im (.bool true))))).add 9 sg
def Xp:Code:=cA (cB (cB (cB QK)))
def Xo:Code:=cA (cB (cB (cB (cB QK))))
def Xn:Code:=cA (cB (cB (cB (cB (cB QK)))))
def owL:Code:=cA (cB (cB (cB (cB (cB (cB QK))))))
def AE:Code:=cA (cB (cB (cB (cB (cB (cB (cB QK)))))))
theorem Gy:QK=.seq (cA QK) (.seq (cA (cB QK)) (.seq (cA (cB (cB QK))) (.seq (.region 4 (aD Xp) false) (.seq (.region 5 (aD Xo) false) (.seq (.region 6 (aD Xn) false) (.seq owL (.seq (.region 11 (aD AE) false) .ret))))))):=by kernel_rfl
theorem aAu:f4.ntmps=46:=by kernel_rfl
theorem aFO (s:Nat) (v:Value):aX prog (qG prog) 46 (fun _=>tC T0 (fun _=>none)) 80 (cA QK) (fD 0 [.v (.fl [.q s]),.v (.im v)]) [.slot 1 (.im v),.slot 2 (.pt 2 0),.row 2 true [.q s]]=some ([],.nrm,[.slot 1 (.im v),.slot 2 (.pt 2 0),.row 2 true [.q s]]):=by kernel_rfl
theorem aFN (s:Nat) (v:Value):aX prog (qG prog) 46 (fun _=>tC (Ow fun _=>none) (fun _=>none)) 80 (cA (cB QK)) [.slot 1 (.im v),.slot 2 (.pt 2 0),.row 2 true [.q s]] [.slot 1 (.im v),.slot 2 (.pt 2 0),.row 2 true [.q s]]=some ([],.nrm,[.slot 1 (.im v),.slot 2 (.pt 2 0),.row 2 true [.q s]]):=by kernel_rfl
theorem aFM (s:Nat) (v:Value) (t:NS):aX prog (qG prog) 46 (fun _=>tC (Ow (Je s v (.many [.fl (kH t),.im (.int .i64 0)]))) (fun _=>none)) 80 (cA (cB (cB QK))) [.slot 1 (.im v),.slot 2 (.pt 2 0),.row 2 true [.q s]] [.slot 5 (.pt 5 0),.row 5 true (kH t)]=some ([aA [At.q s]=aA [At.q s],v=v],.nrm,[.slot 5 (.pt 5 0),.row 5 true (kH t)]):=by kernel_rfl
theorem aAA (t:NS):cO prog (qG prog) 46 (tC T0 fun _=>none) ((aD Xp).extract 0 1) [.slot 5 (.pt 5 0),.row 5 true (kH t)] [.slot 22 (.fl (kH t)),.slot 5 (.pt 5 0),.row 5 true (kH t)]=some ([],[.slot 22 (.fl (kH t)),.slot 5 (.pt 5 0),.row 5 true (kH t)]):=by kernel_rfl
theorem aAz (v p:Value):cO prog (qG prog) 46 (tC T0 fun _=>none) ((aD Xp).extract 2 7) [.slot 23 (.tu [.im v,.im (.int .i64 0)]),.slot 5 (.im p)] [.slot 7 (.im v),.slot 5 (.im p)]=some ([],[.slot 7 (.im v),.slot 5 (.im p)]):=by kernel_rfl
theorem aAy (v p:Value):cO prog (qG prog) 46 (tC T0 fun _=>none) ((aD Xo).extract 0 1) [.slot 7 (.im v),.slot 5 (.im p)] [.slot 26 (.im v),.slot 7 (.im v),.slot 5 (.im p)]=some ([],[.slot 26 (.im v),.slot 7 (.im v),.slot 5 (.im p)]):=by kernel_rfl
theorem aAx (v p z:Value):cO prog (qG prog) 46 (tC T0 fun _=>none) ((aD Xo).extract 2 3) [.slot 27 (.im z),.slot 7 (.im v),.slot 5 (.im p)] [.slot 9 (.im z),.slot 7 (.im v),.slot 5 (.im p)]=some ([],[.slot 9 (.im z),.slot 7 (.im v),.slot 5 (.im p)]):=by kernel_rfl
theorem aAw (w:World) (t:NS) (v z:Value) (b5:Nat):cO prog { qG prog with x:=xO w (fun _=>none) (assoc [(29,kH t)]) (fun _=>none) } 46 (tC T0 fun _=>none) ((aD Xn).extract 0 1) [.slot 9 (.im z),.slot 7 (.im v),.slot 5 (.im (ptV b5 0))] [.slot 29 (.fl (kH t)),.slot 9 (.im z),.slot 7 (.im v)]=some ([oldOf w b5 0 (kH t),dJ (kH t)=12],[.slot 29 (.fl (kH t)),.slot 9 (.im z),.slot 7 (.im v)]):=by kernel_rfl
theorem aAv (u v z:Value):cO prog (qG prog) 46 (tC T0 fun _=>none) ((aD Xn).extract 2 7) [.slot 30 (.tu [.im u,.im (.int .i64 0)]),.slot 9 (.im z),.slot 7 (.im v)] [.slot 10 (.im u),.slot 9 (.im z),.slot 7 (.im v)]=some ([],[.slot 10 (.im u),.slot 9 (.im z),.slot 7 (.im v)]):=by kernel_rfl
theorem aFK (C b n:Nat) (f g:Nat→Nat) (v z:Value):aX prog (qG prog) 46 (fun _=>tC T0 (fun _=>none)) 90 owL [.slot 10 (.sl 10 0 64 C),.row 10 true (bj f++bj g),.at 10 b,.at 46 n,.slot 9 (.im z),.slot 7 (.im v)] [.slot 9 (.im z),.slot 7 (.im v)]=some ([],.nrm,[.slot 9 (.im z),.slot 7 (.im v)]):=by kernel_rfl
theorem Se (v z:Value):cO prog (qG prog) 46 (tC T0 fun _=>none) ((aD AE).extract 0 1) [.slot 9 (.im z),.slot 7 (.im v)] [.slot 42 (.im v),.slot 9 (.im z)]=some ([],[.slot 42 (.im v),.slot 9 (.im z)]):=by kernel_rfl
theorem Sd (z:Value):cO prog (qG prog) 46 (tC T0 fun _=>none) ((aD AE).extract 2 3) [.slot 43 (.im z),.slot 9 (.im z)] [.slot 44 (.im z),.slot 43 (.im z)]=some ([],[.slot 44 (.im z),.slot 43 (.im z)]):=by kernel_rfl
theorem Sc:cO prog (qG prog) 46 (tC T0 fun _=>none) ((aD AE).extract 4 5) [.slot 45 (.im (.bool true))] [.slot 4 (.im (.bool true))]=some ([],[.slot 4 (.im (.bool true))]):=by kernel_rfl
def Ua (R:RV):gL
 | [.v (.fl l)]=>some ([aA l=aA PM],R)
 | _=>none
def aHi (sg:gL) (R:RV):Tab:=((T0.add 8 (g0 (.one (.im (.bool true))))).add 11 (Ua R)).add 9 sg
def zJ:Value:=.string ByteArray.empty
theorem aFL (w0:World) (s:Nat) (v:Value) (e:Int):cR prog { qG prog with x:=xO w0 (fun _=>none) (fun _=>none) (assoc [(27,zJ),(43,zJ),(45,.bool true)]) } (fun _=>tC (aHi (Je s v (.many [.fl PM,.im (.int .i64 e)])) (.many [.im (.slice none 0 0),.im (.int .i64 41)])) (fun _=>none)) f4 80 [.v (.fl [.q s]),.v (.im v)]=some ([aA [At.q s]=aA [At.q s],v=v,aA PM=aA PM,∀w:World,(convert 25 9 (.slice none 0 0)).run prog w=.ok zJ w,aA PM=aA PM,∀w:World,(convert 25 9 (.slice none 0 0)).run prog w=.ok zJ w,∀w:World,(do eqGuard .eql 9 (.tmp 43) (.tmp 44) zJ zJ; binOp .eql 9 zJ zJ:Sem Value).run prog w=.ok (.bool true) w],.one (.im (.bool true))):=by kernel_rfl
theorem aDk (w:World):(convert 25 9 (.slice none 0 0)).run prog w=.ok zJ w:=run_convert_bytes_nil (P:=prog) w 25 5 underlying25 underlying5 0 0 9 underlying9
theorem Zt (z:ByteArray) (x y:Operand) (w:World):(do eqGuard .eql 9 x y (.string z) (.string z); binOp .eql 9 (.string z) (.string z):Sem Value).run prog w=.ok (.bool true) w:=by
 simp[eqGuard,binOp,go_sem,Op.stringOp]
theorem Lc:TY ((0,0),0)=41:=by kernel_rfl
theorem Jr:∀cs pre r,Ua (.many [.im (.slice none 0 0),.im (.int .i64 41)]) cs=some (pre,r)→bC pre→∀(args:List Value) (w:World),cT w cs args→bM prog 11 r args w:=by
 intro cs pre r hg hp args w ha;unfold Ua at hg;split at hg
 ·rename_i l;cases hg
  match args,ha with
  | [x],ha =>
   have e1:x=.agg (aA l).toArray:=ha.1;rw[e1,hp.1];exact aV aI (fun _ _=>XL 41) (aW _) func11 (Va ((0,0),0) 41) ⟨by decide,by decide,by decide,Lc,rfl,NZ (by decide),trivial⟩ (args:=[.agg (aA PM).toArray]) ⟨rfl,trivial⟩
  | [],ha=>exact ha.elim
  | _::_::_,ha=>exact ha.2.elim
 ·cases hg
theorem NR {w:World} {v:Value} {s:Nat} {e:Int} (hS:∀w',Below w.heap.size w w'→bM prog 9 (.many [.fl PM,.im (.int .i64 e)]) [.agg (aA [At.q s]).toArray,v] w'):bM prog 4 (.one (.im (.bool true))) [.agg (aA [At.q s]).toArray,v] w :=
 cG aI (fun _ _=>TabOkW.add (((((bU _).ad func8 (tD UK)).ad func11 Jr)).w _ _) func9 (by kernel_rfl) (by kernel_rfl) fun w' hw=>OJ (hS w' hw)) (dN w _ _ _) func4 (aFL w s v e) ⟨rfl,rfl,rfl,aDk,rfl,aDk,Zt _ _ _,trivial⟩ (args:=[.agg (aA [At.q s]).toArray,v]) ⟨rfl,rfl,trivial⟩
theorem QD (l:List Nat):aA (lD l)=l.map fun x=>Value.int .u8 (Int.ofNat x):=by
 induction l with
 | nil=>rfl
 | cons x r ih =>
  show [Value.int .u8 (Int.ofNat x)]++aA (lD r)=_;rw[ih];rfl
def jL (l:List Nat):Value:=.string (strOfNums (l.map Int.ofNat))
theorem aDj {w:World} {b C:Nat} {l:List Nat} {n:Nat} (hn:l.length=n) (hr:w.rangeAt b 0 (aA (lD l))):(convert 25 9 (aK b 0 n C)).run prog w=.ok (jL l) w :=
 run_convert_bytes_arg (P:=prog) w 25 5 underlying25 underlying5 b 0 n C (l.map Int.ofNat) (by rw[List.length_map]; exact hn) (fun i hi=>by
  refine hr i _ ?_;rw[QD,List.getElem?_map,List.getD_eq_getElem?_getD,List.getElem?_map,List.getElem?_eq_getElem (show i<l.length by omega)];rfl) 9 underlying9
theorem Cm {w:World} {b e sz n C:Nat} (h:AppAt w b e sz n C):∀j,w.frozen? ⟨b,j,none⟩=false:=fun j=>by
 obtain⟨cur,h0,_⟩:=h;unfold World.frozen?;simp only[h0];simp
theorem XD {w0:World} {v:Value} {s:Nat} {t:NS} (hS:∀w',Below w0.heap.size w0 w'→bM prog 9 (.many [.fl (kH t),.im (.int .i64 0)]) [.agg (aA [At.q s]).toArray,v] w') (h1:t.1.1<aH) (h2:t.1.2<aH) (h3:t.2<aH) (ht:TY t=0):bM prog 4 (.one (.im (.bool true))) [.agg (aA [At.q s]).toArray,v] w0:=by
 have hG:∀base w,bO prog (qG prog) base w:=fun _ _=>(aW _).w _ _
 have hT:∀base w,∀n d:Nat,TabOkW prog T0 base w:=fun _ _ _ _=>(bU _).w _ _
 have hW:∀base w,TabOkW prog (T0.add 8 (g0 (.one (.im (.bool true))))) base w:=fun _ _=>((bU _).ad func8 (tD UK)).w _ _
 have hnt:f4.ntmps=46:=aAu;refine cH func4 (cs:=[.v (.fl [.q s]),.v (.im v)]) (args:=[.agg (aA [At.q s]).toArray,v]) (c:=QK) rfl ⟨rfl,rfl,trivial⟩ (Nat.le_of_ble_eq_true (by kernel_rfl)) fun a w hA => ?_
 rw[hnt]at hA;rw[Gy];refine wp_seq (aB aI (hT _ _) (hG _ _) (aFO s v) trivial hA fun a w hA => ?_);refine wp_seq (aB aI (fun _ _=>TabOkW.add (hW _ _) func9 (by kernel_rfl) (by kernel_rfl) fun w' _=>lG w') (hG _ _) (aFN s v) trivial hA fun a w hA => ?_);refine wp_seq (aB aI (fun _ _=>TabOkW.add (hW _ _) func9 (by kernel_rfl) (by kernel_rfl) fun w' hw=>OJ (hS w' hw)) (hG _ _) (aFM s v t) ⟨rfl,rfl,trivial⟩ hA fun a w hA => ?_);refine wp_seq (bI (l:=List.range' 0 ((aD Xp).extract 0 1).size++(1::(List.range' 2 ((aD Xp).extract 2 7).size++[]))) (by kernel_rfl) ?_);refine aG (c:=tC T0 _) (hT _ _ 0) (hG _ _) (aAA t) trivial (by kernel_rfl) hA fun a w1 hA => ?_
 obtain⟨b5,hA⟩:=hA.at (k:=5) (l:=kH t) (by simp);have m5:Own w1 b5 (kH t):=hA.own (k:=5) (by simp) (by simp);have hbl:=hA.below;have t5:=hA.ptS (s:=5) (k:=5) (o:=0) (b:=b5) (by simp) (by simp);have t22:=hA.slotF (s:=22) (l:=kH t) (by simp);have hdf:=hA.defers;have hsz:=hA.size;clear hA;obtain⟨o1,ho1,⟨ts1,hop1⟩,hd1,hg1⟩:∃x,(aD Xp)[1]?=some x∧(∃ts,x.op=.call ⟨.value (.func 11),#[.tmp 22],ts⟩)∧x.dst=some 23∧x.guard=none:=⟨_,rfl,⟨_,rfl⟩,rfl,rfl⟩
 refine aZ ho1 hg1 (cF hop1 (vs:=[.agg (aA (kH t)).toArray]) (List.cons_eq_cons.2 ⟨cL t22,rfl⟩) (fun args=>bQ func11 (by kernel_rfl) (by kernel_rfl) args _) (rE h1 h2 h3 ht w1) fun e w2 hq => ?_);obtain⟨bA,CA',rfl,hrA,hgeA,hb2,hapA⟩:=hq;refine⟨_,rfl,?_⟩;rw[hd1];have hltA:bA<w2.heap.size:=by obtain⟨cur,h,_⟩:=hapA; exact (Array.getElem?_eq_some_iff.1 h).1
 have hS2:=iO (nt:=46) (w:=w2) (a:=a.put (some 23) (.tuple #[aK bA 0 64 CA',.int .i64 0])) (ts:=[(23,.tu [.im (aK bA 0 64 CA'),.im (.int .i64 0)]),(5,.im (ptV b5 0))]) hdf (by rw[aF]; exact hsz) (fun x hx β=>by
  simp only[List.mem_cons,List.not_mem_nil,or_false]at hx
  rcases hx with rfl|rfl
  ·exact aT _ _ _ (by rw[hsz]; decide)
  ·exact aS t5 (by simp))
 refine aG (c:=tC T0 _) (hT _ _ 0) (hG _ _) (aAz (aK bA 0 64 CA') (ptV b5 0)) trivial (by kernel_rfl) hS2 fun a w3 hA => ?_
 refine wp_seq (bI (l:=List.range' 0 ((aD Xo).extract 0 1).size++(1::(List.range' 2 ((aD Xo).extract 2 3).size++[]))) (by kernel_rfl) ?_);refine aG (c:=tC T0 _) (hT _ _ 0) (hG _ _) (aAy (aK bA 0 64 CA') (ptV b5 0)) trivial (by kernel_rfl) hA fun a w4 hA => ?_
 have hb4:=hA.below;have hr4:=bG hb4 hltA hrA;obtain⟨o2,ho2,hop2,hd2,hg2⟩:∃x,(aD Xo)[1]?=some x∧x.op=.convert 25 9 (.tmp 26)∧x.dst=some 27∧x.guard=none:=⟨_,rfl,rfl,rfl,rfl⟩
 have hcv:=aDj (C:=CA') (pT t) hr4;refine aZ ho2 hg2 (bZ (v:=jL (tJ t)) (w':=w4) (by simp[execOp,hop2,cL (hA.slot (s:=26) (v:=aK bA 0 64 CA') (by simp)),hcv]) ?_);rw[hd2];have hS4:=aP (nt:=46) (w:=w4) (a:=a.put (some 27) (jL (tJ t))) (ts:=[(27,jL (tJ t)),(7,aK bA 0 64 CA'),(5,ptV b5 0)]) hA.defers (by rw[aF]; exact hA.size) (fun x hx=>by
  simp only[List.mem_cons,List.not_mem_nil,or_false]at hx
  rcases hx with rfl|rfl|rfl
  ·exact aT _ _ _ (by rw[hA.size]; decide)
  ·exact aS (hA.slot (s:=7) (v:=aK bA 0 64 CA') (by simp)) (by simp)
  ·exact aS (hA.slot (s:=5) (v:=ptV b5 0) (by simp)) (by simp))
 clear hA hS2;have hlt4:bA<w4.heap.size:=Nat.lt_of_lt_of_le hltA hb4.size;have m54:=(m5.on hb2).on hb4;refine aG (c:=tC T0 _) (hT _ _ 0) (hG _ _) (aAx (aK bA 0 64 CA') (ptV b5 0) (jL (tJ t))) trivial (by kernel_rfl) hS4 fun a w5 hA => ?_
 refine wp_seq (bI (l:=List.range' 0 ((aD Xn).extract 0 1).size++(1::(List.range' 2 ((aD Xn).extract 2 7).size++[]))) (by kernel_rfl) ?_);refine aG (c:=tC T0 _) (hT _ _ 0) (dN w4 _ _ _) (aAw w4 t (aK bA 0 64 CA') (jL (tJ t)) b5) ⟨⟨m54.lt,m54.row⟩,rfl,trivial⟩ (by kernel_rfl) hA fun a w6 hA => ?_
 have hb6:=hA.below;have hr6:=bG hb6 hlt4 hr4;have hlt6:bA<w6.heap.size:=Nat.lt_of_lt_of_le hlt4 hb6.size;obtain⟨o3,ho3,⟨ts3,hop3⟩,hd3,hg3⟩:∃x,(aD Xn)[1]?=some x∧(∃ts,x.op=.call ⟨.value (.func 11),#[.tmp 29],ts⟩)∧x.dst=some 30∧x.guard=none:=⟨_,rfl,⟨_,rfl⟩,rfl,rfl⟩
 refine aZ ho3 hg3 (cF hop3 (vs:=[.agg (aA (kH t)).toArray]) (List.cons_eq_cons.2 ⟨cL (hA.slotF (s:=29) (l:=kH t) (by simp)),rfl⟩) (fun args=>bQ func11 (by kernel_rfl) (by kernel_rfl) args _) (rE h1 h2 h3 ht w6) fun e w7 hq => ?_);obtain⟨bB,CB,rfl,hrB,hgeB,hb7,hapB⟩:=hq;refine⟨_,rfl,?_⟩;rw[hd3];have hr7:=bG hb7 hlt6 hr6;have hlt7:bA<w7.heap.size:=Nat.lt_of_lt_of_le hlt6 hb7.size;have hltB:bB<w7.heap.size:=by obtain⟨cur,h,_⟩:=hapB; exact (Array.getElem?_eq_some_iff.1 h).1
 have hS7:=iO (nt:=46) (w:=w7) (a:=a.put (some 30) (.tuple #[aK bB 0 64 CB,.int .i64 0])) (ts:=[(30,.tu [.im (aK bB 0 64 CB),.im (.int .i64 0)]),(9,.im (jL (tJ t))),(7,.im (aK bA 0 64 CA'))]) hA.defers (by rw[aF]; exact hA.size) (fun x hx β=>by
  simp only[List.mem_cons,List.not_mem_nil,or_false]at hx
  rcases hx with rfl|rfl|rfl
  ·exact aT _ _ _ (by rw[hA.size]; decide)
  ·exact aS (hA.slot (s:=9) (v:=jL (tJ t)) (by simp)) (by simp)
  ·exact aS (hA.slot (s:=7) (v:=aK bA 0 64 CA') (by simp)) (by simp))
 clear hA hS4;refine aG (c:=tC T0 _) (hT _ _ 0) (hG _ _) (aAv (aK bB 0 64 CB) (aK bA 0 64 CA') (jL (tJ t))) trivial (by kernel_rfl) hS7 fun a w8 hA => ?_
 have hb8:=hA.below;have hr8:=bG hb8 hlt7 hr7;have hap8:=hapB.shape hA.shape;have hrB8:=bG hb8 hltB hrB;have oB:Own w8 bB (bj (xH t.1)++bj (bT t.2)):=⟨Nat.lt_of_lt_of_le hltB hb8.size,hrB8,Cm hap8⟩;have hH:=oB.holdsSl (k:=10) (nt:=46) (n:=64) (m:=CB) (a:=a) (ts:=[(9,jL (tJ t)),(7,aK bA 0 64 CA')]) hA.defers hA.size rfl (hA.slot (s:=10) (v:=aK bB 0 64 CB) (by simp)) (fun x hx=>by
  simp only[List.mem_cons,List.not_mem_nil,or_false]at hx
  rcases hx with rfl|rfl
  ·exact hA.slot (s:=9) (v:=jL (tJ t)) (by simp)
  ·exact hA.slot (s:=7) (v:=aK bA 0 64 CA') (by simp))
 clear hA hS7;refine wp_seq (aB aI (hT _ _) (hG _ _) (aFK CB bB w8.heap.size (xH t.1) (bT t.2) (aK bA 0 64 CA') (jL (tJ t))) trivial hH fun a w9 hA => ?_);refine wp_seq (bI (l:=List.range' 0 ((aD AE).extract 0 1).size++(1::(List.range' 2 ((aD AE).extract 2 3).size++(3::(List.range' 4 ((aD AE).extract 4 5).size++[]))))) (by kernel_rfl) ?_);refine aG (c:=tC T0 _) (hT _ _ 0) (hG _ _) (Se (aK bA 0 64 CA') (jL (tJ t))) trivial (by kernel_rfl) hA fun a w10 hA => ?_
 have hb10:=hA.below;have hAB:bA<bB:=by omega
 have hr10:=bG hb10 hAB hr8;obtain⟨o4,ho4,hop4,hd4,hg4⟩:∃x,(aD AE)[1]?=some x∧x.op=.convert 25 9 (.tmp 42)∧x.dst=some 43∧x.guard=none:=⟨_,rfl,rfl,rfl,rfl⟩
 have hcv2:=aDj (C:=CA') (pT t) hr10;refine aZ ho4 hg4 (bZ (v:=jL (tJ t)) (w':=w10) (by simp[execOp,hop4,cL (hA.slot (s:=42) (v:=aK bA 0 64 CA') (by simp)),hcv2]) ?_);rw[hd4];have hS10:=aP (nt:=46) (w:=w10) (a:=a.put (some 43) (jL (tJ t))) (ts:=[(43,jL (tJ t)),(9,jL (tJ t))]) hA.defers (by rw[aF]; exact hA.size) (fun x hx=>by
  simp only[List.mem_cons,List.not_mem_nil,or_false]at hx
  rcases hx with rfl|rfl
  ·exact aT _ _ _ (by rw[hA.size]; decide)
  ·exact aS (hA.slot (s:=9) (v:=jL (tJ t)) (by simp)) (by simp))
 clear hA hH;refine aG (c:=tC T0 _) (hT _ _ 0) (hG _ _) (Sd (jL (tJ t))) trivial (by kernel_rfl) hS10 fun a w11 hA => ?_
 have hb11:=hA.below;obtain⟨o5,ho5,⟨r5,hop5⟩,hd5,hg5⟩:∃x,(aD AE)[3]?=some x∧(∃r,x.op=.binOp .eql 9 (.tmp 43) (.tmp 44) r)∧x.dst=some 45∧x.guard=none:=⟨_,rfl,⟨_,rfl⟩,rfl,rfl⟩
 have hsq:=Zt (strOfNums ((tJ t).map Int.ofNat)) (.tmp 43) (.tmp 44) w11;have t43:=cL (hA.slot (s:=43) (v:=jL (tJ t)) (by simp));have t44:=cL (hA.slot (s:=44) (v:=jL (tJ t)) (by simp));refine aZ ho5 hg5 (bZ (v:=.bool true) (w':=w11) (by
  simp only[jL]at t43 t44;simp[execOp,hop5,t43,t44,eqGuard,binOp,Op.stringOp]) ?_)
 rw[hd5];have hS11:=aP (nt:=46) (w:=w11) (a:=a.put (some 45) (.bool true)) (ts:=[(45,.bool true)]) hA.defers (by rw[aF]; exact hA.size) (fun x hx=>by
  simp only[List.mem_cons,List.not_mem_nil,or_false]at hx
  rcases hx with rfl
  exact aT _ _ _ (by rw[hA.size]; decide))
 refine aG (c:=tC T0 _) (hT _ _ 0) (hG _ _) Sc trivial (by kernel_rfl) hS11 fun a w12 hA => ?_
 have hb12:=hA.below;have s1:=hbl.size;have s2:=hb2.size;have s4:=hb4.size;have s6:=hb6.size;have s7:=hb7.size;have s8:=hb8.size;have s10:=hb10.size;have s11:=hb11.size;refine wp_ret (cK (l:=[.im (.bool true)]) (r:=.one (.im (.bool true))) (by kernel_rfl) (by kernel_rfl) hA ⟨rfl,?_⟩);exact (((((((hbl.trans (hb2.mono s1)).trans (hb4.mono (by omega))).trans (hb6.mono (by omega))).trans (hb7.mono (by omega))).trans (hb8.mono (by omega))).trans (hb10.mono (by omega))).trans (hb11.mono (by omega))).trans (hb12.mono (by omega))
theorem QJ {w:World} {p:Option Addr} {N m s:Nat} {fm:Nat→Nat} (hb:BV w (.slice p N m) N fm) (hs:s<aH) (hDj:Dbj w):bM prog 4 (.one (.im (.bool true))) [.agg (aA [At.q s]).toArray,.slice p N m] w:=by
 by_cases hz:mF s=true
 rotate_left
 ·have hz:mF s=false:=by simpa using hz
  exact NR fun w' hw=>Ey (hb.on hw) hs (hDj.on hDj.lt hw) hz
 by_cases hN:4096<N
 ·exact NR fun w' hw=>Ez (hb.on hw) hs (hDj.on hDj.lt hw) hz hN
 obtain⟨q1,q2,q3⟩:=aFq s fm N;exact XD (fun w' hw=>Ew (hb.on hw) hs (hDj.on hDj.lt hw) hz (by omega)) q1 q2 q3 (Zs s fm N)
end Go.Proofs.YtpjlhhpjpnacmaaGreatDoor.Ex
namespace Go.Proofs.YtpjlhhpjpnacmaaGreatDoor
open Go.Proofs.Tryz
open Go.ChangeShapes Go.WideShapes Go.ChangeAt Go.RowKit
theorem own:ownKnob prog.godebug=none:=by kernel_rfl
theorem OC:laidOutB prog=true:=by kernel_rfl
theorem PQ:prog.cellsOf 22=1:=by kernel_rfl
theorem aAY {α:Type} (l:List α) (h:(⟨l⟩:Array α).size=4):∃a b c d,l=[a,b,c,d]:=by
 match l,h with
 | [a,b,c,d],_=>exact⟨a,b,c,d,rfl⟩
theorem nR {n:Int} (h:(Lit.int .u64 n).wf=true):∃k:Nat,n=(k:Int)∧k<18446744073709551616:=by
 obtain⟨h1,h2⟩:=bounds_u64 h;obtain⟨k,rfl⟩:=Int.eq_ofNat_of_zero_le h1;exact⟨k,rfl,by omega⟩
open Go.Deep Go.ChangeShapes Go.WideShapes Go.ChangeAt Go.RowKit
def nJ:List (String×DataW Unit):=[("math/bits.deBruijn64tab",Rows.laid_math_bits_deBruijn64tab)]
theorem Az (os:Os) (args:Array Value):laidMetH prog nJ ((World.doorLaid prog 400 os).forCall (fun _ _=>0) ⟨#[],args,[]⟩).memory :=
 laidMetH_of_parts3 (fuel:=8) (laidMet_of_run' 8 (by kernel_rfl) (by kernel_rfl)) (by kernel_rfl) (by kernel_rfl)
theorem Be:prog.globalNamed "math/bits.deBruijn64tab" = some 2:=by kernel_rfl
theorem Vp:(prog.globals[2]?).map (·.type)=some 271:=by kernel_rfl
theorem Bd:(Rows.laid_math_bits_deBruijn64tab:DataW Unit)=Lib.tabData .u8 (Lib.deBruijn64tab.map Int.ofNat):=by kernel_rfl
theorem SG:prog.cellsOf 271=64:=by kernel_rfl
theorem Vo:prog.cellsOf 5=1:=by kernel_rfl
theorem SF:(nJ.all fun x=>x.2.handleName?.isNone)=true:=by kernel_rfl
theorem FY {W:World} (h:laidMetH prog nJ W):Ex.Dbj W:=by
 rw[MakeChecks.laidMetH_plain _ _ _ SF]at h;have h2:laidMet prog [("math/bits.deBruijn64tab",Rows.laid_math_bits_deBruijn64tab)] W:=h;rw[Bd]at h2;have h3:=Lib.tabIs_of_head (g:=2) Be Vp underlying271 underlying5 Vo SG h2;intro j hj;have h4:=h3.cell Be j (by rw[List.length_map]; exact hj);rw[h4,List.getD_eq_getElem?_getD,List.getElem?_map,List.getD_eq_getElem?_getD,List.getElem?_eq_getElem hj];rfl
namespace Ex
theorem Ww {P:Program} {W:World} {base:Nat} {t n e:TypeId} {v:Value} (ht:P.underlying t=some (.array n e)) (h:Value.okWide P W .any base t v):∃cs,v=.agg cs∧cs.size=P.cellsOf t:=by
 obtain⟨cs,rfl,hs,_⟩:∃cs,v=.agg cs∧cs.size=P.cellsOf t∧Row.okWide P W .any base t cs:=by
  simpa[Value.okWide,ht]using h
 exact⟨cs,rfl,hs⟩
section
variable {H:Type} {enc:TypeId×Value→H} {W:World}
theorem Ha {base:Nat} {v:Value} {d:DataW H} {ps:List MemPlace} {pt:Array TypeId} {args:Array Value} (hval:∀(j:Nat) t v,pt[j]?=some t→args[j]?=some v→Value.okWide prog W .any base t v) (j:Nat) (hj:pt[j]?=some 24) (ha:args[j]?=some v)
  (h:DataW.Trod enc prog W 0 (fun _=>true) true 24 v d ps):∃x:Nat,x<aH∧v=.agg (aA [At.q x]).toArray:=by
 obtain⟨⟨l⟩,rfl,hs⟩:=Ww (t:=24) underlying24 (hval j 24 v hj ha);rw[show prog.cellsOf 24=4 by kernel_rfl]at hs;obtain⟨fuel,h⟩:=h;obtain⟨c0,c1,c2,c3,rfl⟩:=aAY l hs;obtain⟨y0,y1,y2,y3,m,hx,hy0,hy1,hy2,hy3⟩:=trod_array4 underlying24 PQ h;obtain⟨x0,e0,rfl,w0⟩:=DataW.trod_int underlying22 hy0;obtain⟨x1,e1,rfl,w1⟩:=DataW.trod_int underlying22 hy1;obtain⟨x2,e2,rfl,w2⟩:=DataW.trod_int underlying22 hy2;obtain⟨x3,e3,rfl,w3⟩:=DataW.trod_int underlying22 hy3;simp at e0 e1 e2 e3;obtain⟨a0,rfl,k0⟩:=nR w0;obtain⟨a1,rfl,k1⟩:=nR w1;obtain⟨a2,rfl,k2⟩:=nR w2;obtain⟨a3,rfl,k3⟩:=nR w3;subst e0 e1 e2 e3;have hv:aC a0 a1 a2 a3<115792089237316195423570985008687907853269984665640564039457584007913129639936:=by unfold aC; omega
 obtain⟨q0,q1',q2',q3⟩:=jF ⟨k0,k1,k2,k3⟩ hv rfl;refine⟨aC a0 a1 a2 a3,hv,?_⟩;show _=Value.agg (w4 (aC a0 a1 a2 a3)++[]).toArray;unfold w4;rw[←q0,←q1',←q2',←q3];rfl
end
end Ex
theorem PO:prog.cellsOf 5=1:=by kernel_rfl
theorem PP:prog.bytesOf 5=1:=by kernel_rfl
theorem DX {H:Type} {enc:TypeId×Value→H} {W:World} {o:Option Addr} {len cap:Nat} {d:DataW H} {ps:List MemPlace} (h:DataW.Trod enc prog W 0 (fun _=>true) true 25 (.slice o len cap) d ps) (hl:∀x∈ps,x.block<W.heap.size)
  (hsz:∀elems spare,d=.slice elems spare→(elems.length+spare.length)*prog.bytesOf 5≤reachBytes) :
  ∃f,Ex.BV W (.slice o len cap) len f∧len≤140737488355327:=by
 obtain⟨fuel,hf⟩:=h
 rcases open_ints underlying25 underlying5 PO hf with⟨hcs,hx⟩|⟨a,len',cap',zs,hcs,_,hl',hm,hz,hx,hcell,hwz⟩
 ·simp[Value.cells]at hcs;obtain⟨rfl,rfl,rfl⟩:=hcs;exact⟨fun _=>0,⟨none,0,rfl,Nat.le_refl _,fun _=>Nat.zero_lt_succ _,fun h=>by omega⟩,by omega⟩
 ·simp[Value.cells]at hcs;obtain⟨rfl,rfl,rfl⟩:=hcs;simp only[Prod.mk.injEq]at hx;obtain⟨rfl,rfl⟩:=hx;simp only[if_true]at hz;have hs:=hsz _ _ rfl;rw[PP]at hs;have hlen:len≤140737488355327:=by
   have e1:(lits (H:=H) .u8 (zs.take len)).length=len:=by simp[lits]; omega
   rw[e1]at hs;simp only[reachBytes]at hs;omega
  have hB:∀k,∃n:Nat,n<256∧zs.getD k 0=(n:Int):=fun k=>by
   by_cases hk:k<zs.length
   ·have h1:=bounds_u8 (hwz (zs[k]) (List.getElem_mem hk));refine⟨(zs[k]).toNat,by omega,?_⟩;rw[List.getD_eq_getElem?_getD,List.getElem?_eq_getElem hk];show zs[k]=_;omega
   ·exact⟨0,by omega,by rw[List.getD_eq_getElem?_getD,List.getElem?_eq_none (by omega)]; rfl⟩
  refine⟨fun k=>Classical.choose (hB k),⟨_,cap,rfl,hl',fun k=>(Classical.choose_spec (hB k)).1,fun h0 => ?_⟩,hlen⟩;obtain⟨b,off,spot⟩:=a;have hspot:spot=none:=by simpa[Addr.add]using World.cell?_spot (hcell 0 (by omega))
  subst hspot;have hb:b<W.heap.size:=hl (.cell b off) (MemPlace.mem_row.2 ⟨0,by omega,by simp⟩);refine⟨b,off,rfl,hb,fun k=>(Classical.choose_spec (hB k)).1,fun k hk => ?_⟩;have e2:=(Classical.choose_spec (hB k)).2;have e3:=hcell k (by omega);rw[e2]at e3;have e4:(⟨b,off,none⟩:Addr).add k=⟨b,off+k,none⟩:=by simp[Addr.add]
  rw[e4]at e3;exact e3
open Go.ChangeShapes Go.WideShapes Go.ChangeAt Go.RowKit
theorem AZ (os:Os) (started:os.Started) (H:Type) (enc:TypeId×Value→H) :
  ReturnsInHanded {} checked os 4 .any (fun w args=>(Rows.eddsaOwnSpec.pre enc prog f4 [] false w args∧laidMetH prog nJ w)∧sizedMet enc prog f4 (OpenSpec.ofChange Rows.eddsaOwnSpec) false w args)
   (Rows.eddsaOwnSpec.post enc prog f4 false true false false):=by
 refine returnsInHanded_of_change_and (C:=checked) (X:=fun w _=>laidMetH prog nJ w) (fun _ _ _ hh h=>h.of_heap hh) own started (by kernel_rfl) func4
  (ChangeSpec.witness_shaped (enc:=enc) (C:=checked) (os:=os) (X:=fun w _=>laidMetH prog nJ w) false (World.doorLaid prog 400 os) #[.agg #[.int .u64 0,.int .u64 0,.int .u64 0,.int .u64 0],.slice none 0 0] 8 rfl (World.shaped_of_RefB (by kernel_rfl) (by kernel_rfl)) (by kernel_rfl) (by kernel_rfl) (by kernel_rfl) (Az os _)) ?_
 intro W base args ds gs before hval0 hW _ hsz0 hL _;have hDj:Ex.Dbj W:=FY hL;have hval:∀(j:Nat) t v,f4.params[j]?=some t→args[j]?=some v→Value.okWide prog W .any base t v:=hval0
 have hW':=hW;obtain⟨p,q,hA0,hV,rfl,_,_⟩:=hW;have hA:DataW.TrodAll enc prog W 0 (fun _=>true) true f4.params.toList args.toList ds p:=hA0;have hsz:(DataW.weightsEach prog (f4.params.toList++Rows.eddsaOwnSpec.plain.varTypes prog) (ds++gs)).all (· ≤ reachBytes)=true:=hsz0;rw[params4]at hA hval hsz;obtain⟨v0,v1,d0,d1,p0,p1,rfl,rfl,rfl,h0,h1⟩:=trodAll_two hA;obtain⟨rfl,rfl⟩:=trodVars_none hV;obtain⟨y0,g0,rfl⟩:=Ex.Ha hval 0 rfl rfl h0;obtain⟨bo1,bn1,bc1,rfl⟩:=okWide_slice underlying25 (hval 1 _ _ rfl rfl);clear hA0 hval0;simp only[List.append_nil]at hW';have l0:∀x∈p0,x.block<W.heap.size:=fun x hx=>hW'.lt x (by simp[hx])
 have l1:∀x∈p1,x.block<W.heap.size:=fun x hx=>hW'.lt x (by simp[hx])
 obtain⟨f1,bv1,nz1⟩:=DX h1 l1 (fun elems spare e=>sized_slice hsz (j:=1) (t:=25) (e:=5) rfl (by rw[e]; rfl) underlying25);refine Calls.mono (Ex.QJ bv1 g0 hDj) fun e W' ⟨he,hbl⟩ => ?_
 subst he;have kB:∀{v d ps},DataW.Trod enc prog W 0 (fun _=>true) true 25 v d ps→(∀x∈ps,x.block<W.heap.size)→DataW.Trod enc prog W' 0 (fun b=>decide (b<W.heap.size)) true 25 v d ps :=
  fun h l=>Below.trod OC (by kernel_rfl) (of_decide_eq_true (by kernel_rfl)) h hbl l
 have kW:∀{v d ps},DataW.Trod enc prog W 0 (fun _=>true) true 24 v d ps→(∀x∈ps,x.block<W.heap.size)→DataW.Trod enc prog W' 0 (fun b=>decide (b<W.heap.size)) true 24 v d ps :=
  fun h l=>Below.trod OC (by kernel_rfl) (of_decide_eq_true (by kernel_rfl)) h hbl l
 exact⟨_,rfl,⟨_,_,_,[],_,[],hW',trodAll_mk1 (shut_bool underlying4 _),trodAll_mk2 (kW h0 l0) (kB h1 l1),rfl,hbl.frame _,fun h=>by cases h⟩⟩
theorem tF:Rows.EddsaOwnSaid :=
 OpenClaim.holds_of_wide 4 f4 rfl rfl rfl rfl rfl rfl rfl ⟨rfl,rfl,rfl,rfl,rfl⟩ rfl rfl rfl rfl rfl (by kernel_rfl) func4 (by kernel_rfl)
  (of_decide_eq_true (by kernel_rfl)) (by unfold Func.isWrapper; first|(rw[if_pos (by decide +kernel)]; kernel_rfl)|(rw[if_neg (by decide +kernel)]; exact⟨rfl,rfl⟩))
  (fun os started H enc _=>AZ os started H enc)
end Go.Proofs.YtpjlhhpjpnacmaaGreatDoor
