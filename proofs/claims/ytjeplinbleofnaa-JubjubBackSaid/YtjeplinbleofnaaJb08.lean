/- Jb08 -/
import Derived.Laws.BitsAllLaws
import Derived.Shelf.Spec.TrailingZeros
import Derived.Laws.ComplexArith
import Derived.LoopTactic
import Derived.Deep.DeepCutAuto
import Derived.StillTail
import Derived.RegionTactic
import Derived.KernelRfl
import Derived.Test.YtjeplinbleofnaaJb07
import Derived.Test.YtjeplinbleofnaaJb04
import Derived.Test.YtjeplinbleofnaaJb06
import Derived.Test.YtjeplinbleofnaaJb02
import Derived.Test.YtjeplinbleofnaaJb01
import Derived.Test.YtjeplinbleofnaaJb00
import Derived.Test.YtjeplinbleofnaaProg
set_option maxRecDepth 100000
set_option linter.unusedVariables false
set_option linter.unusedSimpArgs false
set_option linter.unnecessarySimpa false
noncomputable section
namespace Go.Proofs.Ytjeplinbleofnaa.Ex
open Go.Proofs.Try
open Go.RowKit
def mt (p:NJ):Nat→NJ
 | 0=>(0,1,1)
 | k+1=>wN (mt p k) p
theorem NR (p:NJ):∀k,CO (mt p k)
 | 0=>⟨cO,cP,cP⟩
 | k+1=>⟨aC _ _,aC _ _,aC _ _⟩
def KZ (p:NJ):List At:=[.q (mt p 0).1,.q (mt p 0).2.1,.q (mt p 0).2.2,.q (mt p 1).1,.q (mt p 1).2.1,.q (mt p 1).2.2,.q (mt p 2).1,.q (mt p 2).2.1,.q (mt p 2).2.2,.q (mt p 3).1,.q (mt p 3).2.1,.q (mt p 3).2.2,.q (mt p 4).1,.q (mt p 4).2.1,.q (mt p 4).2.2,.q (mt p 5).1,.q (mt p 5).2.1,.q (mt p 5).2.2,.q (mt p 6).1,.q (mt p 6).2.1,.q (mt p 6).2.2,.q (mt p 7).1,.q (mt p 7).2.1,.q (mt p 7).2.2,.q (mt p 8).1,.q (mt p 8).2.1,.q (mt p 8).2.2,.q (mt p 9).1,.q (mt p 9).2.1,.q (mt p 9).2.2,.q (mt p 10).1,.q (mt p 10).2.1,.q (mt p 10).2.2,.q (mt p 11).1,.q (mt p 11).2.1,.q (mt p 11).2.2,.q (mt p 12).1,.q (mt p 12).2.1,.q (mt p 12).2.2,.q (mt p 13).1,.q (mt p 13).2.1,.q (mt p 13).2.2,.q (mt p 14).1,.q (mt p 14).2.1,.q (mt p 14).2.2,.q (mt p 15).1,.q (mt p 15).2.1,.q (mt p 15).2.2]
def WZ (p:NJ) (n:Nat):Tab:=iJ.add 31 (XU (mt p (49-n)) p (mt p (49-n+1)))
theorem UN {p:NJ} (h:CO p) (n:Nat):TabOk prog (WZ p n):=eQ.add func31 (by kernel_rfl) (by kernel_rfl) (VW (NR p _) h rfl)
theorem QD (p:NJ):cL prog (qG prog) (fun n=>⟨fun _=>WZ p n,fun _=>true,fun _=>none⟩) f67 60 [.v (.fl (q3 p))]=some ([aA (q3 (mt p 0))=aA (q3 (mt p 0)),aA (q3 p)=aA (q3 p),aA (q3 (mt p 1))=aA (q3 (mt p 1)),aA (q3 p)=aA (q3 p),aA (q3 (mt p 2))=aA (q3 (mt p 2)),aA (q3 p)=aA (q3 p),aA (q3 (mt p 3))=aA (q3 (mt p 3)),aA (q3 p)=aA (q3 p),aA (q3 (mt p 4))=aA (q3 (mt p 4)),aA (q3 p)=aA (q3 p),aA (q3 (mt p 5))=aA (q3 (mt p 5)),aA (q3 p)=aA (q3 p),aA (q3 (mt p 6))=aA (q3 (mt p 6)),aA (q3 p)=aA (q3 p),aA (q3 (mt p 7))=aA (q3 (mt p 7)),aA (q3 p)=aA (q3 p),aA (q3 (mt p 8))=aA (q3 (mt p 8)),aA (q3 p)=aA (q3 p),aA (q3 (mt p 9))=aA (q3 (mt p 9)),aA (q3 p)=aA (q3 p),aA (q3 (mt p 10))=aA (q3 (mt p 10)),aA (q3 p)=aA (q3 p),aA (q3 (mt p 11))=aA (q3 (mt p 11)),aA (q3 p)=aA (q3 p),aA (q3 (mt p 12))=aA (q3 (mt p 12)),aA (q3 p)=aA (q3 p),aA (q3 (mt p 13))=aA (q3 (mt p 13)),aA (q3 p)=aA (q3 p),aA (q3 (mt p 14))=aA (q3 (mt p 14)),aA (q3 p)=aA (q3 p)],.one (.fl (KZ p))):=by kernel_rfl
def Ak:jO:=g1 JV fun p=>([p.1<RM,p.2.1<RM,p.2.2<RM],.one (.fl (KZ p)))
theorem ZK:∀cs pre r,Ak cs=some (pre,r)→aQ pre→∀(args:List Value) (w:World),bZ w cs args→bF prog 67 r args w :=
 lW (op:=fun p=>([p.1<RM,p.2.1<RM,p.2.2<RM],.one (.fl (KZ p)))) jC fun p h args w ha=>aK aY (fun n _=>UN ⟨h.1,h.2.1,h.2.2.1⟩ n) (aX _) func67 (QD p) ⟨rfl,rfl,rfl,rfl,rfl,rfl,rfl,rfl,rfl,rfl,rfl,rfl,rfl,rfl,rfl,rfl,rfl,rfl,rfl,rfl,rfl,rfl,rfl,rfl,rfl,rfl,rfl,rfl,rfl,rfl,trivial⟩ ha
def MN:Tab:=((iJ.add 67 Ak).add 68 QU).add 70 QQ
theorem NN:TabOk prog MN:=((eQ.add func67 (by kernel_rfl) (by kernel_rfl) ZK).add func68 (by kernel_rfl) (by kernel_rfl) QF).add func70 (by kernel_rfl) (by kernel_rfl) OV
def dF:Code:=(f38.body).getD .skip
def vG:Code:=Av (Av (cB (cA (cB (cB (cB (cB dF)))))))
theorem JI:dF=.seq (cA dF) (.seq (cA (cB dF)) (.seq (cA (cB (cB dF))) (.seq (cA (cB (cB (cB dF)))) (.seq (.seq (cA (cA (cB (cB (cB (cB dF)))))) (.block 0 (.loop vG))) (cB (cB (cB (cB (cB dF))))))))):=by kernel_rfl
def YC:List At:=[.f ⟨0,dS⟩,.f ⟨0,dS⟩,.f ⟨0,dS⟩]
def XP (p:NJ) (n:Nat):List Fact:=[.slot 2 (.pt 2 0),.row 2 true (q3 p),.slot 3 (.pt 3 0),.row 3 true [.q n],.slot 4 (.pt 4 0),.row 4 true YC]
def XO (p:NJ) (n:Nat):List Fact:=XP p n++[.slot 5 (.pt 5 0),.row 5 true (KZ p)]
def XN (p:NJ) (n:Nat) (s:NJ):List Fact:=XO p n++[.slot 6 (.pt 6 0),.row 6 true (q3 s)]
def XM (p:NJ) (n PL:Nat) (s:NJ):List Fact:=XN p n s++[.slot 7 (.im (iI PL))]
def DH (p:NJ) (n PL i:Nat) (s:NJ):List Fact:=XM p n PL s++[.slot 20 (.im (iI PL)),.slot 21 (.im (iI i))]
def OP (num:Nat→Option Value) (_:Nat):Cfg:=⟨fun _=>MN,fun _=>true,num⟩
def dk (s:NJ):Nat→NJ
 | 0=>s
 | j+1=>FY (dk s j)
theorem NY {s:NJ} (h:CO s):∀j,CO (dk s j)
 | 0=>h
 | j+1=>⟨aC _ _,aC _ _,aC _ _⟩
def OD (p s:NJ) (k m:Nat):Tab:=(MN.add 69 (ZA (dk s (46-m)) (dk s (46-m+1)))).add 31 (XU (dk s 4) (mt p k) (wN (dk s 4) (mt p k)))
theorem QB {p s:NJ} (hs:CO s) (k m:Nat):TabOk prog (OD p s k m):=(NN.add func69 (by kernel_rfl) (by kernel_rfl) (ZJ (NY hs _) rfl)).add func31 (by kernel_rfl) (by kernel_rfl) (VW (NY hs _) (NR p _) rfl)
def Bo (p s:NJ) (PL i k m:Nat):Cfg:=⟨fun _=>OD p s k m,fun _=>true,assoc [(22,.bool true),(30,iI (PL-1)),(32,iI (PL-1-i)),(35,iI ((PL-1-i)*4)),(38,.int .u64 (Int.ofNat k)),(44,iI (i+1))]⟩
def SX (s:NJ):Prop:=aA (q3 s)=aA (q3 s)
def Bn (p s:NJ) (n PL i k:Nat):List Prop:=[bH .lss .i64 (Int.ofNat i) (Int.ofNat PL)=some (.bool true),SX s,SX (dk s 1),SX (dk s 2),SX (dk s 3),bH .sub .i64 (Int.ofNat PL) 1=some (iI (PL-1)),bH .sub .i64 (Int.ofNat (PL-1)) (Int.ofNat i)=some (iI (PL-1-i)),bH .mul .i64 (Int.ofNat (PL-1-i)) 4=some (iI ((PL-1-i)*4)),(PL-1-i)*4<9223372036854775808,bH .rem .u64 (fw (wv n/2^((PL-1-i)*4)) 0:Nat) 16=some (.int .u64 (Int.ofNat k)),Int.ofNat k=Int.ofNat k,k<16,SX (dk s 4),SX (mt p k),bH .add .i64 (Int.ofNat i) 1=some (iI (i+1))]
theorem TY (w:World) (p s:NJ) (n PL i:Nat):∀k,k<16→dP prog { qG prog with x:=xO w (assoc [(41,k)]) (fun _=>none) (fun _=>none) } f38.ntmps (Bo p s PL i k) 60 vG (DH p n PL i s) (DH p n PL (i+1) (wN (dk s 4) (mt p k)))=some (Bn p s n PL i k,.nrm,DH p n PL (i+1) (wN (dk s 4) (mt p k)))
 | 0,_=>by kernel_rfl
 | 1,_=>by kernel_rfl
 | 2,_=>by kernel_rfl
 | 3,_=>by kernel_rfl
 | 4,_=>by kernel_rfl
 | 5,_=>by kernel_rfl
 | 6,_=>by kernel_rfl
 | 7,_=>by kernel_rfl
 | 8,_=>by kernel_rfl
 | 9,_=>by kernel_rfl
 | 10,_=>by kernel_rfl
 | 11,_=>by kernel_rfl
 | 12,_=>by kernel_rfl
 | 13,_=>by kernel_rfl
 | 14,_=>by kernel_rfl
 | 15,_=>by kernel_rfl
 | k+16,h=>absurd h (by omega)
theorem TX (p:NJ) (n:Nat):dP prog (qG prog) f38.ntmps (OP fun _=>none) 40 (cA dF) (kN 0 [.v (.fl (q3 p)),.v (.fl [.q n])]) (XP p n)=some ([],.nrm,XP p n):=by kernel_rfl
theorem TW (p:NJ) (n:Nat):dP prog (qG prog) f38.ntmps (OP fun _=>none) 40 (cA (cB dF)) (XP p n) (XO p n)=some ([p.1<RM,p.2.1<RM,p.2.2<RM],.nrm,XO p n):=by kernel_rfl
theorem TU (p:NJ) (n:Nat):dP prog (qG prog) f38.ntmps (OP fun _=>none) 40 (cA (cB (cB dF))) (XO p n) (XN p n (0,1,1))=some ([],.nrm,XN p n (0,1,1)):=by kernel_rfl
theorem TT (p:NJ) (n PL:Nat):dP prog (qG prog) f38.ntmps (OP (assoc [(17,iI (jY n+4)),(18,iI (jY n+4-1)),(19,iI PL)])) 40 (cA (cB (cB (cB dF)))) (XN p n (0,1,1)) (XM p n PL (0,1,1))=some ([bH .add .i64 (jY n:Nat) 4=some (iI (jY n+4)),bH .sub .i64 (Int.ofNat (jY n+4)) 1=some (iI (jY n+4-1)),bH .quo .i64 (Int.ofNat (jY n+4-1)) 4=some (iI PL)],.nrm,XM p n PL (0,1,1)):=by kernel_rfl
theorem TS (p:NJ) (n PL:Nat):dP prog (qG prog) f38.ntmps (OP fun _=>none) 40 (cA (cA (cB (cB (cB (cB dF)))))) (XM p n PL (0,1,1)) (DH p n PL 0 (0,1,1))=some ([],.nrm,DH p n PL 0 (0,1,1)):=by kernel_rfl
theorem OO (p:NJ) (n PL i:Nat) (s:NJ):dP prog (qG prog) f38.ntmps (OP (assoc [(22,.bool false)])) 60 vG (DH p n PL i s) (DH p n PL i s)=some ([bH .lss .i64 (Int.ofNat i) (Int.ofNat PL)=some (.bool false)],.ex 0,DH p n PL i s):=by kernel_rfl
theorem JH (p:NJ) (n PL i:Nat) (s:NJ):dP prog (qG prog) f38.ntmps (OP fun _=>none) 40 (cB (cB (cB (cB (cB dF))))) (DH p n PL i s) [.slot 4 (.pt 4 0),.row 4 true (q3 s)]=some ([],.rt,[.slot 4 (.pt 4 0),.row 4 true (q3 s)]):=by kernel_rfl
def SZ (n pl:Nat):Nat:=fw (wv n/2^(pl*4)) 0%16
def SQ (p:NJ) (n PL:Nat):Nat→NJ
 | 0=>(0,1,1)
 | i+1=>wN (dk (SQ p n PL i) 4) (mt p (SZ n (PL-1-i)))
theorem OS (p:NJ) (n PL:Nat):∀i,CO (SQ p n PL i)
 | 0=>⟨cO,cP,cP⟩
 | i+1=>⟨aC _ _,aC _ _,aC _ _⟩
theorem KT {x:Nat} (h:x<18446744073709551616):bH .rem .u64 (x:Nat) 16=some (.int .u64 (Int.ofNat (x%16))):=by
 show (if (16:Int)=0 then none else some (Value.int .u64 ((Int.ofNat x).tmod 16)))=_;rw[if_neg (by decide)];rfl
def nK (n:Nat):Nat:=(jY n+3)/4
theorem PQ (n:Nat):nK n≤64:=by
 have:=zA n;unfold nK;omega
def oQ (p:NJ) (n:Nat):NJ:=SQ p n (nK n) (nK n)
theorem qL (p:NJ) (n:Nat) (hp:CO p) (args:List Value) (w0:World) (ha:bZ w0 [.v (.fl (q3 p)),.v (.fl [.q n])] args):bF prog 38 (.one (.fl (q3 (oQ p n)))) args w0:=by
 have hG:dA prog (qG prog) w0.heap.size w0:=(aX _).w _ _;have hT:∀n d:Nat,TabOkW prog MN w0.heap.size w0:=fun _ _=>NN.w _ _
 refine kE func38 (c:=dF) rfl ha (Nat.le_of_ble_eq_true (by kernel_rfl)) fun a w' hA => ?_
 have hl:=zA n;have hPL:=PQ n;rw[JI];refine wp_seq (aN aY hT hG (TX p n) trivial hA fun a w' hA => ?_);refine wp_seq (aN aY hT hG (TW p n) ⟨hp.1,hp.2.1,hp.2.2,trivial⟩ hA fun a w' hA => ?_);refine wp_seq (aN aY hT hG (TU p n) trivial hA fun a w' hA => ?_);refine wp_seq (aN aY hT hG (TT p n (nK n)) ⟨NQ (k:=4) (by omega),FE (k:=1) (by omega) (by omega),US (k:=4) (by omega) (by omega),trivial⟩ hA fun a w' hA => ?_);refine wp_seq (wp_seq (aN aY hT hG (TS p n (nK n)) trivial hA fun a w' hA => ?_));refine wp_block ?_;refine QE aY (fun i=>DH p n (nK n) i (SQ p n (nK n) i)) (nK n) (fun i hi => ?_) (.ex 0) (by simp) (DH p n (nK n) (nK n) (oQ p n)) ⟨_,_,_,_,hG,hT,OO p n (nK n) (nK n) _,KV (Nat.le_refl _),trivial⟩ hA fun a w hA => ?_
 ·exact⟨_,_,_,_,NA w0 _ _ _,fun m _=>(QB (p:=p) (OS p n (nK n) i) (SZ n (nK n-1-i)) m).w _ _,TY w0 p (SQ p n (nK n) i) n (nK n) i (SZ n (nK n-1-i)) (Nat.mod_lt _ (by decide)),KU hi,rfl,rfl,rfl,rfl,FE (k:=1) (by omega) (by omega),FE (by omega) (by omega),UT (k:=4) (by omega),by omega,KT (dN _).1,rfl,Nat.mod_lt _ (by decide),rfl,rfl,NQ (k:=1) (by omega),trivial⟩
 ·show (cB (cB (cB (cB (cB dF))))).wp _ _ _ _;exact aN aY hT hG (JH p n (nK n) (nK n) _) trivial hA fun a w' hA=>oA (l:=[.fl (q3 (oQ p n))]) (r:=.one (.fl (q3 (oQ p n)))) (by kernel_rfl) (by kernel_rfl) hA
theorem JRep.lt {p:NJ} {P:JP} (h:JRep p P):CO p:=⟨h.x,h.y,h.z⟩
theorem FJ {p:NJ} {P:JP} (h:JRep p P):∀k,JRep (mt p k) (gH.grp.ns k P)
 | 0=>wO
 | k+1=>(FJ h k).pl h
theorem RK {s:NJ} {P:JP} {m:Nat} (h:JRep s (gH.grp.ns m P)):JRep (dk s 4) (gH.grp.ns (16*m) P):=by
 have h4:=h.db.db.db.db;rw[←gH.grp.ns_add,←gH.grp.ns_add,←gH.grp.ns_add,←gH.grp.ns_add,show m+m+(m+m)+(m+m+(m+m))+(m+m+(m+m)+(m+m+(m+m)))=16*m by omega]at h4;exact h4
theorem Bs (x:Nat):fw x 0=x%18446744073709551616:=by
 unfold fw;rw[Nat.pow_zero,Nat.div_one]
theorem yK {p:NJ} {P:JP} (h:JRep p P) (n PL:Nat) (hn:wv n<2^(4*PL)):∀i,i≤PL→JRep (SQ p n PL i) (gH.grp.ns (wv n/2^(4*(PL-i))) P)
 | 0,_=>by
  rw[Nat.sub_zero,Nat.div_eq_of_lt hn];exact wO
 | i+1,hi=>by
  have ih:=(RK (yK h n PL hn i (by omega))).pl (FJ h (SZ n (PL-1-i)));rw[←gH.grp.ns_add]at ih;have e1:SZ n (PL-1-i)=wv n/2^(4*(PL-(i+1)))%16:=by
   unfold SZ;rw[Bs,show (PL-1-i)*4=4*(PL-(i+1)) by omega];omega
  have e2:wv n/2^(4*(PL-i))=wv n/2^(4*(PL-(i+1)))/16:=by
   rw[show 4*(PL-i)=4*(PL-(i+1))+4 by omega,Nat.pow_add,←Nat.div_div_eq_div_mul]
  rw[e1,e2]at ih;rw[show wv n/2^(4*(PL-(i+1)))=16*(wv n/2^(4*(PL-(i+1)))/16)+wv n/2^(4*(PL-(i+1)))%16 by omega];rw[←e1]at ih ⊢;exact ih
theorem mL {p:NJ} {P:JP} (h:JRep p P) (n:Nat):JRep (oQ p n) (gH.grp.ns (wv n) P):=by
 have h1:=yK h n (nK n) (Nat.lt_of_lt_of_le (rD n).1 (Nat.pow_le_pow_right (by decide) (by unfold nK; omega))) (nK n) (Nat.le_refl _);rw[Nat.sub_self,Nat.mul_zero,Nat.pow_zero,Nat.div_one]at h1;exact h1
def oZ (p:NP) (n:Nat):NP:=tld (oQ (p.1,p.2,1) n)
theorem yZ {p:NP} (hp:OnJ p.1 p.2) (n:Nat):oZ p n=cj (gH.grp.ns (wv n) (jp hp)):=(mL (lE hp) n).tld
def Ai:jO:=g2 JV oR fun p n=>([p.1<RM,p.2.1<RM,p.2.2<RM],.one (.fl (q3 (oQ p n))))
theorem ZH:∀cs pre r,Ai cs=some (pre,r)→aQ pre→∀(args:List Value) (w:World),bZ w cs args→bF prog 38 r args w :=
 GF (op:=fun p n=>([p.1<RM,p.2.1<RM,p.2.2<RM],.one (.fl (q3 (oQ p n))))) jC cN fun p n h args w ha=>qL p n ⟨h.1,h.2.1,h.2.2.1⟩ args w ha
theorem VE (p:NJ):cL prog (qG prog) (fun n=>⟨fun _=>iJ,fun _=>true,fun _=>none⟩) f43 60 [.v (.fl (q3 p))]=some ([aA [At.q p.1]=aA [At.f ⟨0,dS⟩],aA [At.q p.2.1]=aA [At.q p.2.2]],.one (.im (.bool true))):=by kernel_rfl
theorem VG (p:NJ):cL prog (qG prog) (fun n=>⟨fun _=>iJ,fun s=>Nat.beq s 6,fun _=>none⟩) f43 60 [.v (.fl (q3 p))]=some ([aA [At.q p.1]=aA [At.f ⟨0,dS⟩],aA [At.q p.2.1]≠aA [At.q p.2.2]],.one (.im (.bool false))):=by kernel_rfl
theorem VF (p:NJ):cL prog (qG prog) (fun n=>⟨fun _=>iJ,fun _=>false,fun _=>none⟩) f43 60 [.v (.fl (q3 p))]=some ([aA [At.q p.1]≠aA [At.f ⟨0,dS⟩]],.one (.im (.bool false))):=by kernel_rfl
theorem wP (p:NJ) (hp:CO p) (args:List Value) (w:World) (ha:bZ w [.v (.fl (q3 p))] args):bF prog 43 (.one (.im (.bool (iC p)))) args w:=by
 by_cases h1:p.1=0
 ·by_cases h2:p.2.1=p.2.2
  ·rw[show iC p=true by unfold iC; rw[Bool.and_eq_true]; exact⟨by rw[h1]; rfl,by rw[h2]; exact Nat.beq_refl _⟩];exact aK aY (fun _ _=>eQ) (aX _) func43 (VE p) ⟨by rw[h1]; rfl,by rw[h2],trivial⟩ ha
  ·rw[show iC p=false by unfold iC; rw[Bool.and_eq_false_iff]; exact Or.inr (Bool.eq_false_iff.2 fun q=>h2 (Nat.eq_of_beq_eq_true q))];exact aK aY (fun _ _=>eQ) (aX _) func43 (VG p) ⟨by rw[h1]; rfl,fun e=>h2 (XV hp.2.1 hp.2.2 e),trivial⟩ ha
 ·rw[show iC p=false by unfold iC; rw[Bool.and_eq_false_iff]; exact Or.inl (Bool.eq_false_iff.2 fun q=>h1 (Nat.eq_of_beq_eq_true q))];exact aK aY (fun _ _=>eQ) (aX _) func43 (VF p) ⟨fun e=>h1 (XV hp.1 cO e),trivial⟩ ha
def VK (b:Bool):jO:=g1 JV fun p=>([p.1<RM,p.2.1<RM,p.2.2<RM,iC p=b],.one (.im (.bool b)))
theorem VY (b:Bool):∀cs pre r,VK b cs=some (pre,r)→aQ pre→∀(args:List Value) (w:World),bZ w cs args→bF prog 43 r args w :=
 lW (op:=fun p=>([p.1<RM,p.2.1<RM,p.2.2<RM,iC p=b],.one (.im (.bool b)))) jC fun p h args w ha=>by
  have h':=wP p ⟨h.1,h.2.1,h.2.2.1⟩ args w ha;rw[h.2.2.2.1]at h';exact h'
theorem VB:lJ<FP.M:=of_decide_eq_true (by kernel_rfl)
theorem WQ:bX<FP.M:=of_decide_eq_true (by kernel_rfl)
theorem WP:bY<FP.M:=of_decide_eq_true (by kernel_rfl)
theorem JU:cL prog (qG prog) (fun n=>⟨fun _=>iJ,fun _=>true,fun _=>none⟩) f20 60 []=some ([],.one (.fl [.f ⟨lJ,VB⟩])):=by kernel_rfl
theorem DX:cL prog (qG prog) (fun n=>⟨fun _=>iJ,fun _=>true,fun _=>none⟩) f18 60 []=some ([],.one (.fl [.f ⟨bX,WQ⟩,.f ⟨bY,WP⟩])):=by kernel_rfl
theorem ER:aA [At.f ⟨lJ,VB⟩]=aA [At.q lJ]:=rfl
theorem CD:aA [At.f ⟨bX,WQ⟩,.f ⟨bY,WP⟩]=aA [At.q bX,.q bY]:=rfl
theorem nM (w:World):bF prog 20 (.one (.fl [.q lJ])) [] w:=by
 have h:=aK aY (fun _ _=>eQ) (aX _) func20 JU trivial (w:=w) (args:=[]) trivial;unfold bF;rw[show RV.den (.one (.fl [.q lJ]))=Value.agg (aA [At.q lJ]).toArray from rfl,←ER];exact h
theorem mB (w:World):bF prog 18 (.one (.fl [.q bX,.q bY])) [] w:=by
 have h:=aK aY (fun _ _=>eQ) (aX _) func18 DX trivial (w:=w) (args:=[]) trivial;unfold bF;rw[show RV.den (.one (.fl [.q bX,.q bY]))=Value.agg (aA [At.q bX,.q bY]).toArray from rfl,←CD];exact h
def qI (b c:Bool):Tab:=(((IY b).add 38 Ai).add 43 (VK c)).add 20 (g0 (.one (.fl [.q lJ])))
theorem nP (b c:Bool):TabOk prog (qI b c):=(((FB b).add func38 (by kernel_rfl) (by kernel_rfl) ZH).add func43 (by kernel_rfl) (by kernel_rfl) (VY c)).add func20 (by kernel_rfl) (by kernel_rfl) (nZ nM)
theorem UV (p:NP) (n:Nat):cL prog (qG prog) (fun n=>⟨fun _=>qI false true,fun _=>true,fun _=>none⟩) f11 60 [.v (.fl [.q p.1,.q p.2]),.v (.fl [.q n])]=some ([p.1<bE,p.2<bE,kP p.1 p.2=false],.many [.fl oS,.im (.int .i64 41)]):=by kernel_rfl
theorem UU (p:NP) (n:Nat):cL prog (qG prog) (fun n=>⟨fun _=>qI true true,fun _=>true,fun _=>none⟩) f11 60 [.v (.fl [.q p.1,.q p.2]),.v (.fl [.q n])]=some ([p.1<bE,p.2<bE,kP p.1 p.2=true,p.1<RM,p.2<RM,1<RM,(oQ (p.1,p.2,1) n).1<RM,(oQ (p.1,p.2,1) n).2.1<RM,(oQ (p.1,p.2,1) n).2.2<RM,(oQ (p.1,p.2,1) n).2.2≠0],dW (oZ p n) 0):=by kernel_rfl
theorem WH (p:NP):cL prog (qG prog) (fun n=>⟨fun _=>qI false true,fun _=>true,fun _=>none⟩) f16 60 [.v (.fl [.q p.1,.q p.2])]=some ([p.1<bE,p.2<bE,kP p.1 p.2=false],.one (.im (.int .i64 41))):=by kernel_rfl
theorem WF (p:NP):cL prog (qG prog) (fun n=>⟨fun _=>qI true true,fun _=>true,fun _=>none⟩) f16 60 [.v (.fl [.q p.1,.q p.2])]=some ([p.1<bE,p.2<bE,kP p.1 p.2=true,p.1<RM,p.2<RM,1<RM,(oQ (p.1,p.2,1) lJ).1<RM,(oQ (p.1,p.2,1) lJ).2.1<RM,(oQ (p.1,p.2,1) lJ).2.2<RM,iC (oQ (p.1,p.2,1) lJ)=true],.one (.im (.int .i64 0))):=by kernel_rfl
theorem WG (p:NP):cL prog (qG prog) (fun n=>⟨fun _=>qI true false,fun _=>true,fun _=>none⟩) f16 60 [.v (.fl [.q p.1,.q p.2])]=some ([p.1<bE,p.2<bE,kP p.1 p.2=true,p.1<RM,p.2<RM,1<RM,(oQ (p.1,p.2,1) lJ).1<RM,(oQ (p.1,p.2,1) lJ).2.1<RM,(oQ (p.1,p.2,1) lJ).2.2<RM,iC (oQ (p.1,p.2,1) lJ)=false],.one (.im (.int .i64 111))):=by kernel_rfl
theorem nQ (p:NP) (n:Nat) (hp:w2 p) (args:List Value) (w:World) (ha:bZ w [.v (.fl (q2 p)),.v (.fl (q1 n))] args):bF prog 11 (if kP p.1 p.2=true then dW (oZ p n) 0 else dW (0,0) 41) args w:=by
 cases h:kP p.1 p.2
 ·exact aK aY (fun _ _=>nP _ _) (aX _) func11 (UV p n) ⟨hp.1,hp.2,h,trivial⟩ ha
 ·have h1:=qZ.1 h;have hr:=mL (lE h1) n;exact aK aY (fun _ _=>nP _ _) (aX _) func11 (UU p n) ⟨hp.1,hp.2,h,h1.1.1,h1.1.2,cP,hr.x,hr.y,hr.z,hr.nz,trivial⟩ ha
def eI (p:NP):Int:=if kP p.1 p.2=true then (if iC (oQ (p.1,p.2,1) lJ)=true then 0 else 111)else 41
theorem jJ (p:NP) (hp:w2 p) (args:List Value) (w:World) (ha:bZ w [.v (.fl (q2 p))] args):bF prog 16 (.one (.im (.int .i64 (eI p)))) args w:=by
 unfold eI;cases h:kP p.1 p.2
 ·exact aK aY (fun _ _=>nP _ _) (aX _) func16 (WH p) ⟨hp.1,hp.2,h,trivial⟩ ha
 ·have h1:=qZ.1 h;have hr:=mL (lE h1) lJ;rw[if_pos rfl];cases h2:iC (oQ (p.1,p.2,1) lJ)
  ·exact aK aY (fun _ _=>nP _ _) (aX _) func16 (WG p) ⟨hp.1,hp.2,h,h1.1.1,h1.1.2,cP,hr.x,hr.y,hr.z,h2,trivial⟩ ha
  ·exact aK aY (fun _ _=>nP _ _) (aX _) func16 (WF p) ⟨hp.1,hp.2,h,h1.1.1,h1.1.2,cP,hr.x,hr.y,hr.z,h2,trivial⟩ ha
theorem NC:wv lJ=lJ:=by kernel_rfl
theorem rW {p:NP} (h:OnJ p.1 p.2):eI p=if gH.grp.ns lJ (jp h)=gH.grp.zero then 0 else 111:=by
 unfold eI;rw[if_pos (EX h)];have hr:=mL (lE h) lJ;rw[NC]at hr
 by_cases e:gH.grp.ns lJ (jp h)=gH.grp.zero
 ·rw[if_pos e,if_pos ((kC hr).2 e)]
 ·rw[if_neg e,if_neg fun q=>e ((kC hr).1 q)]
theorem ID {p:NP} (h:¬OnJ p.1 p.2):eI p=41:=by
 unfold eI;rw[if_neg fun q=>h (qZ.1 q)]
theorem IC:cj gH.grp.zero=(0,1):=rfl
def x3 (T:Tab3) (T4:Tab4) (gen:Nat→Option Value) (mks:Nat→Option (Nat×List At)):Ext:={ Ext.none with T3:=T,T4:=T4,gen:=gen,mks:=mks }
def Bb (op:BinOp) (t:Nat) (x y:Operand) (v u r:Value):Prop:=∀w:World,(do eqGuard op t x y v u; binOp op t v u:Sem Value).run prog w=.ok r w
theorem SH {t:Nat} {x y:Operand} {a b:Nat} (ha:a<256) (hb:b<256):Bb .or t x y (.int .u8 (Int.ofNat a)) (.int .u8 (Int.ofNat b)) (.int .u8 (Int.ofNat (a ||| b))):=fun w=>by
 have h:=u8_or_nat a b ha hb;simp only[Int.ofNat_eq_natCast];exact congrArg (fun z=>Result.ok (Value.int .u8 z) w) h
set_option maxHeartbeats 1000000 in
theorem DT (b1 o1 c1 b2 o2 c2 n:Nat) (hn:n<4611686018427387904) (P:Nat→Int) (w:World) (h1:∀k,k<n→w.cell? ⟨b1,o1+k,none⟩=some (.int .u8 (P k))) (h2:∀k,k<n→w.cell? ⟨b2,o2+k,none⟩=some (.int .u8 (P k))) :
  Calls prog 28 #[.slice (some ⟨b1,o1,none⟩) n c1,.slice (some ⟨b2,o2,none⟩) n c2] w fun e w'=>e=.returned (.bool true)∧Below w.heap.size w w':=by
 have H1:=Lib.hid h1;have H2:=Lib.hid h2;clear h1 h2;have tn:((n:Int) != (n:Int))=false:=by simp
 go_enter func28,ntmps28
 go_wp2_with fail
 go_loopw [5] (fun x wr=>∃k m:Nat,k≤n∧x=.int .i64 k∧wr=w.drewN m) (fun x _=>n-(intOf x).toNat)
 case atStart=>exact⟨0,0,by omega,rfl,rfl⟩
 case round =>
  obtain⟨k,m,hk,rfl,rfl⟩:=hrel
  by_cases hlt:k<n
  ·have e1:(w.drewN m).cell? ⟨b1,o1+k,none⟩=_:=H1.out k hlt;have e2:(w.drewN m).cell? ⟨b2,o2+k,none⟩=_:=H2.out k hlt;have e3:=H1.out k hlt;have e4:=H2.out k hlt;have t1:decide ((k:Int)<(n:Int))=true:=decide_eq_true (by omega);generalize P k=p at *;go_wp2_with fail
   go_quiet (fail)
   go_wp2_with fail
   go_roundw
   case rel=>exact⟨k+1,_,by omega,by go_num,rfl⟩
   case measure=>first|(simp[intOf]; done)|(simp[intOf]; omega)
  ·obtain rfl:k=n:=by omega
   have t1:decide ((k:Int)<(k:Int))=false:=decide_eq_false (by omega);go_wp2_with fail;go_ret;exact⟨rfl,aV _ _ _⟩
def YA (l:List At) (n:Nat) (P:Nat→Int):Prop:=∀k,k<n→(aA l)[k]?=some (.int .u8 (P k))
def QH:CA→Option (List At×Nat)
 | .s l n _=>some (l,n)
 | .so l n=>some (l,n)
 | _=>none
theorem zB {c:CA} {l:List At} {n:Nat} (h:QH c=some (l,n)) {w:World} {v:Value} (hc:c.ok w v):∃b o m,v=.slice (some ⟨b,o,none⟩) n m∧w.rangeAt b o (aA l):=by
 cases c with
 | v x=>cases h
 | p=>cases h
 | s l' n' m =>
  cases h;obtain⟨b,o,e,_,hr⟩:=hc;exact⟨b,o,m,e,hr⟩
 | so l' n' =>
  cases h;obtain⟨b,o,m,e,_,hr⟩:=hc;exact⟨b,o,m,e,hr⟩
def GD:jO
 | [c,d]=>match QH c,QH d with
  | some (l,n),some (l',n')=>some ([n'=n,n<4611686018427387904,∃P,YA l n P∧YA l' n P],.one (.im (.bool true)))
  | _,_=>none
 | _=>none
theorem GC:∀cs pre r,GD cs=some (pre,r)→aQ pre→∀(args:List Value) (w:World),bZ w cs args→bF prog 28 r args w:=by
 intro cs pre r hg hp args w ha;unfold GD at hg;split at hg
 ·rename_i c d;split at hg
  ·rename_i l n l' n' h1 h2;cases hg;obtain⟨rfl,hn,⟨P,hl,hl'⟩,_⟩:=hp
   match args,ha with
   | [u,v],ha =>
    obtain⟨b1,o1,m1,rfl,r1⟩:=zB h1 (by have:=ha; cases c<;>exact this.1);obtain⟨b2,o2,m2,rfl,r2⟩:=zB h2 (by have:=ha; cases c<;>cases d<;>exact this.2.1);exact DT b1 o1 m1 b2 o2 m2 _ hn P w (fun k hk=>r1 k _ (hl k hk)) (fun k hk=>r2 k _ (hl' k hk))
   | [],ha=>cases c<;>exact ha.elim
   | [_],ha=>cases c<;>cases d<;>exact ha.2.elim
   | _::_::_::_,ha=>cases c<;>cases d<;>exact ha.2.2.elim
  ·cases hg
 ·cases hg
def DR:List (Nat×TV)→List Fact
 | []=>[]
 | (s,t)::r=>.slot s t.av::DR r
theorem iL:∀{l:List (Nat×TV)} {φ:Fact},φ∈DR l→∃x∈l,φ=.slot x.1 x.2.av
 | x::r,φ,h=>by
  rcases List.mem_cons.1 h with rfl|h
  ·exact⟨x,List.mem_cons_self,rfl⟩
  ·obtain⟨y,h1,h2⟩:=iL h;exact⟨y,List.mem_cons_of_mem _ h1,h2⟩
theorem Holds.fresh {nt base:Nat} {w0:World} {A:List Fact} {a:Act} {w:World} (h:Holds nt base w0 A a w) (l:List (Nat×TV)) (hl:∀x∈l,a.tmps[x.1]?=some x.2.den):Holds nt w.heap.size w (DR l) a w:=by
 refine⟨h.defers,h.size,Below.refl _ _,Nat.le_refl _,fun _=>(w.heap.size,0,0),fun φ hφ => ?_,fun k k' o' l1 l2 h1 => ?_,fun k l1 h1 => ?_,Nat.le_refl _,fun p h1 h2=>⟨rfl,rfl⟩,Shape.refl _⟩
 ·obtain⟨x,hx,rfl⟩:=iL hφ;show a.tmps[x.1]?=_;rw[TV.av_den];exact hl x hx
 ·obtain⟨x,_,e⟩:=iL h1; cases e
 ·obtain⟨x,_,e⟩:=iL h1; cases e
theorem FR.ok.older {r:FR} {w w1 w2:World} {e:Ending} (h:r.ok w1 e w2) (hb:Below w.heap.size w w1):r.ok w e w2:=by
 obtain⟨b,h1,h2,h3,h4⟩:=h;exact⟨b,h1,hb.trans (h2.mono hb.size),Nat.le_trans hb.size h3,h4⟩
def hd (vs:Nat→Value) (j:Nat):List At:=[.c (vs j)]
def HV (w:World) (v:Value) (K:Nat) (vs:Nat→Value):Prop:=∃b o m,v=.slice (some ⟨b,o,none⟩) K m∧b<w.heap.size∧w.rangeAt b o (aA (kL (hd vs) 0 K))
def OX (K:Nat) (Ns:Nat→Nat):Prop:=∀j,j<K→Ns j≤65536
def SI (K:Nat) (Ns:Nat→Nat) (fs:Nat→Nat→Nat):Prop:=∀j,j<K→SJ (Ns j) (fs j)
instance (K:Nat) (Ns:Nat→Nat):Decidable (OX K Ns):=Nat.decidableBallLT K fun j _=>Ns j≤65536
instance (K:Nat) (Ns:Nat→Nat) (fs:Nat→Nat→Nat):Decidable (SI K Ns fs):=Nat.decidableBallLT K fun j _=>SJ (Ns j) (fs j)
def oP (f:Nat→Nat) (i x:Nat) (j:Nat):Nat:=if j=i then x else f j
structure FQ where
 l:List At
 n:Nat
 l':List At
 n':Nat
def FQ.ok (r:FQ) (w:World) (e:Ending) (w':World):Prop:=∃b b',e=.returned (.tuple #[gN b 0 r.n r.n,gN b' 0 r.n' r.n'])∧Below w.heap.size w w'∧(w.heap.size≤b∧b<w'.heap.size∧w'.rangeAt b 0 (aA r.l)∧∀j,w'.frozen? ⟨b,j,none⟩=false)∧(w.heap.size≤b'∧b'<w'.heap.size∧w'.rangeAt b' 0 (aA r.l')∧∀j,w'.frozen? ⟨b',j,none⟩=false)∧b≠b'
theorem FQ.ok.older {r:FQ} {w w1 w2:World} {e:Ending} (h:r.ok w1 e w2) (hb:Below w.heap.size w w1):r.ok w e w2:=by
 obtain⟨b,b',h1,h2,h3,h4,h5⟩:=h;exact⟨b,b',h1,hb.trans (h2.mono hb.size),⟨Nat.le_trans hb.size h3.1,h3.2⟩,⟨Nat.le_trans hb.size h4.1,h4.2⟩,h5⟩
theorem LV.from {w:World} {b o N m i:Nat} {f:Nat→Nat} (hb:b<w.heap.size) (hr:w.rangeAt b o (aA (kL (el f) 0 N))) (hi:i≤N) (hm:N≤m) (h256:∀j,j<N→f j<bE):LV w (gN b (if m=i then o else o+i*4) (N-i) (m-i)) (N-i) (fun j=>f (i+j)):=by
 refine⟨_,_,rfl,by omega,fun j hj=>h256 _ (by omega),fun h => ?_⟩;rw[if_neg (by omega)];refine⟨b,o+i*4,rfl,hb,?_⟩;have e:kL (el f) 0 N=kL (el f) 0 i++kL (el (fun j=>f (i+j))) 0 (N-i):=by
  have key:∀(n s:Nat),kL (el f) (i+s) n=kL (el (fun j=>f (i+j))) s n:=fun n=>by
   induction n with
   | zero=>intro s; rfl
   | succ n ih =>
    intro s;show el f (i+s)++kL (el f) (i+s+1) n=_;rw[Nat.add_assoc,ih (s+1)];rfl
  have sp:∀(i n s:Nat),i≤n→kL (el f) s n=kL (el f) s i++kL (el f) (s+i) (n-i):=fun i=>by
   induction i with
   | zero=>intro n s _; rfl
   | succ i ih =>
    intro n s h;obtain⟨n,rfl⟩:∃k,n=k+1:=⟨n-1,by omega⟩
    show el f s++kL (el f) (s+1) n=(el f s++kL (el f) (s+1) i)++_;rw[ih n (s+1) (by omega),List.append_assoc,show s+1+i=s+(i+1) by omega,show n+1-(i+1)=n-i by omega]
  rw[sp i N 0 hi,Nat.zero_add,←key (N-i) 0,Nat.add_zero]
 intro j u hj;have h2:=hr (i*4+j) u (by
  rw[e,aJ,List.getElem?_append_right (by rw[aF,kK (c:=4) fun _=>rfl]; omega),aF,kK (c:=4) fun _=>rfl,Nat.add_sub_cancel_left];exact hj)
 rwa [←Nat.add_assoc]at h2
theorem LV.one {w:World} {b x:Nat} (h:oldOf w b 0 [.q x]) (hx:x<bE):LV w (gN b 0 1 1) 1 (fun _=>x) :=
 ⟨_,_,rfl,Nat.le_refl _,fun _ _=>hx,fun _=>⟨b,0,rfl,h.1,h.2⟩⟩
structure Own (w:World) (b:Nat) (l:List At):Prop where
 lt:b<w.heap.size
 row:w.rangeAt b 0 (aA l)
 free:∀j,w.frozen? ⟨b,j,none⟩=false
theorem Holds.wrc {nt b:Nat} {w w':World} {A:List Fact} {a:Act} (h:Holds nt b w A a w') {l:List At} (h1:Fact.row 0 true l∈A) (h2:Fact.at 0 b∈A) (h3:Fact.at nt w.heap.size∈A):WrC w w' b∧w'.rangeAt b 0 (aA l):=by
 obtain⟨β,g1,g2,g3,gt⟩:=h.facts;obtain⟨e1,e2,e4,_⟩:=g1 _ h1;obtain⟨e5,e6,e7⟩:=e4 rfl;have e3:=g1 _ h2;have e8:=g1 _ h3;simp only[Fact.ok]at e3 e8;rw[e6]at e2;rw[e3.1]at e2;refine⟨⟨h.below,fun p hp hne => ?_,gt.shape,fun j => ?_⟩,e2⟩
 ·rcases Nat.lt_or_ge p.block b with q|q
  ·exact⟨h.below.cell q,h.below.frozen q⟩
  ·exact gt.mem p (by omega) (by rw[e8.1]; exact hp)
 ·have:=e7 j
  rwa [e3.1]at this
section
variable {P:Program} {w:World} {R:Ending→World→Prop}
end
def zU:Nat→List AV→List Fact
 | _,[]=>[]
 | i,v::r=>.slot i v::zU (i+1) r
theorem uU {base:Nat} {β:Nat→Bk} (a:Act) (w:World):∀(xs:List AV) (i:Nat),(∀j v,xs[j]?=some v→a.tmps[i+j]?=some (v.den β))→∀φ∈zU i xs,φ.ok base β a w
 | [],i,_,φ,h=>by cases h
 | t::r,i,ha,φ,h=>by
  rcases List.mem_cons.1 h with rfl|h
  ·exact ha 0 t rfl
  ·exact uU a w r (i+1) (fun j u hj=>by have:=ha (j+1) u (by simpa using hj); rwa [show i+(j+1)=i+1+j by omega]at this) φ h
theorem qH:∀(xs:List AV) (i:Nat) (k:Nat) (o:Bool) (l:List At),Fact.row k o l∈zU i xs→False
 | [],i,k,o,l,h=>by cases h
 | t::r,i,k,o,l,h=>by
  rcases List.mem_cons.1 h with h|h
  ·cases h
  ·exact qH r (i+1) k o l h
def IR (nt b N:Nat) (l:List At) (xs:List AV):List Fact:=.row 0 true l :: .at 0 b :: .at nt N::zU 0 xs
section
variable {P:Program} {w:World} {R:Ending→World→Prop}
theorem BN {f:FuncId} {fn:Func} (hf:P.funcs[f]?=some fn) {c:Code} (hb:fn.body=some c) {b:Nat} {l:List At} {xs:List AV} {vs:List Value} (hx:∀β:Nat→Bk,β 0=(b,0,0)→xs.map (AV.den β)=vs) (hO:Own w b l) (hn:xs.length≤fn.ntmps) (h0n:0<fn.ntmps)
  (h:∀a w',Holds fn.ntmps b w (IR fn.ntmps b w.heap.size l xs) a w'→c.wp P (bodyPost P fn R) a w'):Calls P f vs.toArray w R:=by
 refine calls_of_wp hf hb (h _ _ ?_);have hlen:vs.length=xs.length:=by rw[←hx (fun _=>(b,0,0)) rfl,List.length_map]
 have hg:∀j u,vs[j]?=some u→(vs.toArray++Array.replicate (fn.ntmps-vs.toArray.size) undef)[j]?=some u:=fun j u hj=>by
  have hlt:=(List.getElem?_eq_some_iff.1 hj).1;rw[Array.getElem?_append_left (by simpa using hlt)];simpa using hj
 have hz:(fun k=>if k=fn.ntmps then ((w.heap.size,0,0):Bk)else (b,0,0)) 0=(b,0,0):=if_neg (by omega);have hz2:(fun k=>if k=fn.ntmps then ((w.heap.size,0,0):Bk)else (b,0,0)) fn.ntmps=(w.heap.size,0,0):=if_pos rfl;generalize (fun k=>if k=fn.ntmps then ((w.heap.size,0,0):Bk)else (b,0,0))=β at hz hz2;have h0:∀k o l0,Fact.row k o l0∈IR fn.ntmps b w.heap.size l xs→k=0∧o=true:=fun k o l0 hk=>by
  simp only[IR,List.mem_cons,reduceCtorEq,false_or]at hk
  rcases hk with hk|hk
  ·cases hk; exact⟨rfl,rfl⟩
  ·exact (qH xs 0 k o l0 hk).elim
 refine⟨rfl,by simp; omega,Below.refl _ _,Nat.le_of_lt hO.lt,β,fun φ hφ => ?_,fun k k' o' l1 l2 h1 h2 hne => ?_,fun k l1 h1=>Or.inl ?_,by rw[hz2]; exact Nat.le_refl _,fun p q1 q2=>⟨rfl,rfl⟩,Shape.refl _⟩
 ·simp only[IR,List.mem_cons]at hφ
  rcases hφ with rfl|rfl|rfl|hφ
  ·exact⟨by rw[hz]; exact hO.lt,by rw[hz]; exact hO.row,fun _=>⟨by rw[hz]; exact Nat.le_refl _,by rw[hz],by rw[hz]; exact hO.free⟩,fun h=>by cases h⟩
  ·exact⟨by rw[hz],by rw[hz]⟩
  ·exact⟨by rw[hz2],by rw[hz2]⟩
  ·refine uU _ _ xs 0 (fun j v hj => ?_) φ hφ;rw[Nat.zero_add];exact hg j _ (by rw[←hx β hz,List.getElem?_map,hj]; rfl)
 ·exact (hne ((h0 k true l1 h1).1.trans (h0 k' o' l2 h2).1.symm)).elim
 ·rw[(h0 k true l1 h1).1,hz]
end
def bj (f:Nat→Nat):List At:=[.c (.int .u8 (Int.ofNat (f 0))),.c (.int .u8 (Int.ofNat (f 1))),.c (.int .u8 (Int.ofNat (f 2))),.c (.int .u8 (Int.ofNat (f 3))),.c (.int .u8 (Int.ofNat (f 4))),.c (.int .u8 (Int.ofNat (f 5))),.c (.int .u8 (Int.ofNat (f 6))),.c (.int .u8 (Int.ofNat (f 7))),.c (.int .u8 (Int.ofNat (f 8))),.c (.int .u8 (Int.ofNat (f 9))),.c (.int .u8 (Int.ofNat (f 10))),.c (.int .u8 (Int.ofNat (f 11))),.c (.int .u8 (Int.ofNat (f 12))),.c (.int .u8 (Int.ofNat (f 13))),.c (.int .u8 (Int.ofNat (f 14))),.c (.int .u8 (Int.ofNat (f 15))),.c (.int .u8 (Int.ofNat (f 16))),.c (.int .u8 (Int.ofNat (f 17))),.c (.int .u8 (Int.ofNat (f 18))),.c (.int .u8 (Int.ofNat (f 19))),.c (.int .u8 (Int.ofNat (f 20))),.c (.int .u8 (Int.ofNat (f 21))),.c (.int .u8 (Int.ofNat (f 22))),.c (.int .u8 (Int.ofNat (f 23))),.c (.int .u8 (Int.ofNat (f 24))),.c (.int .u8 (Int.ofNat (f 25))),.c (.int .u8 (Int.ofNat (f 26))),.c (.int .u8 (Int.ofNat (f 27))),.c (.int .u8 (Int.ofNat (f 28))),.c (.int .u8 (Int.ofNat (f 29))),.c (.int .u8 (Int.ofNat (f 30))),.c (.int .u8 (Int.ofNat (f 31)))]
def dD (f:Nat→Nat):Nat→Nat:=fun k=>f (31-k)
def DW:Code:=(f52.body).getD .skip
theorem OY (f:Nat→Nat) (b N m:Nat):dP prog (qG prog) f52.ntmps (fun _=>⟨fun _=>T0,fun _=>true,fun _=>none⟩) 80 DW (IR f52.ntmps b N (bj f) [.sl 0 0 32 m]) [.row 0 true (bj (dD f)),.at 0 b,.at f52.ntmps N]=some ([],.nrm,[.row 0 true (bj (dD f)),.at 0 b,.at f52.ntmps N]):=by kernel_rfl
theorem DV {w:World} {b:Nat} {f:Nat→Nat} (m:Nat) (hO:Own w b (bj f)):Calls prog 52 #[gN b 0 32 m] w (IW b w (.many []) (bj (dD f))):=by
 have hG:dA prog (qG prog) b w:=(aX _).w _ _;have hT:∀n d:Nat,TabOkW prog T0 b w:=fun _ _=>(jA _).w _ _
 refine BN func52 (xs:=[.sl 0 0 32 m]) (vs:=[gN b 0 32 m]) (c:=DW) rfl (fun β e0=>by simp[AV.den,e0,gN]) hO (Nat.le_of_ble_eq_true (by kernel_rfl)) (by decide) fun a w' hA => ?_
 refine aN aY hT hG (OY f b w.heap.size m) trivial hA fun a w1 hA => ?_
 obtain⟨q1,q2⟩:=hA.wrc (List.mem_of_getElem? (i:=0) rfl) (List.mem_of_getElem? (i:=1) rfl) (List.mem_of_getElem? (i:=2) rfl);have hres:(results f52 a.tmps).run prog w1=.ok (.tuple #[]) w1:=by
  show ((f52.results.mapM (mE a.tmps)) >>= fun vs=>pure (if h:vs.size=1 then vs[0]else .tuple vs):Sem Value).run prog w1=_;have hr:f52.results = #[]:=rfl;rw[hr];simp
 exact⟨hA.defers,.tuple #[],hres,rfl,q1,q2⟩
def Aj (f:Nat→Nat) (b:Nat) (row:List At):List CB→Option (List Prop×RV×List At)
 | [.sl o n m]=>some ([o=0,n=32,aA row=aA (bj f)],.many [],bj (dD f))
 | _=>none
def B6 (f:Nat→Nat):Tab6:=YB.add 52 (Aj f)
theorem OF (f:Nat→Nat):PbOk prog (B6 f):=(oO _).add func52 (by kernel_rfl) (by kernel_rfl) fun b row cs pre r l hg hp args w h1 h2 h3 h4=>by
 unfold Aj at hg;split at hg
 ·rename_i o n m;cases hg;obtain⟨rfl,rfl,hr,_⟩:=hp
  match args,h4 with
  | [v],h4 =>
   have e:v=gN b 0 32 m:=h4.1;subst e;exact DV m ⟨h1,hr▸h2,h3⟩
  | [],h4=>exact h4.elim
  | _::_::_,h4=>exact h4.2.elim
 ·cases hg
end Go.Proofs.Ytjeplinbleofnaa.Ex
namespace Go.Proofs.Ytjeplinbleofnaa
open Go.Proofs.Try
open Go.RowKit
def MV (A:Nat) (w:World) (e:Ending) (w':World):Prop :=
 ∃b:Nat,e=.returned (.tuple #[.slice (some ⟨b,0,none⟩) 32 32,.int .i64 0])∧w.heap.size≤b∧b<w'.heap.size∧RowB w' b 32 (aS A)∧Below w.heap.size w w'∧∀j,w'.frozen? ⟨b,j,none⟩=false
set_option maxHeartbeats 2000000 in
theorem wW (f:Int) (F:FC) (hf:FieldIs f F) (a0 a1 a2 a3:Nat) (ha:bQ a0 a1 a2 a3) (la:aB a0 a1 a2 a3<F.M) (w:World) :
  Calls prog 51 #[.int .i64 f,.agg #[.int .u64 a0,.int .u64 a1,.int .u64 a2,.int .u64 a3]] w (MV (aB a0 a1 a2 a3) w):=by
 go_enter func51,ntmps51
 go_wp2_with fail;refine (bU f F hf _).mono ?_
 rintro e w1 ⟨rfl,hbl⟩
 have M1:=((Mem.nil w).new (w.heap.size) a0 a1 a2 a3 24 (by simp)).on hbl;clear hbl;have z0:w.heap.size<w1.heap.size:=M1.lt (c0:=a0) (c1:=a1) (c2:=a2) (c3:=a3) (by simp);have HM:=Lib.hid (M1.on ((Below.refl _ _).alloc (Nat.le_refl _) (.cells #[.int .u64 F.m0,.int .u64 F.m1,.int .u64 F.m2,.int .u64 F.m3,.int .u64 F.inv,.int .u64 F.s0,.int .u64 F.s1,.int .u64 F.s2,.int .u64 F.s3] 101)));have KK:=Lib.hid (KIs.new w1 F 101);have kr:=M1.row (b:=w.heap.size) (c0:=a0) (c1:=a1) (c2:=a2) (c3:=a3) (by simp);have x0:=kr.c0; have x1:=kr.c1; have x2:=kr.c2; have x3:=kr.c3;clear kr;have xl:=M1.lt (b:=w.heap.size) (c0:=a0) (c1:=a1) (c2:=a2) (c3:=a3) (by simp);go_wp2_with fail;refine (bG F hf.ok w1.heap.size a0 a1 a2 a3 ha _ KK.out).mono ?_
 rintro e w2 ⟨he,hbl⟩
 rw[show pR (aB a0 a1 a2 a3) F.M=true from decide_eq_true la]at he;subst he;have HM':=Lib.hid (HM.out.on hbl);have KK':=Lib.hid (KK.out.same hbl);have zk:=KK'.out.lt;clear HM KK hbl M1;have HM:=HM';have KK:=KK';clear HM' KK';clear x0 x1 x2 x3 xl zk;have kr:=HM.out.row (b:=w.heap.size) (c0:=a0) (c1:=a1) (c2:=a2) (c3:=a3) (by simp);have x0:=kr.c0; have x1:=kr.c1; have x2:=kr.c2; have x3:=kr.c3;clear kr;have xl:=HM.out.lt (b:=w.heap.size) (c0:=a0) (c1:=a1) (c2:=a2) (c3:=a3) (by simp);go_wp2_with fail;have hsz:w.heap.size≤w2.heap.size:=HM.out.1.size;refine (rX a0 a1 a2 a3 ha _).mono ?_
 rintro e w4 ⟨bb,rfl,h1,h2,h3,hbl,hff⟩
 have HF:=Lib.hid hff;clear hff;have H3:=Lib.hid h3;clear h3;have HM':=Lib.hid (HM.out.on hbl);have KK':=Lib.hid (KK.out.same hbl);have zk:=KK'.out.lt;clear HM KK hbl;have HM:=HM';have KK:=KK';clear HM' KK';clear x0 x1 x2 x3 xl zk;go_wp2_with fail
 go_ret2
 exact⟨bb,rfl,by omega,h2,H3.out,HM.out.1,HF.out⟩
namespace Ex
theorem iT (f:Nat→Nat):∀k,k<32→(aA (bj f))[k]?=some (.int .u8 (Int.ofNat (f k)))
 | 0,_=>by kernel_rfl
 | 1,_=>by kernel_rfl
 | 2,_=>by kernel_rfl
 | 3,_=>by kernel_rfl
 | 4,_=>by kernel_rfl
 | 5,_=>by kernel_rfl
 | 6,_=>by kernel_rfl
 | 7,_=>by kernel_rfl
 | 8,_=>by kernel_rfl
 | 9,_=>by kernel_rfl
 | 10,_=>by kernel_rfl
 | 11,_=>by kernel_rfl
 | 12,_=>by kernel_rfl
 | 13,_=>by kernel_rfl
 | 14,_=>by kernel_rfl
 | 15,_=>by kernel_rfl
 | 16,_=>by kernel_rfl
 | 17,_=>by kernel_rfl
 | 18,_=>by kernel_rfl
 | 19,_=>by kernel_rfl
 | 20,_=>by kernel_rfl
 | 21,_=>by kernel_rfl
 | 22,_=>by kernel_rfl
 | 23,_=>by kernel_rfl
 | 24,_=>by kernel_rfl
 | 25,_=>by kernel_rfl
 | 26,_=>by kernel_rfl
 | 27,_=>by kernel_rfl
 | 28,_=>by kernel_rfl
 | 29,_=>by kernel_rfl
 | 30,_=>by kernel_rfl
 | 31,_=>by kernel_rfl
 | k+32,h=>absurd h (by omega)
theorem IN {w:World} {b:Nat} {f:Nat→Nat} (h:∀k,k<32→w.cell? ⟨b,k,none⟩=some (.int .u8 (f k:Nat))):w.rangeAt b 0 (aA (bj f)):=fun j v hj=>by
 have hlt:j<32:=by
  have h1:=(List.getElem?_eq_some_iff.1 hj).1
  rwa [aF,show dV (bj f)=32 by kernel_rfl]at h1
 rw[Nat.zero_add,h j hlt,←hj,iT f j hlt];rfl
def QX:List CA→Option (List Prop×FR)
 | [.v (.im (.int .i64 2)),.v (.fl l)]=>match oR l with
  | some x=>some ([x<RM],⟨bj (aS x),32,32,[.im (.int .i64 0)]⟩)
  | none=>none
 | _=>none
theorem LO:∀cs pre r,QX cs=some (pre,r)→aQ pre→∀(args:List Value) (w:World),bZ w cs args→Calls prog 51 args.toArray w (fun e w'=>r.ok w e w'):=by
 intro cs pre r hg hp args w ha;unfold QX at hg;split at hg
 ·rename_i l;split at hg
  ·rename_i x hx;cases hg
   match args,ha with
   | [t,v],ha =>
    have h1:t=.int .i64 2:=ha.1;have h2:v=.agg (aA l).toArray:=ha.2.1;rw[cN l x hx]at h2;subst h1; subst h2;refine (wW 2 _ lG _ _ _ _ (dN x) (by rw[iY hp.1]; exact hp.1) w).mono ?_
    rintro e w' ⟨b,rfl,h1,h2,h3,h4,h5⟩
    rw[iY hp.1]at h3;exact⟨b,rfl,h4,h1,h2,IN fun k hk=>(h3 k hk).1,h5⟩
   | [],ha=>exact ha.elim
   | [_],ha=>exact ha.2.elim
   | _::_::_::_,ha=>exact ha.2.2.elim
  ·cases hg
 ·cases hg
def Az:Tab2:=TH.add 51 QX
theorem SL:FrOk prog Az:=(yA _).add func51 (by kernel_rfl) (by kernel_rfl) LO
end Ex
end Go.Proofs.Ytjeplinbleofnaa
namespace Go.Proofs.Ytjeplinbleofnaa.Ex
open Go.Proofs.Try
open Go.RowKit
def LN:jO
 | [.v (.im v)]=>some ([],.one (.im v))
 | _=>none
theorem OZ (v:Value):cL prog (qG prog) (fun _=>⟨fun _=>T0,fun _=>true,fun _=>none⟩) f15 60 [.v (.im v)]=some ([],.one (.im v)):=by kernel_rfl
theorem VX:∀cs pre r,LN cs=some (pre,r)→aQ pre→∀(args:List Value) (w:World),bZ w cs args→bF prog 15 r args w:=by
 intro cs pre r hg hp args w ha;unfold LN at hg;split at hg
 ·rename_i v;cases hg;exact aK aY (fun _ _=>jA _) (aX prog) func15 (OZ v) trivial ha
 ·cases hg
def PD (b:Bool) (p:NP):RV:=bif b then dW p 0 else dW (0,0) 41
def QT (b:Bool):jO:=g2 PA oR fun p n=>([p.1<bE,p.2<bE,kP p.1 p.2=b],PD b (oZ p n))
def VJ (b:Bool):jO:=g1 PA fun p=>([p.1<bE,p.2<bE,kP p.1 p.2=b],.one (.im (.bool b)))
def LP (c:Int):jO:=g1 PA fun p=>([p.1<bE,p.2<bE,eI p=c],.one (.im (.int .i64 c)))
theorem JZ {b:Bool} {c:Bool} {p:NP} (h:c=b):(if c=true then dW p 0 else dW (0,0) 41)=PD b p:=by
 subst h; cases c<;>rfl
theorem zG {f:FuncId} (h:∀(p:NP) (n:Nat),w2 p→∀(args:List Value) (w:World),bZ w [.v (.fl (q2 p)),.v (.fl (q1 n))] args→bF prog f (if kP p.1 p.2=true then dW (oZ p n) 0 else dW (0,0) 41) args w) (b:Bool):∀cs pre r,QT b cs=some (pre,r)→aQ pre→∀(args:List Value) (w:World),bZ w cs args→bF prog f r args w :=
 GF (op:=fun p n=>([p.1<bE,p.2<bE,kP p.1 p.2=b],PD b (oZ p n))) nF cN fun p n hp args w ha=>by
  have:=h p n ⟨hp.1,hp.2.1⟩ args w ha;rw[JZ hp.2.2.1]at this;exact this
theorem LM {f:FuncId} (h:∀(p:NP),w2 p→∀(args:List Value) (w:World),bZ w [.v (.fl (q2 p))] args→bF prog f (.one (.im (.bool (kP p.1 p.2)))) args w) (b:Bool):∀cs pre r,VJ b cs=some (pre,r)→aQ pre→∀(args:List Value) (w:World),bZ w cs args→bF prog f r args w :=
 lW (op:=fun p=>([p.1<bE,p.2<bE,kP p.1 p.2=b],.one (.im (.bool b)))) nF fun p hp args w ha=>by
  have:=h p ⟨hp.1,hp.2.1⟩ args w ha;rw[hp.2.2.1]at this;exact this
theorem rK {f:FuncId} (h:∀(p:NP),w2 p→∀(args:List Value) (w:World),bZ w [.v (.fl (q2 p))] args→bF prog f (.one (.im (.int .i64 (eI p)))) args w) (c:Int):∀cs pre r,LP c cs=some (pre,r)→aQ pre→∀(args:List Value) (w:World),bZ w cs args→bF prog f r args w :=
 lW (op:=fun p=>([p.1<bE,p.2<bE,eI p=c],.one (.im (.int .i64 c)))) nF fun p hp args w ha=>by
  have:=h p ⟨hp.1,hp.2.1⟩ args w ha;rw[hp.2.2.1]at this;exact this
def XA (b:Bool) (c:Int):Tab:=(((((((T0.add 15 LN).add 18 (g0 (.one (.fl [.q bX,.q bY])))).add 20 (g0 (.one (.fl [.q lJ])))).add 23 (g0 (.one (.fl [.q 0,.q 1])))).add 11 (QT b)).add 16 (LP c)).add 13 (VJ b))
theorem UO (b:Bool) (c:Int):TabOk prog (XA b c):=((((((((jA _).add func15 (by kernel_rfl) (by kernel_rfl) VX).add func18 (by kernel_rfl) (by kernel_rfl) (nZ mB)).add func20 (by kernel_rfl) (by kernel_rfl) (nZ nM)).add func23 (by kernel_rfl) (by kernel_rfl) (nZ pQ)).add func11 (by kernel_rfl) (by kernel_rfl) (zG nQ b)).add func16 (by kernel_rfl) (by kernel_rfl) (rK jJ c)).add func13 (by kernel_rfl) (by kernel_rfl) (LM AY b))
def Ab (n:Nat):Cfg:=⟨fun s=>XA (!Nat.beq s 36) (bif Nat.beq s 13 then 111 else 0),fun _=>true,fun _=>none⟩
theorem SK:cL prog (qG prog) Ab f22 80 []=some ([bX<bE,bY<bE,kP bX bY=true,0<bE,mY<bE,eI (0,mY)=111,bX<bE,bY<bE,eI (bX,bY)=0,aA [At.q (oZ (bX,bY) lJ).1,.q (oZ (bX,bY) lJ).2]=aA [At.q 0,.q 1],1<bE,1<bE,kP 1 1=false],.one (.im (.bool true))):=by kernel_rfl
theorem ZZ:eI (0,mY)=111:=by
 rw[rW (p:=(0,mY)) LB,if_neg UX]
theorem Aa:eI (bX,bY)=0:=by
 rw[rW (p:=(bX,bY)) jL];exact if_pos IQ
theorem ZX:oZ (bX,bY) lJ=(0,1):=by
 rw[yZ (p:=(bX,bY)) jL,NC];exact (congrArg cj IQ).trans IC
theorem ZY:kP 1 1=false:=by kernel_rfl
theorem IU (w:World):bF prog 22 (.one (.im (.bool true))) [] w :=
 aK aY (fun _ _=>UO _ _) (aX _) func22 SK ⟨(OnJ.w jL).1,(OnJ.w jL).2,EX jL,by decide,(OnJ.w LB).2,ZZ,(OnJ.w jL).1,(OnJ.w jL).2,Aa,by rw[ZX],by decide,by decide,ZY,trivial⟩ (args:=[]) trivial
def ZB (c:Bool):jO
 | [.v (.im (.int .i64 2)),.v (.fl l)]=>match oR l with
  | some x=>some ([x<RM,bP RM x=c],.many [.im (.bool c),.im (.int .i64 0)])
  | none=>none
 | _=>none
theorem ZL (c:Bool):∀cs pre r,ZB c cs=some (pre,r)→aQ pre→∀(args:List Value) (w:World),bZ w cs args→bF prog 81 r args w:=by
 intro cs pre r hg hp args w ha;unfold ZB at hg;split at hg
 ·rename_i l;split at hg
  ·rename_i x hx;cases hg
   match args,ha with
   | [t,v],ha =>
    have h1:t=.int .i64 2:=ha.1;have h2:v=.agg (aA l).toArray:=ha.2.1;rw[cN l x hx]at h2;subst h1; subst h2;have h:=BO 2 _ lG _ _ _ _ (dN x) (by rw[iY hp.1]; exact hp.1) w;rw[iY hp.1,hp.2.1]at h;exact h
   | [],ha=>exact ha.elim
   | [_],ha=>exact ha.2.elim
   | _::_::_::_,ha=>exact ha.2.2.elim
  ·cases hg
 ·cases hg
def XB (c:Bool):Tab:=T0.add 81 (ZB c)
theorem UP (c:Bool):TabOk prog (XB c):=(jA _).add func81 (by kernel_rfl) (by kernel_rfl) (ZL c)
theorem QL (c:Bool) (x:Nat):jH prog (XB c) (qG prog) (fun _=>true) f53 40 [.v (.fl [.q x])]=some ([x<RM,bP RM x=c],.one (.im (.bool c))):=by kernel_rfl
def Al (c:Bool):jO:=g1 oR fun x=>([x<RM,bP RM x=c],.one (.im (.bool c)))
theorem ZM (c:Bool):∀cs pre r,Al c cs=some (pre,r)→aQ pre→∀(args:List Value) (w:World),bZ w cs args→bF prog 53 r args w :=
 lW (op:=fun x=>([x<RM,bP RM x=c],.one (.im (.bool c)))) cN fun x h args w ha=>bI aY (UP c) (aX _) func53 (QL c x) h ha
def XC (k:Int) (c:Bool):Tab:=(iJ.add 16 (LP k)).add 53 (Al c)
theorem UQ (k:Int) (c:Bool):TabOk prog (XC k c):=(eQ.add func16 (by kernel_rfl) (by kernel_rfl) (rK jJ k)).add func53 (by kernel_rfl) (by kernel_rfl) (ZM c)
def XI (f:Nat→Nat) (ky:Nat→Option Nat) (gen:Nat→Option Value):Ext:={ Ext.none with ky:=ky,gen:=gen,T2:=Az,T3:=TG,T4:=WY,T5:=XD,T6:=B6 f }
theorem vC (f:Nat→Nat) (ky:Nat→Option Nat) (gen:Nat→Option Value) (w:World):dA prog (qY prog (XI f ky gen)) w.heap.size w:=EE SL (fun _ _ _ h=>h.elim) (xY _) (sB _) (lK _) (OF f)
def cQ:Code:=(f26.body).getD .skip
theorem IL:cQ=.seq (cA cQ) (.seq (cA (cB cQ)) (.seq (cA (cB (cB cQ))) (.seq (cA (cB (cB (cB cQ)))) (.seq (cA (cB (cB (cB (cB cQ))))) (cB (cB (cB (cB (cB cQ))))))))):=by kernel_rfl
def TD (p:NP):List Fact:=[.slot 1 (.pt 1 0),.row 1 true [.q p.1,.q p.2]]
def BW (p:NP) (f:Nat→Nat):List Fact:=[.slot 1 (.pt 1 0),.row 1 true [.q p.1,.q p.2],.slot 5 (.sl 15 0 32 32),.row 15 true (bj f)]
def OA (c:Bool) (_:Nat):Cfg:=⟨fun _=>XC 0 c,fun _=>true,fun _=>none⟩
theorem SD (p:NP) (c:Bool):dP prog (qG prog) f26.ntmps (OA c) 60 (cA cQ) (kN 0 [.v (.fl [.q p.1,.q p.2])]) (TD p)=some ([],.nrm,TD p):=by kernel_rfl
theorem SC (p:NP) (c:Bool):dP prog (qG prog) f26.ntmps (OA c) 60 (cA (cB cQ)) (TD p) (TD p)=some ([p.1<bE,p.2<bE,eI p=0],.nrm,TD p):=by kernel_rfl
theorem SB (p:NP) (c:Bool) (f:Nat→Nat):dP prog (qY prog (XI f (fun _=>none) (fun _=>none))) f26.ntmps (OA c) 60 (cA (cB (cB cQ))) (TD p) (BW p (aS p.2))=some ([p.2<RM],.nrm,BW p (aS p.2)):=by kernel_rfl
theorem SA (p:NP) (c:Bool) (f:Nat→Nat) (b:Nat):dP prog (qY prog (XI f (assoc [(19,15)]) (fun _=>none))) f26.ntmps (OA c) 60 (cA (cB (cB (cB cQ)))) (.at 15 b::BW p f) (BW p (dD f))=some ([0=0,32=32,aA (bj f)=aA (bj f)],.nrm,BW p (dD f)):=by kernel_rfl
def tO (f:Nat→Nat):Nat→Nat:=fun k=>bif Nat.beq k 31 then f 31 ||| 128 else f k
theorem RY (p:NP) (f:Nat→Nat):dP prog (qG prog) f26.ntmps (OA true) 60 (cA (cB (cB (cB (cB cQ))))) (BW p f) (BW p f)=some ([p.1<RM,bP RM p.1=true],.nrm,BW p f):=by kernel_rfl
theorem RZ (p:NP) (f:Nat→Nat):dP prog (qY prog (XI f (fun _=>none) (assoc [(27,.int .u8 (Int.ofNat (f 31 ||| 128)))]))) f26.ntmps (OA false) 60 (cA (cB (cB (cB (cB cQ))))) (BW p f) (BW p (tO f))=some ([p.1<RM,bP RM p.1=false,Bb .or 5 (.tmp 26) (.const (.int .u8 128)) (.int .u8 (Int.ofNat (f 31))) (.int .u8 (Int.ofNat 128)) (.int .u8 (Int.ofNat (f 31 ||| 128)))],.nrm,BW p (tO f)):=by kernel_rfl
theorem IK (p:NP) (c:Bool) (f:Nat→Nat):dP prog (qG prog) f26.ntmps (OA c) 60 (cB (cB (cB (cB (cB cQ))))) (BW p f) [.slot 2 (.sl 15 0 32 32),.row 15 true (bj f),.slot 3 (.im (.int .i64 0))]=some ([],.rt,[.slot 2 (.sl 15 0 32 32),.row 15 true (bj f),.slot 3 (.im (.int .i64 0))]):=by kernel_rfl
def eU (p:NP):Nat→Nat:=bif bP RM p.1 then dD (aS p.2)else tO (dD (aS p.2))
theorem xM (A k:Nat):aS A k<256:=Nat.mod_lt _ (by decide)
theorem BV (p:NP) (hp:OnJ p.1 p.2) (h0:eI p=0) (args:List Value) (w:World) (ha:bZ w [.v (.fl [.q p.1,.q p.2])] args):Calls prog 26 args.toArray w (fun e w'=>FR.ok ⟨bj (eU p),32,32,[.im (.int .i64 0)]⟩ w e w'):=by
 have hG:dA prog (qG prog) w.heap.size w:=(aX _).w _ _;have hT:∀c (n d:Nat),TabOkW prog ((OA c n).T d) w.heap.size w:=fun c _ _=>(UQ 0 c).w _ _
 refine kE func26 (c:=cQ) rfl ha (Nat.le_of_ble_eq_true (by kernel_rfl)) fun a w' hA => ?_
 rw[IL];refine wp_seq (aN aY (hT true) hG (SD p true) trivial hA fun a w' hA => ?_);refine wp_seq (aN aY (hT true) hG (SC p true) ⟨hp.w.1,hp.w.2,h0,trivial⟩ hA fun a w' hA => ?_);refine wp_seq (aN aY (hT true) (vC (aS p.2) _ _ w) (SB p true (aS p.2)) ⟨hp.1.2,trivial⟩ hA fun a w' hA => ?_);obtain⟨b,hA⟩:=hA.at (k:=15) (l:=bj (aS p.2)) (by simp[BW]);refine wp_seq (aN aY (hT true) (vC (aS p.2) _ _ w) (SA p true (aS p.2) b) ⟨rfl,rfl,rfl,trivial⟩ hA fun a w' hA => ?_);unfold eU;cases hl:bP RM p.1
 ·refine wp_seq (aN aY (hT false) (vC (dD (aS p.2)) _ _ w) (RZ p (dD (aS p.2))) ⟨hp.1.1,hl,SH (xM _ _) (by decide),trivial⟩ hA fun a w' hA => ?_);exact aN aY (hT false) hG (IK p false _) trivial hA fun a w' hA=>pT (r:=⟨bj (tO (dD (aS p.2))),32,32,[.im (.int .i64 0)]⟩) (by kernel_rfl) hA
 ·refine wp_seq (aN aY (hT true) hG (RY p (dD (aS p.2))) ⟨hp.1.1,hl,trivial⟩ hA fun a w' hA => ?_);exact aN aY (hT true) hG (IK p true _) trivial hA fun a w' hA=>pT (r:=⟨bj (dD (aS p.2)),32,32,[.im (.int .i64 0)]⟩) (by kernel_rfl) hA
def SP (T:Tab) (num:Nat→Option Value):Cfg:=⟨fun _=>T,fun _=>true,num⟩
def OE (op:BinOp) (t:Nat) (x y:Operand) (v u r:Value):Prop:=∀w:World,(do eqGuard op t x y v u; binOp op t v u:Sem Value).run prog w=.ok r w
theorem NW {a:Act} {s:Nat} {v:Value} (h:a.tmps[s]?=some v):a.eval (.tmp s)=v:=by simp[Act.eval,h]
theorem PF {a:Act} {d s:Nat} {u v:Value} (h:a.tmps[s]?=some v) (hd:d≠s):(a.put (some d) u).tmps[s]?=some v:=by
 rw[fR _ _ _ _ (fun e=>hd (by injection e))]; exact h
theorem jQ {nt:Nat} {w:World} {a:Act} {ts:List (Nat×Value)} (hd:a.defers=[]) (hs:a.tmps.size=nt) (ht:∀x∈ts,a.tmps[x.1]?=some x.2):Holds nt w.heap.size w (ts.map fun x=>.slot x.1 (.im x.2)) a w:=by
 refine⟨hd,hs,Below.refl _ _,Nat.le_refl _,fun _=>(w.heap.size,0,0),fun φ hφ => ?_,fun k k' o' l l' h1 => ?_,fun k l h1 => ?_,Nat.le_refl _,fun p h1 h2=>⟨rfl,rfl⟩,Shape.refl _⟩
 ·obtain⟨x,hx,rfl⟩:=List.mem_map.1 hφ;exact ht x hx
 ·obtain⟨x,_,e⟩:=List.mem_map.1 h1; cases e
 ·obtain⟨x,_,e⟩:=List.mem_map.1 h1; cases e
theorem Holds.shapeJ {nt base:Nat} {w0:World} {A:List Fact} {a:Act} {w:World} (h:Holds nt base w0 A a w):Shape w0 w:=by
 obtain⟨_,_,_,_,gt⟩:=h.facts;exact gt.shape
theorem Own.onJ {w w':World} {b:Nat} {l:List At} (h:Own w b l) (hb:Below w.heap.size w w'):Own w' b l :=
 ⟨Nat.lt_of_lt_of_le h.lt hb.size,fun j v hj=>(hb.cell (p:=⟨b,0+j,none⟩) h.lt).trans (h.row j v hj),fun j=>(hb.frozen (p:=⟨b,j,none⟩) h.lt).trans (h.free j)⟩
theorem TJ:WS prog 50=some (5,1,1):=by kernel_rfl
noncomputable abbrev ZQ:Func:=f82
def gK:Code:=(f82.body).getD .skip
def xJ:Code:=cA (cB (cB gK))
theorem IA:gK=.seq (cA gK) (.seq (cA (cB gK)) (.seq (.region 3 (nN xJ) false) .ret)):=by kernel_rfl
theorem RU:ZQ.ntmps=8:=by kernel_rfl
theorem RT (v:Value):dP prog (qG prog) 8 (fun _=>SP T0 fun _=>none) 60 (cA gK) (kN 0 [.v (.im v)]) [.slot 0 (.im v)]=some ([],.nrm,[.slot 0 (.im v)]):=by kernel_rfl
theorem RS (w:World) (v:Value):dP prog { qG prog with x:=xO w (fun _=>none) (fun _=>none) (assoc [(4,.bool false)]) } 8 (fun _=>SP T0 fun _=>none) 60 (cA (cB gK)) [.slot 0 (.im v)] [.slot 0 (.im v)]=some ([OE .eql 50 (.tmp 3) (.const (.slice none 0 0)) v (.slice none 0 0) (.bool false)],.nrm,[.slot 0 (.im v)]):=by kernel_rfl
theorem RR (v u:Value):DZ prog (qG prog) 8 (SP T0 fun _=>none) ((nN xJ).extract 1 2) [.slot 5 (.im u),.slot 0 (.im v)] [.slot 6 (.im v),.slot 5 (.im u)]=some ([],[.slot 6 (.im v),.slot 5 (.im u)]):=by kernel_rfl
theorem RQ (v:Value):DZ prog (qG prog) 8 (SP T0 fun _=>none) ((nN xJ).extract 3 4) [.slot 7 (.im v)] [.slot 2 (.im v)]=some ([],[.slot 2 (.im v)]):=by kernel_rfl
theorem MA (d:Nat) (b o n m:Nat) (w:World):(Op.equalIn (d+1) 50 (gN b o n m) (.slice none 0 0)).run prog w=.ok false w:=by
 have hu:prog.underlying 50=some (.slice 5):=underlying50;simp[Op.equalIn,gN,run_underlying hu]
theorem JT (x y:Operand) (b o n m:Nat):OE .eql 50 x y (gN b o n m) (.slice none 0 0) (.bool false):=fun w=>by
 have hu:prog.underlying 50=some (.slice 5):=underlying50;have h:=MA 9999 b o n m w;have e:Op.maxDepth=9999+1:=rfl;simp[eqGuard,binOp,go_sem,run_underlying hu,Op.equal,e,h,show gN b o n m=Value.slice (some ⟨b,o,none⟩) n m from rfl]at h ⊢;simp[h]
theorem IM (w:World):(Instr.buildSlice 50 0 #[]).run prog w=.ok (gN w.heap.size 0 0 0) (w.alloc (.cells #[] 5)):=by
 obtain⟨ht,i,z,hi,hz,hsize,hby,hzs,hsz⟩:=uW TJ;simp[Instr.buildSlice,run_underlying ht,sizeOf,typeInfo,hi,newRow,gN,Instr.fill,show Array.range 0 = #[] by simp[Array.range]]
theorem SE (f:Nat→Nat):∀v∈aA (bj f),v.oneCell'=true:=fun v hv=>by
 obtain⟨k,hk,e⟩:=List.mem_iff_getElem.1 hv;have hl:k<32:=by rwa [aF,show dV (bj f)=32 by kernel_rfl]at hk
 have h1:=iT f k hl;rw[List.getElem?_eq_getElem hk,e]at h1;cases h1;rfl
theorem BU {w0:World} {b o m:Nat} {f:Nat→Nat} (hbw:b<w0.heap.size) (hrw:w0.rangeAt b o (aA (bj f))) :
  Calls prog 82 [gN b o 32 m].toArray w0 fun e w'=>FS.ok ⟨bj f,32,5,1,true,[],[]⟩ w0 e w':=by
 have hG:∀base w,dA prog (qG prog) base w:=fun _ _=>(aX _).w _ _
 have hT:∀base w,∀n d:Nat,TabOkW prog T0 base w:=fun _ _ _ _=>(jA _).w _ _
 have hnt:f82.ntmps=8:=RU;refine kE func82 (cs:=[.v (.im (gN b o 32 m))]) (args:=[gN b o 32 m]) (c:=gK) rfl ⟨rfl,trivial⟩ (Nat.le_of_ble_eq_true (by kernel_rfl)) fun a w hA => ?_
 rw[hnt]at hA;rw[IA];refine wp_seq (aN aY (hT _ _) (hG _ _) (RT _) trivial hA fun a w hA => ?_);refine wp_seq (aN aY (hT _ _) (NA w0 _ _ _) (RS w0 _) ⟨JT _ _ _ _ _ _,trivial⟩ hA fun a w hA => ?_);have t0:=hA.slot (s:=0) (v:=gN b o 32 m) (by simp);have hd:=hA.defers;have hsz:=hA.size;have hbl:=hA.below;clear hA;refine wp_seq (AA (l:=0::(List.range' 1 ((nN xJ).extract 1 2).size++(2::(List.range' 3 ((nN xJ).extract 3 4).size++[])))) (by kernel_rfl) ?_);obtain⟨o0,ho0,hop0,hd0,hg0⟩:∃x,(nN xJ)[0]?=some x∧x.op=.buildSlice 50 0 #[]∧x.dst=some 5∧x.guard=none:=⟨_,rfl,rfl,rfl,rfl⟩
 have hrun0:(execOp a.eval o0).run prog w=.ok (.value (gN w.heap.size 0 0 0)) (w.alloc (.cells #[] 5)):=by
  simp[execOp,hop0,IM w]
 refine pB ho0 hg0 (fU hrun0 ?_);rw[hd0];have hb1:Below w.heap.size w (w.alloc (.cells #[] 5)):=(Below.refl _ w).alloc (Nat.le_refl _) _;have hap:AppAt (w.alloc (.cells #[] 5)) w.heap.size 5 4 0 0:=⟨#[],World.alloc_heap_new _ _,Nat.le_refl _,Nat.zero_le _,rfl⟩;generalize hc0:w.heap.size=c0 at hap;have hc0':w0.heap.size≤c0:=by rw[←hc0]; exact hbl.size
 generalize w.alloc (.cells #[] 5)=w1 at *;have hb1:Below w0.heap.size w0 w1:=hbl.trans (hb1.mono (by rw[hc0]; exact hc0'));have hS:=jQ (nt:=8) (w:=w1) (a:=a.put (some 5) (gN c0 0 0 0)) (ts:=[(5,gN c0 0 0 0),(0,gN b o 32 m)]) hd (by rw[cJ]; exact hsz) (fun x hx=>by
  simp only[List.mem_cons,List.not_mem_nil,or_false]at hx
  rcases hx with rfl|rfl
  ·exact dJ _ _ _ (by rw[hsz]; decide)
  ·exact PF t0 (by simp))
 refine lR (c:=SP T0 _) (hT _ _ 0) (hG _ _) (RR _ _) trivial (by kernel_rfl) hS fun a2 w2 hA => ?_
 obtain⟨o2,ho2,⟨ty,hop2⟩,hd2,hg2⟩:∃x,(nN xJ)[2]?=some x∧(∃ty:Nat,x.op=.call ⟨.builtin .append,#[.tmp 5,.tmp 6],#[50,50]⟩∧x.type=ty)∧x.dst=some 7∧x.guard=none:=⟨_,rfl,⟨_,rfl,rfl⟩,rfl,rfl⟩
 have hb':=Nat.lt_of_lt_of_le hbw (hb1.trans (hA.below.mono hb1.size)).size;have hr:=eK (hb1.trans (hA.below.mono hb1.size)) hbw hrw;obtain⟨c,cap,w3,hr',a1,q2,q3,q4,a5,a6,a7⟩:=nE (P:=prog) w2 (ty:=o2.type) TJ (u:=gN c0 0 0 0) (n:=0) (xs:=[]) (Or.inr ⟨c0,0,rfl,hap.shape hA.shapeJ,fun j v hj=>by simp at hj,rfl⟩) (ad:=⟨b,o,none⟩) (m:=32) (c:=m) (news:=aA (bj f)) (by rw[aF]; kernel_rfl) (fun j v hj=>by
  have e:(⟨b,o,none⟩:Addr).add j=⟨b,o+j,none⟩:=by simp[Addr.add]
  rw[e];exact hr j v hj) (SE f) (by decide) (by omega) (by unfold maxLen; omega)
 rw[Nat.zero_add]at hr';have hcap:32≤cap:=by obtain⟨_,_,h,_⟩:=a1; omega
 have hrun2:(execOp a2.eval o2).run prog w2=.ok (.value (gN c 0 32 cap)) w3:=by
  unfold execOp;simp only[hop2.1,resolve,invoke,builtin,Sem.run_bind,Sem.run_pure,Result.andThen_ok,List.map_toArray,List.map_cons,List.map_nil,NW (hA.slot (s:=5) (v:=gN c0 0 0 0) (by simp)),NW (hA.slot (s:=6) (v:=gN b o 32 m) (by simp))];rw[show gN b o 32 m=Value.slice (some ⟨b,o,none⟩) 32 m from rfl,hr'];rfl
 refine pB ho2 hg2 (fU hrun2 ?_);rw[hd2];have hb2:Below w0.heap.size w0 w2:=hb1.trans (hA.below.mono hb1.size);have hb3:Below w0.heap.size w0 w3:=hb2.grown a5 hb2.size (fun k hk=>by
  have:k=c0:=by simpa[gN,Value.ownBlock,eq_comm]using hk
  omega)
 have hcge:w0.heap.size≤c:=by
  rcases a7 with h|⟨cap0,h⟩
  ·exact Nat.le_trans hb2.size h
  ·have:c0=c:=by simp only[gN,Value.slice.injEq,Option.some.injEq,Addr.mk.injEq]at h; exact h.1.1
   omega
 have hS3:=jQ (nt:=8) (w:=w3) (a:=a2.put (some 7) (gN c 0 32 cap)) (ts:=[(7,gN c 0 32 cap)]) hA.defers (by rw[cJ]; exact hA.size) (fun x hx=>by
  cases List.mem_singleton.1 hx;exact dJ _ _ _ (by rw[hA.size]; decide))
 refine lR (c:=SP T0 _) (hT _ _ 0) (hG _ _) (RQ _) trivial (by kernel_rfl) hS3 fun a4 w4 hA4 => ?_
 have hO:Own w3 c (bj f):=⟨q2,q3,q4⟩;exact wp_ret (BM (l:=[.im (gN c 0 32 cap)]) (r:=.one (.im (gN c 0 32 cap))) (by kernel_rfl) (by kernel_rfl) hA4 ⟨c,cap,rfl,hb3.trans (hA4.below.mono hb3.size),hcge,(hO.onJ hA4.below).lt,(hO.onJ hA4.below).row,(hO.onJ hA4.below).free,fun _=>a1.shape hA4.shapeJ⟩)
def ZC (f:Nat→Nat):List CA→Option (List Prop×FS)
 | [.s l n m]=>some ([n=32,aA l=aA (bj f)],⟨bj f,32,5,1,true,[],[]⟩)
 | _=>none
theorem QZ (f:Nat→Nat):∀cs pre r,ZC f cs=some (pre,r)→aQ pre→∀(args:List Value) (w:World),bZ w cs args→Calls prog 82 args.toArray w (fun e w'=>r.ok w e w'):=by
 intro cs pre r hg hp args w ha;unfold ZC at hg;split at hg
 ·rename_i l n m;cases hg;obtain⟨rfl,he,_⟩:=hp
  match args,ha with
  | [v],ha =>
   obtain⟨b,o,rfl,hb,hr⟩:=ha.1;exact BU hb (he▸hr)
  | [],ha=>exact ha.elim
  | _::_::_,ha=>exact ha.2.elim
 ·cases hg
theorem Holds.anew {nt base:Nat} {w0:World} {A:List Fact} {a:Act} {w:World} (h:Holds nt base w0 A a w) {w':World} (hb:Below base w0 w') (hs:Shape w w') (hh:base≤w'.heap.size) {d k b n:Nat} {l:List At} (hd:d<nt) (h1:base≤b) (h2:b<w'.heap.size) (h3:w'.rangeAt b 0 (aA l)) (h4:∀j,w'.frozen? ⟨b,j,none⟩=false) (hk:k≠nt) :
  Holds nt base w0 [.slot d (.sl k 0 n n),.row k true l] (a.put (some d) (gN b 0 n n)) w':=by
 obtain⟨β,g1,g2,g3,gt⟩:=h.facts;refine⟨by rw[fD]; exact h.defers,by rw[cJ]; exact h.size,hb,hh,fun j=>if j=nt then (0,0,0)else (b,0,0),fun φ hφ => ?_,fun k1 k2 o2 l1 l2 q1 q2 hne => ?_,fun k1 l1 q1=>Or.inr ?_,?_,fun p p1 p2 => ?_,gt.shape.trans hs⟩
 ·simp only[List.mem_cons,List.not_mem_nil,or_false]at hφ
  rcases hφ with rfl|rfl
  ·show (a.put (some d) _).tmps[d]?=_;rw[dJ _ _ _ (by rw[h.size]; exact hd)];simp[AV.den,hk,gN]
  ·refine⟨by simp[hk,h2],?_,fun _=>⟨by simp[hk,h1],by simp[hk],fun j=>by simp[hk,h4]⟩,fun h=>by cases h⟩;show w'.rangeAt (if k=nt then ((0,0,0):Bk)else (b,0,0)).1 (if k=nt then ((0,0,0):Bk)else (b,0,0)).2.1 _;rw[if_neg hk]; exact h3
 ·simp only[List.mem_cons,List.not_mem_nil,or_false,reduceCtorEq,false_or]at q1 q2;cases q1; cases q2; exact (hne rfl).elim
 ·show (if nt=nt then ((0,0,0):Bk)else (b,0,0)).1≤_;rw[if_pos rfl]; exact Nat.zero_le _
 ·show (if nt=nt then ((0,0,0):Bk)else (b,0,0)).1≤_;rw[if_pos rfl]; exact Nat.zero_le _
 ·exfalso;have h2:p.block<(if nt=nt then ((0,0,0):Bk)else (b,0,0)).1:=p2;rw[if_pos rfl]at h2;exact absurd h2 (Nat.not_lt_zero _)
def u3 (n:Nat):Value:=.int .u32 (Int.ofNat n)
def FL (z:Int) (b:Nat):Prop:=∃(s:Bool) (k:Nat),Ieee.double.read b=.number s (z.natAbs*2^k) (-(k:Int))∧(z=0∨s=decide (z<0))
theorem RO:Ieee.double.signWeight=2^63:=by decide
theorem zM:Ieee.double.binade=2^52:=by decide
theorem zL:Ieee.double.infRung=2047*2^52:=by decide
theorem xD:Ieee.double.leastPlace = -1074:=by decide
theorem AN (s:Bool) {e m:Nat} (he:e<2046) (hm:m<2^52):Ieee.double.read (Ieee.double.word s ((e+1)*2^52+m))=.number s (2^52+m) (-1074+(e:Int)):=by
 have h1:(e+1)*2^52+m<2^63:=by omega
 unfold Ieee.Format.read Ieee.Format.word;simp only[RO,zM,zL,xD];have h2:(if s=true then 2^63+((e+1)*2^52+m)else (e+1)*2^52+m)%2^63=(e+1)*2^52+m:=by cases s<;>simp<;>omega
 have h3:((if s=true then 2^63+((e+1)*2^52+m)else (e+1)*2^52+m)/2^63%2==1)=s:=by cases s<;>simp<;>omega
 rw[h2,h3,if_neg (by omega),if_pos (by omega)];have h4:((e+1)*2^52+m)%2^52=m:=by omega
 have h5:((e+1)*2^52+m)/2^52-1=e:=by omega
 rw[h4,h5]
theorem AM (s:Bool):Ieee.double.read (Ieee.double.word s 0)=.number s 0 (-1074):=by
 cases s<;>decide
theorem FL.write {s:Bool} {z:Int} {k:Nat} (hz:z.natAbs<2^53) (hs:z=0∨s=decide (z<0)):FL z (Ieee.double.write (.number s (z.natAbs*2^k) (-(k:Int)))):=by
 by_cases h0:z=0
 ·subst h0;refine⟨s,1074,?_,Or.inl rfl⟩;show Ieee.double.read (Ieee.double.nearest s (0*2^k) _)=_;unfold Ieee.Format.nearest;rw[Nat.zero_mul,if_pos rfl,AM];have e:∀n:Nat,(0:Int).natAbs*n=0:=fun n=>Nat.zero_mul n
  rw[e]<;>rfl
 ·have hn:z.natAbs≠0:=by omega
  obtain⟨L,hL1,hL2⟩:∃L,2^L≤z.natAbs∧z.natAbs<2^(L+1):=⟨z.natAbs.log2,Nat.log2_self_le hn,Nat.lt_log2_self⟩
  have hL:L≤52:=by
   rcases Nat.lt_or_ge 52 L with h|h
   ·have:=Nat.pow_le_pow_right (n:=2) (by omega) (show 53≤L by omega);omega
   ·exact h
  have hpos:z.natAbs*2^k≠0:=Nat.mul_ne_zero hn (Nat.pos_iff_ne_zero.1 (Nat.two_pow_pos k));have hlog:(z.natAbs*2^k).log2=L+k:=by
   refine (Nat.log2_eq_iff hpos).2 ⟨?_,?_⟩
   ·rw[Nat.pow_add]; exact Nat.mul_le_mul_right _ hL1
   ·rw[show L+k+1=(L+1)+k by omega,Nat.pow_add]; exact (Nat.mul_lt_mul_right (Nat.two_pow_pos k)).2 hL2
  have hkept:Ieee.Toward.even.cut s ((z.natAbs*2^k) <<< (-(k:Int)-((L:Int)-52)).toNat) (((L:Int)-52) - -(k:Int)).toNat=z.natAbs*2^(52-L):=by
   rcases Nat.lt_or_ge (52-L) k with h|h
   ·
    have e1:(-(k:Int)-((L:Int)-52)).toNat=0:=by omega
    have e2:(((L:Int)-52) - -(k:Int)).toNat=k-(52-L):=by omega
    rw[e1,e2,Nat.shiftLeft_zero];have e3:z.natAbs*2^k=z.natAbs*2^(52-L)*2^(k-(52-L)):=by rw[Nat.mul_assoc,←Nat.pow_add,show 52-L+(k-(52-L))=k by omega]
    unfold Ieee.Toward.cut;have e4:min (k-(52-L)) ((z.natAbs*2^k).log2+2)=k-(52-L):=by rw[hlog]; omega
    simp only[e4,Nat.one_shiftLeft];have e5:z.natAbs*2^k/2^(k-(52-L))=z.natAbs*2^(52-L):=by rw[e3,Nat.mul_div_cancel _ (Nat.two_pow_pos _)]
    have e6:z.natAbs*2^k%2^(k-(52-L))=0:=by rw[e3,Nat.mul_mod_left]
    rw[e5,e6];have hg:=Nat.two_pow_pos (k-(52-L));have e7:decide (2^(k-(52-L))<2*0)=false:=decide_eq_false (by omega);have e8:(2^(k-(52-L))==2*0)=false:=by rw[beq_eq_false_iff_ne]; omega
    rw[e7,e8];rfl
   ·have e1:(-(k:Int)-((L:Int)-52)).toNat=52-L-k:=by omega
    have e2:(((L:Int)-52) - -(k:Int)).toNat=0:=by omega
    rw[e1,e2,Nat.shiftLeft_eq,Nat.mul_assoc,←Nat.pow_add,show k+(52-L-k)=52-L by omega];unfold Ieee.Toward.cut;simp[Nat.mod_one]
  have hk1:2^52≤z.natAbs*2^(52-L):=by
   have:=Nat.mul_le_mul_right (2^(52-L)) hL1
   rwa [←Nat.pow_add,show L+(52-L)=52 by omega]at this
  have hk2:z.natAbs*2^(52-L)<2^53:=by
   have:=(Nat.mul_lt_mul_right (Nat.two_pow_pos (52-L))).2 hL2
   rwa [←Nat.pow_add,show L+1+(52-L)=53 by omega]at this
  refine⟨s,52-L,?_,Or.inr (hs.resolve_left h0)⟩;show Ieee.double.read (Ieee.double.nearest s (z.natAbs*2^k) (-(k:Int)))=_;unfold Ieee.Format.nearest;rw[if_neg hpos];have hfb:((Ieee.double.fractionBits:Nat):Int)=52:=rfl;have elast:max (-(k:Int)+((z.natAbs*2^k).log2:Int)-(Ieee.double.fractionBits:Int)) Ieee.double.leastPlace=(L:Int)-52:=by
   rw[hlog,hfb,xD]; omega
  simp only[elast];rw[hkept,xD,zM,zL];generalize z.natAbs*2^(52-L)=K at hk1 hk2 ⊢;have e9:((L:Int)-52 - -1074).toNat=L+1022:=by omega
  rw[e9];have hB:(2:Nat)^53=2*2^52:=by rw[Nat.pow_succ,Nat.mul_comm]
  rw[hB]at hk2;have hr:=AN s (e:=L+1022) (m:=K-2^52) (by omega);generalize (2:Nat)^52=B at hk1 hk2 hr ⊢;have hr:=hr (by omega);have Bt:(L+1022)*B≤1074*B:=Nat.mul_le_mul_right _ (by omega);have e13:(L+1022)*B+K≤2047*B:=by omega
  have e14:(L+1022+1)*B=(L+1022)*B+B:=by rw[Nat.add_mul _ 1,Nat.one_mul]
  have e10:min ((L+1022)*B+K) (2047*B)=(L+1022+1)*B+(K-B):=by rw[Nat.min_eq_left e13,e14]; omega
  rw[e10,hr];have e11:B+(K-B)=K:=by omega
  rw[e11];congr 1;omega
theorem pD {s:Bool} {z:Int} {k K:Nat} (hk:k≤K) (hs:z=0∨s=decide (z<0)):Ieee.signed s (z.natAbs*2^k) (K-k)=z*(2^K:Nat):=by
 have e:(z.natAbs*2^k) <<< (K-k)=z.natAbs*2^K:=by rw[Nat.shiftLeft_eq,Nat.mul_assoc,←Nat.pow_add,show k+(K-k)=K by omega]
 unfold Ieee.signed;rw[e];generalize 2^K=B
 rcases hs with rfl|rfl
 ·cases s<;>simp
 ·by_cases h:z<0
  ·rw[decide_eq_true h,if_pos rfl];have:((z.natAbs*B:Nat):Int) = -z*(B:Int):=by rw[Int.natCast_mul,show ((z.natAbs:Nat):Int) = -z by omega]
   rw[this,Int.neg_mul,Int.neg_neg]
  ·rw[decide_eq_false h,if_neg (by simp)];rw[Int.natCast_mul,show ((z.natAbs:Nat):Int)=z by omega]
theorem FL.sum {z y:Int} {s t:Bool} {k l:Nat} (hs:z=0∨s=decide (z<0)) (ht:y=0∨t=decide (y<0)) (hb:(z+y).natAbs<2^53):∃d,Ieee.Datum.sum (.number s (z.natAbs*2^k) (-(k:Int))) (.number t (y.natAbs*2^l) (-(l:Int)))=some d∧FL (z+y) (Ieee.double.write d):=by
 have ebase:min (-(k:Int)) (-(l:Int)) = -((max k l:Nat):Int):=by omega
 have e1:(-(k:Int) - -((max k l:Nat):Int)).toNat=max k l-k:=by omega
 have e2:(-(l:Int) - -((max k l:Nat):Int)).toNat=max k l-l:=by omega
 refine⟨_,rfl,?_⟩;simp only[ebase,e1,e2,pD (Nat.le_max_left k l) hs,pD (Nat.le_max_right k l) ht];rw[←Int.add_mul];have hp:0<2^(max k l):=Nat.two_pow_pos _;have ea:((z+y)*((2^(max k l):Nat):Int)).natAbs=(z+y).natAbs*2^(max k l):=by rw[Int.natAbs_mul,Int.natAbs_natCast]
 rw[ea];refine FL.write hb ?_
 by_cases h0:z+y=0
 ·exact Or.inl h0
 ·right;have hB:(0:Int)<((2^(max k l):Nat):Int):=by omega
  have hne:(z+y)*((2^(max k l):Nat):Int)≠0:=Int.mul_ne_zero h0 (by omega);rw[if_neg hne];congr 1;exact propext ⟨fun h=>by
   rcases (show z+y<0∨0≤z+y by omega)with q|q
   ·exact q
   ·exact absurd h (Int.not_lt.2 (Int.mul_nonneg q (Int.le_of_lt hB))),fun h=>Int.mul_neg_of_neg_of_pos h hB⟩
theorem FL.add {z y:Int} {a b:Nat} (h1:FL z a) (h2:FL y b) (hb:(z+y).natAbs<2^53):∃r,floatBits .add .f64 a b=some r∧FL (z+y) r:=by
 obtain⟨s,k,e1,hs⟩:=h1;obtain⟨t,l,e2,ht⟩:=h2;obtain⟨d,hd,hf⟩:=FL.sum (k:=k) (l:=l) hs ht hb;refine⟨_,?_,hf⟩;show ((Ieee.double.read a).sum (Ieee.double.read b)).map Ieee.double.write=_;rw[e1,e2,hd];rfl
theorem FL.sub {z y:Int} {a b:Nat} (h1:FL z a) (h2:FL y b) (hb:(z-y).natAbs<2^53):∃r,floatBits .sub .f64 a b=some r∧FL (z-y) r:=by
 obtain⟨s,k,e1,hs⟩:=h1;obtain⟨t,l,e2,ht⟩:=h2;have ht2 : -y=0∨(!t)=decide (-y<0):=by
  by_cases h0:y=0
  ·left; omega
  ·right;rw[ht.resolve_left h0]
   by_cases h:y<0
   ·rw[decide_eq_true h,decide_eq_false (by omega)]; rfl
   ·rw[decide_eq_false h,decide_eq_true (by omega)]; rfl
 obtain⟨d,hd,hf⟩:=FL.sum (k:=k) (l:=l) hs ht2 (by rw[←Int.sub_eq_add_neg]; exact hb);rw[←Int.sub_eq_add_neg]at hf;refine⟨_,?_,hf⟩;show ((Ieee.double.read a).sum (Ieee.double.read b).opposite).map Ieee.double.write=_;rw[e1,e2];rw[Int.natAbs_neg]at hd;show (Ieee.Datum.sum _ (.number (!t) _ _)).map Ieee.double.write=_;rw[hd];rfl
theorem FL.mul {z y:Int} {a b:Nat} (h1:FL z a) (h2:FL y b) (hb:(z*y).natAbs<2^53):∃r,floatBits .mul .f64 a b=some r∧FL (z*y) r:=by
 obtain⟨s,k,e1,hs⟩:=h1;obtain⟨t,l,e2,ht⟩:=h2;refine⟨Ieee.double.write (.number (s ^^ t) ((z*y).natAbs*2^(k+l)) (-((k+l:Nat):Int))),?_,FL.write hb ?_⟩
 ·show ((Ieee.double.read a).product (Ieee.double.read b)).map Ieee.double.write=_;rw[e1,e2];show some (Ieee.double.write (.number (s ^^ t) (z.natAbs*2^k*(y.natAbs*2^l)) (-(k:Int) + -(l:Int))))=_;have e3:z.natAbs*2^k*(y.natAbs*2^l)=(z*y).natAbs*2^(k+l):=by rw[Int.natAbs_mul,Nat.pow_add,Nat.mul_mul_mul_comm]
  have e4 : -(k:Int) + -(l:Int) = -((k+l:Nat):Int):=by omega
  rw[e3,e4]
 ·by_cases h0:z=0
  ·left; rw[h0,Int.zero_mul]
  ·by_cases h3:y=0
   ·left; rw[h3,Int.mul_zero]
   ·right;rw[hs.resolve_left h0,ht.resolve_left h3]
    rcases (show z<0∨0≤z by omega)with q|q<;>rcases (show y<0∨0≤y by omega)with q'|q'
    ·rw[decide_eq_true q,decide_eq_true q',decide_eq_false (Int.not_lt.2 (Int.le_of_lt (Int.mul_pos_of_neg_of_neg q q')))]; rfl
    ·rw[decide_eq_true q,decide_eq_false (Int.not_lt.2 q'),decide_eq_true (Int.mul_neg_of_neg_of_pos q (by omega))]; rfl
    ·rw[decide_eq_false (Int.not_lt.2 q),decide_eq_true q',decide_eq_true (Int.mul_neg_of_pos_of_neg (by omega) q')]; rfl
    ·rw[decide_eq_false (Int.not_lt.2 q),decide_eq_false (Int.not_lt.2 q'),decide_eq_false (Int.not_lt.2 (Int.mul_nonneg q q'))]; rfl
def iV (z:Int):Value:=.int .i64 z
def x4 (X:Nat→Int):List At:=[.c (iV (X 0)),.c (iV (X 1)),.c (iV (X 2)),.c (iV (X 3))]
def z4:Nat→Int:=fun _=>0
def YI (X:Nat→Int):Prop:=∀k,k<4 → -1099511627776≤X k∧X k≤1099511627776
instance (X:Nat→Int):Decidable (YI X):=Nat.decidableBallLT 4 fun k _ => -1099511627776≤X k∧X k≤1099511627776
theorem LV.take {w:World} {p:Option Addr} {N m T:Nat} {f:Nat→Nat} (h:LV w (.slice p N m) N f) (hT:T≤N):LV w (.slice p T m) T f:=by
 obtain⟨p',m',e,h2,h3,h4⟩:=h;cases e;refine⟨p,m,rfl,Nat.le_trans hT h2,fun j hj=>h3 j (by omega),fun h0 => ?_⟩;obtain⟨b,o,e,hb,hr⟩:=h4 (by omega);refine⟨b,o,e,hb,fun j x hj=>hr j x ?_⟩;have key:∀(i n s:Nat),i≤n→kL (el f) s n=kL (el f) s i++kL (el f) (s+i) (n-i):=fun i=>by
  induction i with
  | zero=>intro n s _; rfl
  | succ i ih =>
   intro n s h;obtain⟨n,rfl⟩:∃k,n=k+1:=⟨n-1,by omega⟩
   show el f s++kL (el f) (s+1) n=(el f s++kL (el f) (s+1) i)++_;rw[ih n (s+1) (by omega),List.append_assoc,show s+1+i=s+(i+1) by omega,show n+1-(i+1)=n-i by omega]
 rw[key T N 0 hT,aJ,List.getElem?_append_left (List.getElem?_eq_some_iff.1 hj).1];exact hj
end Go.Proofs.Ytjeplinbleofnaa.Ex
namespace Go.Proofs.Ytjeplinbleofnaa
open Go.Proofs.Try
open Go.RowKit
def AC (a0 a1 a2 a3 a4 a5 a6 a7:Nat):Nat:=a0+4294967296*(a1+4294967296*(a2+4294967296*(a3+4294967296*(a4+4294967296*(a5+4294967296*(a6+4294967296*a7))))))
def UR (a0 a1 a2 a3 a4 a5 a6 a7:Nat):Prop:=a0<4294967296∧a1<4294967296∧a2<4294967296∧a3<4294967296∧a4<4294967296∧a5<4294967296∧a6<4294967296∧a7<4294967296
structure QW (w wr:World) (A B P:Nat→Nat):Prop where
 below:Below w.heap.size w wr
 size:w.heap.size+1+1+1<wr.heap.size
 rowA:RowIs wr w.heap.size 4 A
 rowB:RowIs wr (w.heap.size+1) 4 B
 rowR:RowIs wr (w.heap.size+1+1) 4 (fun _=>0)
 rowP:RowIs wr (w.heap.size+1+1+1) 4 P
theorem QW.set {w wr:World} {A B P:Nat→Nat} (h:QW w wr A B P) {k d:Nat} (hk:k<4):QW w (wr.setCell ⟨w.heap.size+1+1+1,k,none⟩ (.int .u64 (d:Nat))) A B (oP P k d) :=
 ⟨h.below.setCell (p:=⟨w.heap.size+1+1+1,k,none⟩) (by simp; omega) _,by rw[World.size_setCell]; exact h.size,h.rowA.other (by omega) _,h.rowB.other (by omega) _,h.rowR.other (by omega) _,h.rowP.set hk⟩
theorem QW.drewN {w wr:World} {A B P:Nat→Nat} (h:QW w wr A B P) (n:Nat):QW w (wr.drewN n) A B P:=⟨h.below.trans (aV _ _ _),h.size,h.rowA,h.rowB,h.rowR,h.rowP⟩
theorem QW.start (w:World) (a0 a1 a2 a3 b0 b1 b2 b3:Nat) (t:TypeId):QW w ((((w.alloc (.cells #[.int .u64 a0,.int .u64 a1,.int .u64 a2,.int .u64 a3] t)).alloc (.cells #[.int .u64 b0,.int .u64 b1,.int .u64 b2,.int .u64 b3] t)).alloc (.cells #[.int .u64 0,.int .u64 0,.int .u64 0,.int .u64 0] t)).alloc (.cells #[.int .u64 0,.int .u64 0,.int .u64 0,.int .u64 0] t)) (dG [a0,a1,a2,a3]) (dG [b0,b1,b2,b3]) (fun _=>0):=by
 refine⟨?_,by simp,?_,?_,?_,?_⟩
 ·repeat (first|exact Below.refl _ _|refine Below.alloc ?_ (by first|(simp; done)|(simp; omega)) _)
 ·exact RowIs.mk4 (by simp[go_sem]) (by simp[go_sem]) (by simp[go_sem]) (by simp[go_sem]) (fun k=>by simp[go_sem])
 ·exact RowIs.mk4 (by simp[go_sem]) (by simp[go_sem]) (by simp[go_sem]) (by simp[go_sem]) (fun k=>by simp[go_sem])
 ·intro k hk
  match k,hk with
  | 0,_|1,_|2,_|3,_=>exact⟨by simp[go_sem],by simp[go_sem]⟩
 ·intro k hk
  match k,hk with
  | 0,_|1,_|2,_|3,_=>exact⟨by simp[go_sem],by simp[go_sem]⟩
def IZ (A:Nat) (t:Value):Prop:=∃x0 x1 x2 x3 x4 x5 x6 x7:Nat,t=.agg #[.int .u64 x0,.int .u64 x1,.int .u64 x2,.int .u64 x3,.int .u64 x4,.int .u64 x5,.int .u64 x6,.int .u64 x7]∧UR x0 x1 x2 x3 x4 x5 x6 x7∧Hid (AC x0 x1 x2 x3 x4 x5 x6 x7=A)
def xZ (wr u:World) (t:Value):Prop:=∃p,t=.pointer (some ⟨p,0,none⟩)∧wr.heap.size≤p∧p<u.heap.size∧RowIs u p 8 (fun _=>0)
def set8 (w:World) (b:Nat) (d0 d1 d2 d3 d4 d5 d6 d7:Nat):World :=
 (((((((w.setCell ⟨b,0,none⟩ (.int .u64 d0)).setCell ⟨b,1,none⟩ (.int .u64 d1)).setCell ⟨b,2,none⟩ (.int .u64 d2)).setCell ⟨b,3,none⟩ (.int .u64 d3)).setCell ⟨b,4,none⟩ (.int .u64 d4)).setCell ⟨b,5,none⟩ (.int .u64 d5)).setCell ⟨b,6,none⟩ (.int .u64 d6)).setCell ⟨b,7,none⟩ (.int .u64 d7)
theorem RowIs.ext {w:World} {b n:Nat} {P R:Nat→Nat} (h:RowIs w b n P) (e:∀k,k<n→P k=R k):RowIs w b n R:=fun k hk=>⟨by rw[←e k hk]; exact h.cell hk,h.free hk⟩
theorem RowIs.set8 {w:World} {b:Nat} {P:Nat→Nat} (h:RowIs w b 8 P) (d0 d1 d2 d3 d4 d5 d6 d7:Nat):RowIs (Go.Proofs.Ytjeplinbleofnaa.set8 w b d0 d1 d2 d3 d4 d5 d6 d7) b 8 (dG [d0,d1,d2,d3,d4,d5,d6,d7]):=by
 have r:=(((((((h.set (show 0<8 by omega) (v:=d0)).set (show 1<8 by omega) (v:=d1)).set (show 2<8 by omega) (v:=d2)).set (show 3<8 by omega) (v:=d3)).set (show 4<8 by omega) (v:=d4)).set (show 5<8 by omega) (v:=d5)).set (show 6<8 by omega) (v:=d6)).set (show 7<8 by omega) (v:=d7);unfold Go.Proofs.Ytjeplinbleofnaa.set8;refine r.ext fun k hk => ?_
 match k,hk with
 | 0,_|1,_|2,_|3,_|4,_|5,_|6,_|7,_=>rfl
theorem RowIs.set8_other {w:World} {b c n:Nat} {P:Nat→Nat} (h:RowIs w b n P) (hc:c≠b) (d0 d1 d2 d3 d4 d5 d6 d7:Nat):RowIs (Go.Proofs.Ytjeplinbleofnaa.set8 w c d0 d1 d2 d3 d4 d5 d6 d7) b n P :=
 (((((((h.other hc _).other hc _).other hc _).other hc _).other hc _).other hc _).other hc _).other hc _
theorem jK {B:Nat} {w w':World} {b:Nat} (h:Below B w w') (hb:B≤b) (d0 d1 d2 d3 d4 d5 d6 d7:Nat):Below B w (set8 w' b d0 d1 d2 d3 d4 d5 d6 d7) :=
 (((((((h.setCell (p:=⟨b,0,none⟩) hb _).setCell (p:=⟨b,1,none⟩) hb _).setCell (p:=⟨b,2,none⟩) hb _).setCell (p:=⟨b,3,none⟩) hb _).setCell (p:=⟨b,4,none⟩) hb _).setCell (p:=⟨b,5,none⟩) hb _).setCell (p:=⟨b,6,none⟩) hb _).setCell (p:=⟨b,7,none⟩) hb _
theorem dC (w:World) (b d0 d1 d2 d3 d4 d5 d6 d7:Nat):(set8 w b d0 d1 d2 d3 d4 d5 d6 d7).heap.size=w.heap.size:=by
 unfold set8; simp only[World.size_setCell]
theorem oB {x0 x1 x2 x3 x4 x5 x6 x7:Nat} (h:UR x0 x1 x2 x3 x4 x5 x6 x7) (k:Nat):dG [x0,x1,x2,x3,x4,x5,x6,x7] k<4294967296:=by
 obtain⟨h0,h1,h2,h3,h4,h5,h6,h7⟩:=h;unfold dG
 match k with
 | 0=>exact h0
 | 1=>exact h1
 | 2=>exact h2
 | 3=>exact h3
 | 4=>exact h4
 | 5=>exact h5
 | 6=>exact h6
 | 7=>exact h7
 | k+8=>simp
theorem mX (P:Nat→Nat):AC (P 0) (P 1) (P 2) (P 3) (P 4) (P 5) (P 6) (P 7)=fT 4294967296 P 8:=by
 unfold AC;simp only[fT];omega
structure R3 (got:Nat→Bool) (wr:World) (f:Int) (F:FC) (a0 a1 a2 a3 b0 b1 b2 b3:Nat) (t7 t8 t9 s21 s22 s23 s24 s25 s26 s27:Value) (u:World):Prop where
 below:Below wr.heap.size wr u
 g0:got 0=true→s21=.agg #[.int .u64 a0,.int .u64 a1,.int .u64 a2,.int .u64 a3]
 g1:got 1=true→IZ (aB a0 a1 a2 a3) s22
 g2:got 2=true→s23=.agg #[.int .u64 b0,.int .u64 b1,.int .u64 b2,.int .u64 b3]
 g3:got 3=true→IZ (aB b0 b1 b2 b3) s24
 g4:got 4=true→s25=.int .i64 f
 g5:got 5=true→s26=.agg #[.int .u64 F.m0,.int .u64 F.m1,.int .u64 F.m2,.int .u64 F.m3]
 g6:got 6=true→IZ F.M s27
 g7:got 7=true→xZ wr u t7
 g8:got 8=true→xZ wr u t8
 g9:got 9=true→xZ wr u t9
 n78:got 7=true→got 8=true→t7≠t8
 n79:got 7=true→got 9=true→t7≠t9
 n89:got 8=true→got 9=true→t8≠t9
section
variable {got:Nat→Bool} {wr u u':World} {f:Int} {F:FC} {a0 a1 a2 a3 b0 b1 b2 b3:Nat} {t7 t8 t9 s21 s22 s23 s24 s25 s26 s27:Value}
theorem R3.start (wr:World) (f:Int) (F:FC) (a0 a1 a2 a3 b0 b1 b2 b3:Nat):R3 (fun _=>false) wr f F a0 a1 a2 a3 b0 b1 b2 b3 undef undef undef undef undef undef undef undef undef undef wr.drew :=
 ⟨(Below.refl _ _).drew,fun h=>Bool.noConfusion h,fun h=>Bool.noConfusion h,fun h=>Bool.noConfusion h,fun h=>Bool.noConfusion h,fun h=>Bool.noConfusion h,fun h=>Bool.noConfusion h,fun h=>Bool.noConfusion h,fun h=>Bool.noConfusion h,fun h=>Bool.noConfusion h,fun h=>Bool.noConfusion h,fun h=>Bool.noConfusion h,fun h=>Bool.noConfusion h,fun h=>Bool.noConfusion h⟩
end
structure ThreeH (wr u:World) (p q r:Nat) (X Y Z:Nat→Nat) (A B M:Nat):Prop where
 below:Below wr.heap.size wr u
 lp:wr.heap.size≤p
 lq:wr.heap.size≤q
 lr:wr.heap.size≤r
 up:p<u.heap.size
 uq:q<u.heap.size
 ur:r<u.heap.size
 pq:p≠q
 pr:p≠r
 qr:q≠r
 rowX:RowIs u p 8 X
 rowY:RowIs u q 8 Y
 rowZ:RowIs u r 8 Z
 ltX:∀k,X k<4294967296
 ltY:∀k,Y k<4294967296
 ltZ:∀k,Z k<4294967296
 eX:fT 4294967296 X 8=A
 eY:fT 4294967296 Y 8=B
 eZ:fT 4294967296 Z 8=M
theorem ThreeH.store {wr u:World} {p q r A B M x0 x1 x2 x3 x4 x5 x6 x7 y0 y1 y2 y3 y4 y5 y6 y7 z0 z1 z2 z3 z4 z5 z6 z7:Nat} (hx:UR x0 x1 x2 x3 x4 x5 x6 x7) (hy:UR y0 y1 y2 y3 y4 y5 y6 y7) (hz:UR z0 z1 z2 z3 z4 z5 z6 z7) (ex:Hid (AC x0 x1 x2 x3 x4 x5 x6 x7=A)) (ey:Hid (AC y0 y1 y2 y3 y4 y5 y6 y7=B)) (ez:Hid (AC z0 z1 z2 z3 z4 z5 z6 z7=M))
  (lp:wr.heap.size≤p) (lq:wr.heap.size≤q) (lr:wr.heap.size≤r) (up:p<u.heap.size) (uq:q<u.heap.size) (ur:r<u.heap.size) (pq:p≠q) (pr:p≠r) (qr:q≠r) (rp:RowIs u p 8 (fun _=>0)) (rq:RowIs u q 8 (fun _=>0)) (rr:RowIs u r 8 (fun _=>0)) (hbl:Below wr.heap.size wr u) :
  ThreeH wr (set8 (set8 (set8 u p x0 x1 x2 x3 x4 x5 x6 x7) q y0 y1 y2 y3 y4 y5 y6 y7) r z0 z1 z2 z3 z4 z5 z6 z7) p q r (dG [x0,x1,x2,x3,x4,x5,x6,x7]) (dG [y0,y1,y2,y3,y4,y5,y6,y7]) (dG [z0,z1,z2,z3,z4,z5,z6,z7]) A B M :=
 ⟨jK (jK (jK hbl lp _ _ _ _ _ _ _ _) lq _ _ _ _ _ _ _ _) lr _ _ _ _ _ _ _ _,lp,lq,lr,by rw[dC,dC,dC]; exact up,by rw[dC,dC,dC]; exact uq,by rw[dC,dC,dC]; exact ur,pq,pr,qr,
  ((rp.set8 _ _ _ _ _ _ _ _).set8_other (fun e=>pq e.symm) _ _ _ _ _ _ _ _).set8_other (fun e=>pr e.symm) _ _ _ _ _ _ _ _,((rq.set8_other pq _ _ _ _ _ _ _ _).set8 _ _ _ _ _ _ _ _).set8_other (fun e=>qr e.symm) _ _ _ _ _ _ _ _,((rr.set8_other pr _ _ _ _ _ _ _ _).set8_other qr _ _ _ _ _ _ _ _).set8 _ _ _ _ _ _ _ _,oB hx,oB hy,oB hz,
  (mX (dG [x0,x1,x2,x3,x4,x5,x6,x7])).symm.trans ex.out,(mX (dG [y0,y1,y2,y3,y4,y5,y6,y7])).symm.trans ey.out,(mX (dG [z0,z1,z2,z3,z4,z5,z6,z7])).symm.trans ez.out⟩
structure MT (w wr:World) (p q r t:Nat) (X Y Z P:Nat→Nat):Prop where
 below:Below w.heap.size w wr
 res:Row4 wr (w.heap.size+1+1) 0 0 0 0
 rowX:RowIs wr p 8 X
 rowY:RowIs wr q 8 Y
 rowZ:RowIs wr r 8 Z
 rowP:RowIs wr t 10 P
 lt:∀k,P k<4294967296
section
variable {w wr:World} {p q r t:Nat} {X Y Z P:Nat→Nat}
theorem MT.set (h:MT w wr p q r t X Y Z P) (h2:w.heap.size+1+1<t) (pt:p<t) (qt:q<t) (rt:r<t) {k d:Nat} (hk:k<10) (hd:d<4294967296) :
  MT w (wr.setCell ⟨t,k,none⟩ (.int .u64 (d:Nat))) p q r t X Y Z (oP P k d) :=
 ⟨h.below.setCell (p:=⟨t,k,none⟩) (by show w.heap.size≤t; omega) _,h.res.other (by omega) _,h.rowX.other (by omega) _,h.rowY.other (by omega) _,h.rowZ.other (by omega) _,h.rowP.set hk,
  fun j=>by unfold oP; split; exact hd; exact h.lt j⟩
theorem MT.drewN (h:MT w wr p q r t X Y Z P) (n:Nat):MT w (wr.drewN n) p q r t X Y Z P:=⟨h.below.trans (aV _ _ _),h.res.drewN n,h.rowX,h.rowY,h.rowZ,h.rowP,h.lt⟩
end
structure OW (w wr:World) (t o:Nat) (P O:Nat→Nat):Prop where
 below:Below w.heap.size w wr
 res:Row4 wr (w.heap.size+1+1) 0 0 0 0
 rowP:RowIs wr t 10 P
 rowO:RowIs wr o 4 O
 lo:o<wr.heap.size
theorem OW.drewN {w wr:World} {t o:Nat} {P O:Nat→Nat} (h:OW w wr t o P O) (n:Nat):OW w (wr.drewN n) t o P O:=⟨h.below.trans (aV _ _ _),h.res.drewN n,h.rowP,h.rowO,h.lo⟩
theorem OW.set {w wr:World} {t o:Nat} {P O:Nat→Nat} (h:OW w wr t o P O) (h2:w.heap.size+1+1<t) (ht:t<o) {k d:Nat} (hk:k<4):OW w (wr.setCell ⟨o,k,none⟩ (.int .u64 (d:Nat))) t o P (oP O k d) :=
 ⟨h.below.setCell (p:=⟨o,k,none⟩) (by show w.heap.size≤o; omega) _,h.res.other (by omega) _,h.rowP.other (by omega) _,h.rowO.set hk,by rw[World.size_setCell]; exact h.lo⟩
end Go.Proofs.Ytjeplinbleofnaa
namespace Go.Proofs.Ytjeplinbleofnaa.Ex
open Go.Proofs.Try
open Go.RowKit
def WT (N:Nat) (f:Nat→Nat) (M:Nat) (g:Nat→Nat):Prop:=N=M∧∀j,j<N→f j=g j
instance (N:Nat) (f:Nat→Nat) (M:Nat) (g:Nat→Nat):Decidable (WT N f M g):=@instDecidableAnd _ _ _ (Nat.decidableBallLT N fun j _=>f j=g j)
theorem Holds.soSl {nt base:Nat} {w0:World} {A:List Fact} {a:Act} {w:World} (h:Holds nt base w0 A a w) {s k n e sz:Nat} {l:List At} (h1:Fact.slot s (.so k n)∈A) (h2:Fact.row k true l∈A) (h3:Fact.app k e sz n∈A):∃cap,n≤cap∧Holds nt base w0 (.slot s (.sl k 0 n cap)::A) a w:=by
 obtain⟨β,g1,g2,g3⟩:=h.facts;have e1:=g1 _ h1;obtain⟨_,_,e2,_⟩:=g1 _ h2;obtain⟨_,_,e3,_⟩:=g1 _ h3;have up:∀k1 o1 l1,Fact.row k1 o1 l1∈(Fact.slot s (.sl k 0 n (β k).2.2)::A)→Fact.row k1 o1 l1∈A:=fun k1 o1 l1 e=>by
  rcases List.mem_cons.1 e with e|e
  ·cases e
  ·exact e
 refine⟨(β k).2.2,e3,h.defers,h.size,h.below,h.heap,β,fun φ hφ => ?_,fun k1 k2 o2 l1 l2 q1 q2=>g2 k1 k2 o2 l1 l2 (up _ _ _ q1) (up _ _ _ q2),fun k1 l1 e=>g3.1 k1 l1 (up _ _ _ e),g3.2⟩
 rcases List.mem_cons.1 hφ with rfl|hφ
 ·exact e1
 ·exact g1 φ hφ
namespace AG
variable {G:Type} (A:AG G)
end AG
theorem HU (y:Fin RM):KR.sub aR (KR.mul dR (KR.mul y y))≠KR.zero:=fun h=>by
 have h1:aR=KR.mul dR (KR.mul y y):=gT h;have hs:KR.mul JS JS=aR:=of_decide_eq_true (by kernel_rfl)
 by_cases hy:y=KR.zero
 ·rw[hy,KR.zero_mul,KR.mul_zero]at h1;exact absurd (congrArg Fin.val h1) (by decide)
 ·have hi:=VO.inv _ hy;generalize BD y=k at hi;refine Am (KR.mul JS k) ?_;have e:KR.mul (KR.mul JS k) (KR.mul JS k)=KR.mul (KR.mul JS JS) (KR.mul k k):=aI KR (bA KR [JS,k]) (Z0*Z1*(Z0*Z1)) (Z0*Z0*(Z1*Z1)) (by kernel_rfl);have e2:KR.mul (KR.mul dR (KR.mul y y)) (KR.mul k k)=KR.mul dR (KR.mul (KR.mul y k) (KR.mul y k)):=aI KR (bA KR [dR,y,k]) (Z0*(Z1*Z1)*(Z2*Z2)) (Z0*(Z1*Z2*(Z1*Z2))) (by kernel_rfl);rw[e,hs,h1,e2,hi,KR.one_mul,KR.mul_one]
end Go.Proofs.Ytjeplinbleofnaa.Ex
