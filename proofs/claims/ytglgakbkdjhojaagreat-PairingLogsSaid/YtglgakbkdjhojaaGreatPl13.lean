/- Pl13 -/
import Derived.Test.YtglgakbkdjhojaaGreatPl12
import Derived.Test.YtglgakbkdjhojaaGreatPl10
import Derived.Test.YtglgakbkdjhojaaGreatPl03
import Derived.Test.YtglgakbkdjhojaaGreatProg
set_option maxRecDepth 100000
set_option linter.unusedVariables false
set_option linter.unusedSimpArgs false
noncomputable section
namespace Go.Proofs.YtglgakbkdjhojaaGreat.Ex
open Go.Proofs.Tryz
open Go.RowKit
def mR (c:Bool):kC
 | [.v (.im (.int .i64 (.ofNat 1))),.v (.fl l)]=>match vZ l with
  | some n=>some ([tU n=c],.one (.im (.bool c)))
  | none=>none
 | _=>none
theorem gO (c:Bool):∀cs pre r,mR c cs=some (pre,r)→bC pre→∀(args:List Value) (w:World),bZ w cs args→Good prog 79 r args w:=by
 intro cs pre r hg hp args w ha;unfold mR at hg;split at hg
 ·rename_i l;split at hg
  ·rename_i n hn;cases hg;have h:=aKg [.v (.im (.int .i64 (.ofNat 1))),.v (.fl l)] [] (.one (.im (.bool (tU n)))) (by show (match vZ l with|some n=>some ([],RV.one (.im (.bool (tU n))))|none=>none)=_; rw[hn]) trivial args w ha;rw[hp.1]at h;exact h
  ·cases hg
 ·cases hg
theorem mU {n:Nat}:tU n=true↔wv n<FP.M:=by unfold tU GX; exact decide_eq_true_iff
theorem RT {n:Nat}:tU n=false↔¬wv n<FP.M:=by unfold tU GX; exact decide_eq_false_iff_not
def kG (x:N2):Bool:=tU x.1&&tU x.2
def Yi:Tab:=(aKE).add 82 Gi
theorem aGJ:TabOk prog Yi:=(aOe).ad func82 Sq
def BN:Tab:=(Yi).add 84 VZ
theorem AK:TabOk prog BN:=(aGJ).ad func84 Sz
theorem Md (x:N2):aO prog (qG prog) (fun _=>⟨fun s=>(BN).add 79 (mR (bif Nat.beq s 5 then true else true)),fun s=>true,fun _=>none⟩) f87 60 [.v (.fl (q2 x))]=some ([tU x.1=true,tU x.2=true],.one (.im (.bool true))):=by kernel_rfl
theorem Me (x:N2):aO prog (qG prog) (fun _=>⟨fun s=>(BN).add 79 (mR (bif Nat.beq s 5 then true else false)),fun s=>true,fun _=>none⟩) f87 60 [.v (.fl (q2 x))]=some ([tU x.1=true,tU x.2=false],.one (.im (.bool false))):=by kernel_rfl
theorem aBq (x:N2):aO prog (qG prog) (fun _=>⟨fun s=>(BN).add 79 (mR (bif Nat.beq s 5 then false else true)),fun s=>true,fun _=>none⟩) f87 60 [.v (.fl (q2 x))]=some ([tU x.1=false],.one (.im (.bool false))):=by kernel_rfl
theorem aKb (c:Bool) (x:N2) (hp:kG x=c) (args:List Value) (w:World) (ha:bZ w [.v (.fl (q2 x))] args):Good prog 87 (.one (.im (.bool c))) args w:=by
 unfold kG at hp;cases h1:tU x.1 with
 | false =>
  rw[h1]at hp;subst hp;exact aB aE (fun _ s=>(AK).ad func79 (gO _)) (aJ prog) func87 (aBq x) ⟨h1,trivial⟩ ha
 | true =>
  cases h2:tU x.2 with
  | false =>
   rw[h1,h2]at hp;subst hp;exact aB aE (fun _ s=>(AK).ad func79 (gO _)) (aJ prog) func87 (Me x) ⟨h1,h2,trivial⟩ ha
  | true =>
   rw[h1,h2]at hp;subst hp;exact aB aE (fun _ s=>(AK).ad func79 (gO _)) (aJ prog) func87 (Md x) ⟨h1,h2,trivial⟩ ha
def aKP:Tab:=(BN).add 87 (g1 rq2 fun x=>([kG x=true],.one (.im (.bool true))))
theorem aGU:TabOk prog aKP:=(AK).ad func87 (bP pU fun x hp args w ha=>aKb true x hp.1 args w ha)
theorem aMo  : aO prog (qG prog) (fun _=>⟨fun s=>aKP,fun s=>true,fun _=>none⟩) f90 60 []=some ([],.one (.fl (e2 dO))):=by kernel_rfl
def mW:Tab:=(aKP).add 90 (g0 (.one (.fl (e2 dO))))
theorem iY:TabOk prog mW:=(aGU).ad func90 (gT fun w=>aB aE (fun _ s=>aGU) (aJ prog) func90 aMo trivial (args:=[]) trivial)
def vI (L k:Nat):Value:=if k<L then iI (L-1-k)else .int .i64 (-1)
theorem bAJ {L:Nat} (h:L≤256):aI .sub .i64 (Int.ofNat L) 1=some (vI L 0):=by
 unfold vI;cases L with
 | zero=>rfl
 | succ n =>
  rw[if_pos (by omega)];exact tO (k:=1) (i:=n+1) (by omega) (by omega)
theorem aLn {L k:Nat} (h:L≤256) (hk:k<L):aI .sub .i64 (Int.ofNat (L-1-k)) 1=some (vI L (k+1)):=by
 unfold vI
 by_cases e:k+1<L
 ·rw[if_pos e,←Nat.sub_sub (L-1) k 1];exact tO (k:=1) (by omega) (by omega)
 ·rw[if_neg e,show L-1-k=0 by omega];rfl
theorem UT (n:Nat):aI .geq .i64 (Int.ofNat n) 0=some (.bool true):=by
 show some (Value.bool (decide ((0:Int)≤Int.ofNat n)))=_;rw[decide_eq_true (show (0:Int)≤Int.ofNat n from Int.natCast_nonneg n)]
theorem Ku (x y:Nat):aO prog (qG prog) (fun _=>⟨fun s=>mW,fun s=>false,fun _=>none⟩) f33 60 [.v (.fl (kK (x,y,true)))]=some ([aA (q1 x)≠aA (e1 F1.zero)],.one (.im (.int .i64 44))):=by kernel_rfl
theorem Kt (x y:Nat):aO prog (qG prog) (fun _=>⟨fun s=>mW,fun s=>Nat.beq s 7,fun _=>none⟩) f33 60 [.v (.fl (kK (x,y,true)))]=some ([aA (q1 x)=aA (e1 F1.zero),aA (q1 y)≠aA (e1 F1.zero)],.one (.im (.int .i64 44))):=by kernel_rfl
theorem Ks (x y:Nat):aO prog (qG prog) (fun _=>⟨fun s=>mW,fun s=>true,fun _=>none⟩) f33 60 [.v (.fl (kK (x,y,true)))]=some ([aA (q1 x)=aA (e1 F1.zero),aA (q1 y)=aA (e1 F1.zero)],.one (.im (.int .i64 0))):=by kernel_rfl
theorem Bg (x y:Nat):aO prog (qG prog) (fun _=>⟨fun s=>(mW).add 79 (mR (bif Nat.beq s 27 then false else true)),fun s=>false,fun _=>none⟩) f33 60 [.v (.fl (kK (x,y,false)))]=some ([aA (q1 x)≠aA (e1 F1.zero),tU x=false],.one (.im (.int .i64 21))):=by kernel_rfl
theorem Bd (x y:Nat):aO prog (qG prog) (fun _=>⟨fun s=>(mW).add 79 (mR (bif Nat.beq s 27 then true else false)),fun s=>false,fun _=>none⟩) f33 60 [.v (.fl (kK (x,y,false)))]=some ([aA (q1 x)≠aA (e1 F1.zero),tU x=true,tU y=false],.one (.im (.int .i64 21))):=by kernel_rfl
theorem Ba (x y:Nat):aO prog (qG prog) (fun _=>⟨fun s=>(mW).add 79 (mR (bif Nat.beq s 27 then true else true)),fun s=>false,fun _=>none⟩) f33 80 [.v (.fl (kK (x,y,false)))]=some ([aA (q1 x)≠aA (e1 F1.zero),tU x=true,tU y=true,aA (e1 (F1.mul (m1 y) (m1 y)))≠aA (e1 (F1.add (F1.mul (m1 x) (F1.mul (m1 x) (m1 x))) (fm 3)))],.one (.im (.int .i64 41))):=by kernel_rfl
theorem Ax (x y:Nat):aO prog (qG prog) (fun _=>⟨fun s=>(mW).add 79 (mR (bif Nat.beq s 27 then true else true)),fun s=>false||Nat.beq s 51,fun _=>none⟩) f33 80 [.v (.fl (kK (x,y,false)))]=some ([aA (q1 x)≠aA (e1 F1.zero),tU x=true,tU y=true,aA (e1 (F1.mul (m1 y) (m1 y)))=aA (e1 (F1.add (F1.mul (m1 x) (F1.mul (m1 x) (m1 x))) (fm 3)))],.one (.im (.int .i64 0))):=by kernel_rfl
theorem Bf (x y:Nat):aO prog (qG prog) (fun _=>⟨fun s=>(mW).add 79 (mR (bif Nat.beq s 27 then false else true)),fun s=>Nat.beq s 7,fun _=>none⟩) f33 60 [.v (.fl (kK (x,y,false)))]=some ([aA (q1 x)=aA (e1 F1.zero),aA (q1 y)≠aA (e1 F1.zero),tU x=false],.one (.im (.int .i64 21))):=by kernel_rfl
theorem Bc (x y:Nat):aO prog (qG prog) (fun _=>⟨fun s=>(mW).add 79 (mR (bif Nat.beq s 27 then true else false)),fun s=>Nat.beq s 7,fun _=>none⟩) f33 60 [.v (.fl (kK (x,y,false)))]=some ([aA (q1 x)=aA (e1 F1.zero),aA (q1 y)≠aA (e1 F1.zero),tU x=true,tU y=false],.one (.im (.int .i64 21))):=by kernel_rfl
theorem Az (x y:Nat):aO prog (qG prog) (fun _=>⟨fun s=>(mW).add 79 (mR (bif Nat.beq s 27 then true else true)),fun s=>Nat.beq s 7,fun _=>none⟩) f33 80 [.v (.fl (kK (x,y,false)))]=some ([aA (q1 x)=aA (e1 F1.zero),aA (q1 y)≠aA (e1 F1.zero),tU x=true,tU y=true,aA (e1 (F1.mul (m1 y) (m1 y)))≠aA (e1 (F1.add (F1.mul (m1 x) (F1.mul (m1 x) (m1 x))) (fm 3)))],.one (.im (.int .i64 41))):=by kernel_rfl
theorem Aw (x y:Nat):aO prog (qG prog) (fun _=>⟨fun s=>(mW).add 79 (mR (bif Nat.beq s 27 then true else true)),fun s=>Nat.beq s 7||Nat.beq s 51,fun _=>none⟩) f33 80 [.v (.fl (kK (x,y,false)))]=some ([aA (q1 x)=aA (e1 F1.zero),aA (q1 y)≠aA (e1 F1.zero),tU x=true,tU y=true,aA (e1 (F1.mul (m1 y) (m1 y)))=aA (e1 (F1.add (F1.mul (m1 x) (F1.mul (m1 x) (m1 x))) (fm 3)))],.one (.im (.int .i64 0))):=by kernel_rfl
theorem Be (x y:Nat):aO prog (qG prog) (fun _=>⟨fun s=>(mW).add 79 (mR (bif Nat.beq s 27 then false else true)),fun s=>Nat.beq s 7||Nat.beq s 12,fun _=>none⟩) f33 60 [.v (.fl (kK (x,y,false)))]=some ([aA (q1 x)=aA (e1 F1.zero),aA (q1 y)=aA (e1 F1.zero),tU x=false],.one (.im (.int .i64 21))):=by kernel_rfl
theorem Bb (x y:Nat):aO prog (qG prog) (fun _=>⟨fun s=>(mW).add 79 (mR (bif Nat.beq s 27 then true else false)),fun s=>Nat.beq s 7||Nat.beq s 12,fun _=>none⟩) f33 60 [.v (.fl (kK (x,y,false)))]=some ([aA (q1 x)=aA (e1 F1.zero),aA (q1 y)=aA (e1 F1.zero),tU x=true,tU y=false],.one (.im (.int .i64 21))):=by kernel_rfl
theorem Ay (x y:Nat):aO prog (qG prog) (fun _=>⟨fun s=>(mW).add 79 (mR (bif Nat.beq s 27 then true else true)),fun s=>Nat.beq s 7||Nat.beq s 12,fun _=>none⟩) f33 80 [.v (.fl (kK (x,y,false)))]=some ([aA (q1 x)=aA (e1 F1.zero),aA (q1 y)=aA (e1 F1.zero),tU x=true,tU y=true,aA (e1 (F1.mul (m1 y) (m1 y)))≠aA (e1 (F1.add (F1.mul (m1 x) (F1.mul (m1 x) (m1 x))) (fm 3)))],.one (.im (.int .i64 41))):=by kernel_rfl
theorem Av (x y:Nat):aO prog (qG prog) (fun _=>⟨fun s=>(mW).add 79 (mR (bif Nat.beq s 27 then true else true)),fun s=>Nat.beq s 7||Nat.beq s 12||Nat.beq s 51,fun _=>none⟩) f33 80 [.v (.fl (kK (x,y,false)))]=some ([aA (q1 x)=aA (e1 F1.zero),aA (q1 y)=aA (e1 F1.zero),tU x=true,tU y=true,aA (e1 (F1.mul (m1 y) (m1 y)))=aA (e1 (F1.add (F1.mul (m1 x) (F1.mul (m1 x) (m1 x))) (fm 3)))],.one (.im (.int .i64 0))):=by kernel_rfl
theorem aMF (p:lJ) (args:List Value) (w:World) (ha:bZ w [.v (.fl (kK p))] args):Good prog 33 (.one (.im (.int .i64 (BD p.1 p.2.1 p.2.2).1))) args w:=by
 obtain⟨x,y,b⟩:=p;show Good _ _ (.one (.im (.int .i64 (BD x y b).1))) _ _;rw[DR];cases b with
 | true =>
  rw[if_pos rfl]
  by_cases hx:Ia x
  ·by_cases hy:Ia y
   ·rw[if_pos ⟨hx,hy⟩];exact aB aE (fun _ s=>iY) (aJ prog) func33 (Ks x y) ⟨dH.2 hx,dH.2 hy,trivial⟩ ha
   ·rw[if_neg (fun h=>hy h.2)];exact aB aE (fun _ s=>iY) (aJ prog) func33 (Kt x y) ⟨dH.2 hx,fun h=>hy (dH.1 h),trivial⟩ ha
  ·rw[if_neg (fun h=>hx h.1)];exact aB aE (fun _ s=>iY) (aJ prog) func33 (Ku x y) ⟨fun h=>hx (dH.1 h),trivial⟩ ha
 | false =>
  rw[if_neg (by simp)]
  by_cases hx:wV x
  ·by_cases hy:wV y
   ·rw[if_neg (fun h=>h ⟨hx,hy⟩)]
    by_cases h:F1.mul (m1 y) (m1 y)=F1.add (F1.mul (F1.mul (m1 x) (m1 x)) (m1 x)) (fm 3)
    ·rw[if_pos h];have h':F1.mul (m1 y) (m1 y)=F1.add (F1.mul (m1 x) (F1.mul (m1 x) (m1 x))) (fm 3):=by rw[h,F1.mul_comm (m1 x) (F1.mul (m1 x) (m1 x))]
     by_cases hx0:Ia x
     ·by_cases hy0:Ia y
      ·exact aB aE (fun _ s=>(iY).ad func79 (gO _)) (aJ prog) func33 (Av x y) ⟨dH.2 hx0,dH.2 hy0,(mU.2 hx),(mU.2 hy),by rw[h'],trivial⟩ ha
      ·exact aB aE (fun _ s=>(iY).ad func79 (gO _)) (aJ prog) func33 (Aw x y) ⟨dH.2 hx0,fun h=>hy0 (dH.1 h),(mU.2 hx),(mU.2 hy),by rw[h'],trivial⟩ ha
     ·exact aB aE (fun _ s=>(iY).ad func79 (gO _)) (aJ prog) func33 (Ax x y) ⟨fun h=>hx0 (dH.1 h),(mU.2 hx),(mU.2 hy),by rw[h'],trivial⟩ ha
    ·rw[if_neg h];have h':F1.mul (m1 y) (m1 y)≠F1.add (F1.mul (m1 x) (F1.mul (m1 x) (m1 x))) (fm 3):=by rw[F1.mul_comm (m1 x) (F1.mul (m1 x) (m1 x))]; exact h
     by_cases hx0:Ia x
     ·by_cases hy0:Ia y
      ·exact aB aE (fun _ s=>(iY).ad func79 (gO _)) (aJ prog) func33 (Ay x y) ⟨dH.2 hx0,dH.2 hy0,(mU.2 hx),(mU.2 hy),eC h',trivial⟩ ha
      ·exact aB aE (fun _ s=>(iY).ad func79 (gO _)) (aJ prog) func33 (Az x y) ⟨dH.2 hx0,fun h=>hy0 (dH.1 h),(mU.2 hx),(mU.2 hy),eC h',trivial⟩ ha
     ·exact aB aE (fun _ s=>(iY).ad func79 (gO _)) (aJ prog) func33 (Ba x y) ⟨fun h=>hx0 (dH.1 h),(mU.2 hx),(mU.2 hy),eC h',trivial⟩ ha
   ·rw[if_pos (fun h=>hy h.2)]
    by_cases hx0:Ia x
    ·by_cases hy0:Ia y
     ·exact aB aE (fun _ s=>(iY).ad func79 (gO _)) (aJ prog) func33 (Bb x y) ⟨dH.2 hx0,dH.2 hy0,(mU.2 hx),(RT.2 hy),trivial⟩ ha
     ·exact aB aE (fun _ s=>(iY).ad func79 (gO _)) (aJ prog) func33 (Bc x y) ⟨dH.2 hx0,fun h=>hy0 (dH.1 h),(mU.2 hx),(RT.2 hy),trivial⟩ ha
    ·exact aB aE (fun _ s=>(iY).ad func79 (gO _)) (aJ prog) func33 (Bd x y) ⟨fun h=>hx0 (dH.1 h),(mU.2 hx),(RT.2 hy),trivial⟩ ha
  ·rw[if_pos (fun h=>hx h.1)]
   by_cases hx0:Ia x
   ·by_cases hy0:Ia y
    ·exact aB aE (fun _ s=>(iY).ad func79 (gO _)) (aJ prog) func33 (Be x y) ⟨dH.2 hx0,dH.2 hy0,(RT.2 hx),trivial⟩ ha
    ·exact aB aE (fun _ s=>(iY).ad func79 (gO _)) (aJ prog) func33 (Bf x y) ⟨dH.2 hx0,fun h=>hy0 (dH.1 h),(RT.2 hx),trivial⟩ ha
   ·exact aB aE (fun _ s=>(iY).ad func79 (gO _)) (aJ prog) func33 (Bg x y) ⟨fun h=>hx0 (dH.1 h),(RT.2 hx),trivial⟩ ha
def XO:Tab:=(mW).add 33 (g1 rg1 fun p=>([],.one (.im (.int .i64 (BD p.1 p.2.1 p.2.2).1))))
theorem Ug:TabOk prog XO:=(iY).ad func33 (bP sM fun p hp args w ha=>aMF p args w ha)
def nA (a:J1) (n L:Nat):Nat→J1
 | 0=>(F1.one,F1.one,F1.zero)
 | k+1=>if dD (wv n) (L-1-k)=1 then rplus F1 (bX F1 (nA a n L k)) a else bX F1 (nA a n L k)
def uH (a:J1) (n:Nat) (v:Value) (c:J1):List Fact:=[.slot 2 (.pt 2 0),.row 2 true (bK a),.slot 3 (.pt 3 0),.row 3 true [.q n],.slot 4 (.pt 4 0),.row 4 true (bK uB),.slot 5 (.pt 5 0),.row 5 true (bK c),.slot 6 (.im v)]
def aTO (a:J1) (n:Nat):List Fact:=[.slot 2 (.pt 2 0),.row 2 true (bK a),.slot 3 (.pt 3 0),.row 3 true [.q n],.slot 4 (.pt 4 0),.row 4 true (bK uB)]
def aTM (a:J1) (n:Nat) (c:J1):List Fact:=[.slot 2 (.pt 2 0),.row 2 true (bK a),.slot 3 (.pt 3 0),.row 3 true [.q n],.slot 4 (.pt 4 0),.row 4 true (bK uB),.slot 5 (.pt 5 0),.row 5 true (bK c)]
def Iv (num:Nat→Option Value) (_:Nat):Cfg:=⟨fun _=>XO,fun _=>true,num⟩
def jH:Code:=(f35.body).getD .skip
def GI:Code:=pC (pC (cB (cA (cB (cB jH)))))
theorem aDU:jH=.seq (cA jH) (.seq (cA (cB jH)) (.seq (.seq (cA (cA (cB (cB jH)))) (.block 0 (.loop GI))) (cB (cB (cB jH))))):=by kernel_rfl
theorem aTU (a:J1) (n:Nat):aU prog (qG prog) f35.ntmps (Iv fun _=>none) 60 (cA jH) (lC 0 [.v (.fl (bK a)),.v (.fl [.q n])]) (aTO a n)=some ([],.nrm,(aTO a n)):=by kernel_rfl
theorem aTT (a:J1) (n:Nat):aU prog (qG prog) f35.ntmps (Iv fun _=>none) 60 (cA (cB jH)) (aTO a n) (aTM a n (F1.one,F1.one,F1.zero))=some ([],.nrm,(aTM a n (F1.one,F1.one,F1.zero))):=by kernel_rfl
theorem aTS (a c:J1) (n:Nat) (v:Value):aU prog (qG prog) f35.ntmps (Iv (assoc [(12,v)])) 60 (cA (cA (cB (cB jH)))) (aTM a n c) (uH a n v c)=some ([aI .sub .i64 (Int.ofNat (aS n)) 1=some v],.nrm,(uH a n v c)):=by kernel_rfl
theorem aLE (a c:J1) (n j:Nat) (v:Value):aU prog (qG prog) f35.ntmps (Iv (assoc [(14,.bool true),(22,.bool true),(16,v)])) 60 GI (uH a n (iI j) c) (uH a n v (rplus F1 (bX F1 c) a))=some ([aI .geq .i64 (Int.ofNat j) 0=some (.bool true),j<256,aI .eql .i64 (Int.ofNat (dD (wv n) j)) 1=some (.bool true),aI .sub .i64 (Int.ofNat j) 1=some v],.nrm,(uH a n v (rplus F1 (bX F1 c) a))):=by kernel_rfl
theorem aLF (a c:J1) (n j:Nat) (v:Value):aU prog (qG prog) f35.ntmps (Iv (assoc [(14,.bool true),(22,.bool false),(16,v)])) 60 GI (uH a n (iI j) c) (uH a n v (bX F1 c))=some ([aI .geq .i64 (Int.ofNat j) 0=some (.bool true),j<256,aI .eql .i64 (Int.ofNat (dD (wv n) j)) 1=some (.bool false),aI .sub .i64 (Int.ofNat j) 1=some v],.nrm,(uH a n v (bX F1 c))):=by kernel_rfl
theorem aLG (a c:J1) (n:Nat):aU prog (qG prog) f35.ntmps (Iv (fun _=>none)) 60 GI (uH a n (.int .i64 (-1)) c) (uH a n (.int .i64 (-1)) c)=some ([],(.ex 0),(uH a n (.int .i64 (-1)) c)):=by kernel_rfl
theorem aDT (a c:J1) (n:Nat) (v:Value):aU prog (qG prog) f35.ntmps (Iv fun _=>none) 60 (cB (cB (cB jH))) (uH a n v c) [.slot 4 (.pt 4 0),.row 4 true (bK c)]=some ([],.rt,[.slot 4 (.pt 4 0),.row 4 true (bK c)]):=by kernel_rfl
theorem Zp (a:J1) (n:Nat) (args:List Value) (w0:World) (ha:bZ w0 [.v (.fl (bK a)),.v (.fl [.q n])] args):Good prog 35 (.one (.fl (bK (nA a n (aS n) (aS n))))) args w0:=by
 have hG:cV prog (qG prog) w0.heap.size w0:=(aJ _).w _ _;have hT:∀n d:Nat,TabOkW prog (XO) w0.heap.size w0:=fun _ _=>(Ug).w _ _
 have hL:=AS n;refine dL func35 (c:=jH) rfl ha (Nat.le_of_ble_eq_true (by kernel_rfl)) fun b w' hA => ?_
 rw[aDU];refine wp_seq (aD aE hT hG (aTU a n) trivial hA fun b w' hA => ?_);refine wp_seq (aD aE hT hG (aTT a n) trivial hA fun b w' hA => ?_);refine wp_seq (wp_seq (aD aE hT hG (aTS a _ n (vI (aS n) 0)) ⟨bAJ hL,trivial⟩ hA fun b w' hA => ?_));refine wp_block ?_;refine jR aE (fun k=>uH a n (vI (aS n) k) (nA a n (aS n) k)) (aS n) (fun k hk => ?_) (.ex 0) (by simp) (uH a n (.int .i64 (-1)) (nA a n (aS n) (aS n))) ?_ hA fun b w' hA => ?_
 ·have e0:vI (aS n) k=iI (aS n-1-k):=if_pos hk;show Ok _ _ _ _ _ (uH a n (vI (aS n) k) (nA a n (aS n) k)) _ (uH a n (vI (aS n) (k+1)) (nA a n (aS n) (k+1)));rw[e0]
  by_cases h:dD (wv n) (aS n-1-k)=1
  ·rw[show nA a n (aS n) (k+1)=rplus F1 (bX F1 (nA a n (aS n) k)) a from if_pos h];exact⟨_,_,_,_,hG,hT,aLE a (nA a n (aS n) k) n (aS n-1-k) (vI (aS n) (k+1)),UT _,by omega,by rw[uX,decide_eq_true h],aLn hL hk,trivial⟩
  ·rw[show nA a n (aS n) (k+1)=bX F1 (nA a n (aS n) k)from if_neg h];exact⟨_,_,_,_,hG,hT,aLF a (nA a n (aS n) k) n (aS n-1-k) (vI (aS n) (k+1)),UT _,by omega,by rw[uX,decide_eq_false h],aLn hL hk,trivial⟩
 ·show Ok _ _ _ _ _ (uH a n (vI (aS n) (aS n)) _) _ _;rw[show vI (aS n) (aS n)=.int .i64 (-1)from if_neg (Nat.lt_irrefl _)];exact⟨_,_,_,_,hG,hT,aLG a _ n,trivial⟩
 ·show (cB (cB (cB jH))).wp _ _ _ _;exact aD aE hT hG (aDT a _ n _) trivial hA fun b w' hA=>eF (l:=[.fl (bK (nA a n (aS n) (aS n)))]) (r:=.one (.fl (bK (nA a n (aS n) (aS n))))) (by kernel_rfl) (by kernel_rfl) hA
def XL:Tab:=(XO).add 35 (g2 YP vZ fun a n=>([],.one (.fl (bK (nA a n (aS n) (aS n))))))
theorem UL:TabOk prog XL:=(Ug).ad func35 (dS iX dG fun a n hp args w ha=>Zp a n args w ha)
theorem aYT {p:lJ} (h:(BD p.1 p.2.1 p.2.2).1=0):p.2.2=false→wV p.1∧wV p.2.1:=fun hb=>by
 rw[DR,hb,if_neg (by simp)]at h
 by_cases hb:wV p.1∧wV p.2.1
 ·exact hb
 ·rw[if_pos hb]at h;cases h
theorem Bl (p:lJ) (n:Nat):aO prog (qG prog) (fun _=>⟨fun s=>XL,fun s=>true,fun s=>bif Nat.beq s 10 then some (.bool true)else none⟩) f8 60 [.v (.fl (kK p)),.v (.fl [.q n])]=some ([aI .neq .i64 (BD p.1 p.2.1 p.2.2).1 0=some (.bool true)],.many [.fl (gH (some (F1.zero,F1.zero))),.im (.int .i64 (BD p.1 p.2.1 p.2.2).1)]):=by kernel_rfl
theorem Bj (p:lJ) (n:Nat):aO prog (qG prog) (fun _=>⟨fun s=>XL,fun s=>true,fun s=>bif Nat.beq s 10 then some (.bool false)else none⟩) f8 60 [.v (.fl (kK p)),.v (.fl [.q n])]=some ([aI .neq .i64 (BD p.1 p.2.1 p.2.2).1 0=some (.bool false),(p.2.2=false→wV p.1∧wV p.2.1)],.many [.fl (gH (fQ F1 cF (nA (wd1 p) n (aS n) (aS n)))),.im (.int .i64 0)]):=by kernel_rfl
def oE (p:lJ) (n:Nat):Pt Fq×Int:=if (BD p.1 p.2.1 p.2.2).1≠0 then ((some (F1.zero,F1.zero)),(BD p.1 p.2.1 p.2.2).1)else (fQ F1 cF (nA (wd1 p) n (aS n) (aS n)),0)
theorem Dh (p:lJ) (n:Nat) (args:List Value) (w:World) (ha:bZ w [.v (.fl (kK p)),.v (.fl [.q n])] args):Good prog 8 (.many [.fl (gH (oE p n).1),.im (.int .i64 (oE p n).2)]) args w:=by
 unfold oE
 by_cases h1:(BD p.1 p.2.1 p.2.2).1=0
 ·rw[if_neg (fun h=>h h1)];exact aB aE (fun _ s=>UL) (aJ prog) func8 (Bj p n) ⟨AN h1,aYT h1,trivial⟩ ha
 ·rw[if_pos h1];exact aB aE (fun _ s=>UL) (aJ prog) func8 (Bl p n) ⟨tP h1,trivial⟩ ha
def eH:Tab:=(XL).add 8 (g2 rg1 vZ fun p n=>([],.many [.fl (gH (oE p n).1),.im (.int .i64 (oE p n).2)]))
theorem dN:TabOk prog eH:=(UL).ad func8 (dS sM dG fun p n hp args w ha=>Dh p n args w ha)
def DK (c:Bool):kC:=g1 rq2 fun x=>([kG x=c],.one (.im (.bool c)))
theorem jL (c:Bool):∀cs pre r,DK c cs=some (pre,r)→bC pre→∀(args:List Value) (w:World),bZ w cs args→Good prog 87 r args w:=bP (op:=fun x=>([kG x=c],.one (.im (.bool c)))) pU fun x hp args w ha=>aKb c x hp.1 args w ha
theorem Kr (x y:N2):aO prog (qG prog) (fun _=>⟨fun s=>eH,fun s=>false,fun _=>none⟩) f37 60 [.v (.fl (gN (x,y,true)))]=some ([aA (q2 x)≠aA (e2 F2.zero)],.one (.im (.int .i64 44))):=by kernel_rfl
theorem Kq (x y:N2):aO prog (qG prog) (fun _=>⟨fun s=>eH,fun s=>Nat.beq s 7,fun _=>none⟩) f37 60 [.v (.fl (gN (x,y,true)))]=some ([aA (q2 x)=aA (e2 F2.zero),aA (q2 y)≠aA (e2 F2.zero)],.one (.im (.int .i64 44))):=by kernel_rfl
theorem Kp (x y:N2):aO prog (qG prog) (fun _=>⟨fun s=>eH,fun s=>true,fun _=>none⟩) f37 60 [.v (.fl (gN (x,y,true)))]=some ([aA (q2 x)=aA (e2 F2.zero),aA (q2 y)=aA (e2 F2.zero)],.one (.im (.int .i64 0))):=by kernel_rfl
theorem Au (x y:N2):aO prog (qG prog) (fun _=>⟨fun s=>(eH).add 87 (DK (bif Nat.beq s 27 then false else true)),fun s=>false,fun _=>none⟩) f37 60 [.v (.fl (gN (x,y,false)))]=some ([aA (q2 x)≠aA (e2 F2.zero),kG x=false],.one (.im (.int .i64 21))):=by kernel_rfl
theorem Aq (x y:N2):aO prog (qG prog) (fun _=>⟨fun s=>(eH).add 87 (DK (bif Nat.beq s 27 then true else false)),fun s=>false,fun _=>none⟩) f37 60 [.v (.fl (gN (x,y,false)))]=some ([aA (q2 x)≠aA (e2 F2.zero),kG x=true,kG y=false],.one (.im (.int .i64 21))):=by kernel_rfl
theorem An (x y:N2):aO prog (qG prog) (fun _=>⟨fun s=>(eH).add 87 (DK (bif Nat.beq s 27 then true else true)),fun s=>false,fun _=>none⟩) f37 80 [.v (.fl (gN (x,y,false)))]=some ([aA (q2 x)≠aA (e2 F2.zero),kG x=true,kG y=true,aA (e2 (F2.mul (m2 y) (m2 y)))≠aA (e2 (F2.add (F2.mul (m2 x) (F2.mul (m2 x) (m2 x))) dO))],.one (.im (.int .i64 41))):=by kernel_rfl
theorem Ak (x y:N2):aO prog (qG prog) (fun _=>⟨fun s=>(eH).add 87 (DK (bif Nat.beq s 27 then true else true)),fun s=>false||Nat.beq s 51,fun _=>none⟩) f37 80 [.v (.fl (gN (x,y,false)))]=some ([aA (q2 x)≠aA (e2 F2.zero),kG x=true,kG y=true,aA (e2 (F2.mul (m2 y) (m2 y)))=aA (e2 (F2.add (F2.mul (m2 x) (F2.mul (m2 x) (m2 x))) dO))],.one (.im (.int .i64 0))):=by kernel_rfl
theorem As (x y:N2):aO prog (qG prog) (fun _=>⟨fun s=>(eH).add 87 (DK (bif Nat.beq s 27 then false else true)),fun s=>Nat.beq s 7,fun _=>none⟩) f37 60 [.v (.fl (gN (x,y,false)))]=some ([aA (q2 x)=aA (e2 F2.zero),aA (q2 y)≠aA (e2 F2.zero),kG x=false],.one (.im (.int .i64 21))):=by kernel_rfl
theorem Ap (x y:N2):aO prog (qG prog) (fun _=>⟨fun s=>(eH).add 87 (DK (bif Nat.beq s 27 then true else false)),fun s=>Nat.beq s 7,fun _=>none⟩) f37 60 [.v (.fl (gN (x,y,false)))]=some ([aA (q2 x)=aA (e2 F2.zero),aA (q2 y)≠aA (e2 F2.zero),kG x=true,kG y=false],.one (.im (.int .i64 21))):=by kernel_rfl
theorem Am (x y:N2):aO prog (qG prog) (fun _=>⟨fun s=>(eH).add 87 (DK (bif Nat.beq s 27 then true else true)),fun s=>Nat.beq s 7,fun _=>none⟩) f37 80 [.v (.fl (gN (x,y,false)))]=some ([aA (q2 x)=aA (e2 F2.zero),aA (q2 y)≠aA (e2 F2.zero),kG x=true,kG y=true,aA (e2 (F2.mul (m2 y) (m2 y)))≠aA (e2 (F2.add (F2.mul (m2 x) (F2.mul (m2 x) (m2 x))) dO))],.one (.im (.int .i64 41))):=by kernel_rfl
theorem Aj (x y:N2):aO prog (qG prog) (fun _=>⟨fun s=>(eH).add 87 (DK (bif Nat.beq s 27 then true else true)),fun s=>Nat.beq s 7||Nat.beq s 51,fun _=>none⟩) f37 80 [.v (.fl (gN (x,y,false)))]=some ([aA (q2 x)=aA (e2 F2.zero),aA (q2 y)≠aA (e2 F2.zero),kG x=true,kG y=true,aA (e2 (F2.mul (m2 y) (m2 y)))=aA (e2 (F2.add (F2.mul (m2 x) (F2.mul (m2 x) (m2 x))) dO))],.one (.im (.int .i64 0))):=by kernel_rfl
theorem Ar (x y:N2):aO prog (qG prog) (fun _=>⟨fun s=>(eH).add 87 (DK (bif Nat.beq s 27 then false else true)),fun s=>Nat.beq s 7||Nat.beq s 12,fun _=>none⟩) f37 60 [.v (.fl (gN (x,y,false)))]=some ([aA (q2 x)=aA (e2 F2.zero),aA (q2 y)=aA (e2 F2.zero),kG x=false],.one (.im (.int .i64 21))):=by kernel_rfl
theorem Ao (x y:N2):aO prog (qG prog) (fun _=>⟨fun s=>(eH).add 87 (DK (bif Nat.beq s 27 then true else false)),fun s=>Nat.beq s 7||Nat.beq s 12,fun _=>none⟩) f37 60 [.v (.fl (gN (x,y,false)))]=some ([aA (q2 x)=aA (e2 F2.zero),aA (q2 y)=aA (e2 F2.zero),kG x=true,kG y=false],.one (.im (.int .i64 21))):=by kernel_rfl
theorem Al (x y:N2):aO prog (qG prog) (fun _=>⟨fun s=>(eH).add 87 (DK (bif Nat.beq s 27 then true else true)),fun s=>Nat.beq s 7||Nat.beq s 12,fun _=>none⟩) f37 80 [.v (.fl (gN (x,y,false)))]=some ([aA (q2 x)=aA (e2 F2.zero),aA (q2 y)=aA (e2 F2.zero),kG x=true,kG y=true,aA (e2 (F2.mul (m2 y) (m2 y)))≠aA (e2 (F2.add (F2.mul (m2 x) (F2.mul (m2 x) (m2 x))) dO))],.one (.im (.int .i64 41))):=by kernel_rfl
theorem Ai (x y:N2):aO prog (qG prog) (fun _=>⟨fun s=>(eH).add 87 (DK (bif Nat.beq s 27 then true else true)),fun s=>Nat.beq s 7||Nat.beq s 12||Nat.beq s 51,fun _=>none⟩) f37 80 [.v (.fl (gN (x,y,false)))]=some ([aA (q2 x)=aA (e2 F2.zero),aA (q2 y)=aA (e2 F2.zero),kG x=true,kG y=true,aA (e2 (F2.mul (m2 y) (m2 y)))=aA (e2 (F2.add (F2.mul (m2 x) (F2.mul (m2 x) (m2 x))) dO))],.one (.im (.int .i64 0))):=by kernel_rfl
theorem nL {x:N2}:kG x=true↔tZ x:=by
 unfold kG tZ;rw[Bool.and_eq_true,mU,mU]
theorem RU {x:N2}:kG x=false↔¬tZ x:=by
 rw[←nL];cases kG x<;>simp
theorem aME (p:iK) (args:List Value) (w:World) (ha:bZ w [.v (.fl (gN p))] args):Good prog 37 (.one (.im (.int .i64 (pB p.1 p.2.1 p.2.2).1))) args w:=by
 obtain⟨x,y,b⟩:=p;show Good _ _ (.one (.im (.int .i64 (pB x y b).1))) _ _;rw[yP];cases b with
 | true =>
  rw[if_pos rfl]
  by_cases hx:OA x
  ·by_cases hy:OA y
   ·rw[if_pos ⟨hx,hy⟩];exact aB aE (fun _ s=>dN) (aJ prog) func37 (Kp x y) ⟨cI.2 hx,cI.2 hy,trivial⟩ ha
   ·rw[if_neg (fun h=>hy h.2)];exact aB aE (fun _ s=>dN) (aJ prog) func37 (Kq x y) ⟨cI.2 hx,fun h=>hy (cI.1 h),trivial⟩ ha
  ·rw[if_neg (fun h=>hx h.1)];exact aB aE (fun _ s=>dN) (aJ prog) func37 (Kr x y) ⟨fun h=>hx (cI.1 h),trivial⟩ ha
 | false =>
  rw[if_neg (by simp)]
  by_cases hx:tZ x
  ·by_cases hy:tZ y
   ·rw[if_neg (fun h=>h ⟨hx,hy⟩)]
    by_cases h:F2.mul (m2 y) (m2 y)=F2.add (F2.mul (F2.mul (m2 x) (m2 x)) (m2 x)) dO
    ·rw[if_pos h];have h':F2.mul (m2 y) (m2 y)=F2.add (F2.mul (m2 x) (F2.mul (m2 x) (m2 x))) dO:=by rw[h,F2.mul_comm (m2 x) (F2.mul (m2 x) (m2 x))]
     by_cases hx0:OA x
     ·by_cases hy0:OA y
      ·exact aB aE (fun _ s=>(dN).ad func87 (jL _)) (aJ prog) func37 (Ai x y) ⟨cI.2 hx0,cI.2 hy0,(nL.2 hx),(nL.2 hy),by rw[h'],trivial⟩ ha
      ·exact aB aE (fun _ s=>(dN).ad func87 (jL _)) (aJ prog) func37 (Aj x y) ⟨cI.2 hx0,fun h=>hy0 (cI.1 h),(nL.2 hx),(nL.2 hy),by rw[h'],trivial⟩ ha
     ·exact aB aE (fun _ s=>(dN).ad func87 (jL _)) (aJ prog) func37 (Ak x y) ⟨fun h=>hx0 (cI.1 h),(nL.2 hx),(nL.2 hy),by rw[h'],trivial⟩ ha
    ·rw[if_neg h];have h':F2.mul (m2 y) (m2 y)≠F2.add (F2.mul (m2 x) (F2.mul (m2 x) (m2 x))) dO:=by rw[F2.mul_comm (m2 x) (F2.mul (m2 x) (m2 x))]; exact h
     by_cases hx0:OA x
     ·by_cases hy0:OA y
      ·exact aB aE (fun _ s=>(dN).ad func87 (jL _)) (aJ prog) func37 (Al x y) ⟨cI.2 hx0,cI.2 hy0,(nL.2 hx),(nL.2 hy),dC h',trivial⟩ ha
      ·exact aB aE (fun _ s=>(dN).ad func87 (jL _)) (aJ prog) func37 (Am x y) ⟨cI.2 hx0,fun h=>hy0 (cI.1 h),(nL.2 hx),(nL.2 hy),dC h',trivial⟩ ha
     ·exact aB aE (fun _ s=>(dN).ad func87 (jL _)) (aJ prog) func37 (An x y) ⟨fun h=>hx0 (cI.1 h),(nL.2 hx),(nL.2 hy),dC h',trivial⟩ ha
   ·rw[if_pos (fun h=>hy h.2)]
    by_cases hx0:OA x
    ·by_cases hy0:OA y
     ·exact aB aE (fun _ s=>(dN).ad func87 (jL _)) (aJ prog) func37 (Ao x y) ⟨cI.2 hx0,cI.2 hy0,(nL.2 hx),(RU.2 hy),trivial⟩ ha
     ·exact aB aE (fun _ s=>(dN).ad func87 (jL _)) (aJ prog) func37 (Ap x y) ⟨cI.2 hx0,fun h=>hy0 (cI.1 h),(nL.2 hx),(RU.2 hy),trivial⟩ ha
    ·exact aB aE (fun _ s=>(dN).ad func87 (jL _)) (aJ prog) func37 (Aq x y) ⟨fun h=>hx0 (cI.1 h),(nL.2 hx),(RU.2 hy),trivial⟩ ha
  ·rw[if_pos (fun h=>hx h.1)]
   by_cases hx0:OA x
   ·by_cases hy0:OA y
    ·exact aB aE (fun _ s=>(dN).ad func87 (jL _)) (aJ prog) func37 (Ar x y) ⟨cI.2 hx0,cI.2 hy0,(RU.2 hx),trivial⟩ ha
    ·exact aB aE (fun _ s=>(dN).ad func87 (jL _)) (aJ prog) func37 (As x y) ⟨cI.2 hx0,fun h=>hy0 (cI.1 h),(RU.2 hx),trivial⟩ ha
   ·exact aB aE (fun _ s=>(dN).ad func87 (jL _)) (aJ prog) func37 (Au x y) ⟨fun h=>hx0 (cI.1 h),(RU.2 hx),trivial⟩ ha
def XN:Tab:=(eH).add 37 (g1 Mo fun p=>([],.one (.im (.int .i64 (pB p.1 p.2.1 p.2.2).1))))
theorem Uf:TabOk prog XN:=(dN).ad func37 (bP lV fun p hp args w ha=>aME p args w ha)
def mZ (a:J2) (n L:Nat):Nat→J2
 | 0=>(F2.one,F2.one,F2.zero)
 | k+1=>if dD (wv n) (L-1-k)=1 then rplus F2 (bX F2 (mZ a n L k)) a else bX F2 (mZ a n L k)
def uG (a:J2) (n:Nat) (v:Value) (c:J2):List Fact:=[.slot 2 (.pt 2 0),.row 2 true (bJ a),.slot 3 (.pt 3 0),.row 3 true [.q n],.slot 4 (.pt 4 0),.row 4 true (bJ uA),.slot 5 (.pt 5 0),.row 5 true (bJ c),.slot 6 (.im v)]
def aTN (a:J2) (n:Nat):List Fact:=[.slot 2 (.pt 2 0),.row 2 true (bJ a),.slot 3 (.pt 3 0),.row 3 true [.q n],.slot 4 (.pt 4 0),.row 4 true (bJ uA)]
def aTL (a:J2) (n:Nat) (c:J2):List Fact:=[.slot 2 (.pt 2 0),.row 2 true (bJ a),.slot 3 (.pt 3 0),.row 3 true [.q n],.slot 4 (.pt 4 0),.row 4 true (bJ uA),.slot 5 (.pt 5 0),.row 5 true (bJ c)]
def Iu (num:Nat→Option Value) (_:Nat):Cfg:=⟨fun _=>XN,fun _=>true,num⟩
def jG:Code:=(f39.body).getD .skip
def GH:Code:=pC (pC (cB (cA (cB (cB jG)))))
theorem aDS:jG=.seq (cA jG) (.seq (cA (cB jG)) (.seq (.seq (cA (cA (cB (cB jG)))) (.block 0 (.loop GH))) (cB (cB (cB jG))))):=by kernel_rfl
theorem aTR (a:J2) (n:Nat):aU prog (qG prog) f39.ntmps (Iu fun _=>none) 60 (cA jG) (lC 0 [.v (.fl (bJ a)),.v (.fl [.q n])]) (aTN a n)=some ([],.nrm,(aTN a n)):=by kernel_rfl
theorem aTQ (a:J2) (n:Nat):aU prog (qG prog) f39.ntmps (Iu fun _=>none) 60 (cA (cB jG)) (aTN a n) (aTL a n (F2.one,F2.one,F2.zero))=some ([],.nrm,(aTL a n (F2.one,F2.one,F2.zero))):=by kernel_rfl
theorem aTP (a c:J2) (n:Nat) (v:Value):aU prog (qG prog) f39.ntmps (Iu (assoc [(14,v)])) 60 (cA (cA (cB (cB jG)))) (aTL a n c) (uG a n v c)=some ([aI .sub .i64 (Int.ofNat (aS n)) 1=some v],.nrm,(uG a n v c)):=by kernel_rfl
theorem aLB (a c:J2) (n j:Nat) (v:Value):aU prog (qG prog) f39.ntmps (Iu (assoc [(16,.bool true),(24,.bool true),(18,v)])) 60 GH (uG a n (iI j) c) (uG a n v (rplus F2 (bX F2 c) a))=some ([aI .geq .i64 (Int.ofNat j) 0=some (.bool true),j<256,aI .eql .i64 (Int.ofNat (dD (wv n) j)) 1=some (.bool true),aI .sub .i64 (Int.ofNat j) 1=some v],.nrm,(uG a n v (rplus F2 (bX F2 c) a))):=by kernel_rfl
theorem aLC (a c:J2) (n j:Nat) (v:Value):aU prog (qG prog) f39.ntmps (Iu (assoc [(16,.bool true),(24,.bool false),(18,v)])) 60 GH (uG a n (iI j) c) (uG a n v (bX F2 c))=some ([aI .geq .i64 (Int.ofNat j) 0=some (.bool true),j<256,aI .eql .i64 (Int.ofNat (dD (wv n) j)) 1=some (.bool false),aI .sub .i64 (Int.ofNat j) 1=some v],.nrm,(uG a n v (bX F2 c))):=by kernel_rfl
theorem aLD (a c:J2) (n:Nat):aU prog (qG prog) f39.ntmps (Iu (fun _=>none)) 60 GH (uG a n (.int .i64 (-1)) c) (uG a n (.int .i64 (-1)) c)=some ([],(.ex 0),(uG a n (.int .i64 (-1)) c)):=by kernel_rfl
theorem aDR (a c:J2) (n:Nat) (v:Value):aU prog (qG prog) f39.ntmps (Iu fun _=>none) 60 (cB (cB (cB jG))) (uG a n v c) [.slot 4 (.pt 4 0),.row 4 true (bJ c)]=some ([],.rt,[.slot 4 (.pt 4 0),.row 4 true (bJ c)]):=by kernel_rfl
theorem Zo (a:J2) (n:Nat) (args:List Value) (w0:World) (ha:bZ w0 [.v (.fl (bJ a)),.v (.fl [.q n])] args):Good prog 39 (.one (.fl (bJ (mZ a n (aS n) (aS n))))) args w0:=by
 have hG:cV prog (qG prog) w0.heap.size w0:=(aJ _).w _ _;have hT:∀n d:Nat,TabOkW prog (XN) w0.heap.size w0:=fun _ _=>(Uf).w _ _
 have hL:=AS n;refine dL func39 (c:=jG) rfl ha (Nat.le_of_ble_eq_true (by kernel_rfl)) fun b w' hA => ?_
 rw[aDS];refine wp_seq (aD aE hT hG (aTR a n) trivial hA fun b w' hA => ?_);refine wp_seq (aD aE hT hG (aTQ a n) trivial hA fun b w' hA => ?_);refine wp_seq (wp_seq (aD aE hT hG (aTP a _ n (vI (aS n) 0)) ⟨bAJ hL,trivial⟩ hA fun b w' hA => ?_));refine wp_block ?_;refine jR aE (fun k=>uG a n (vI (aS n) k) (mZ a n (aS n) k)) (aS n) (fun k hk => ?_) (.ex 0) (by simp) (uG a n (.int .i64 (-1)) (mZ a n (aS n) (aS n))) ?_ hA fun b w' hA => ?_
 ·have e0:vI (aS n) k=iI (aS n-1-k):=if_pos hk;show Ok _ _ _ _ _ (uG a n (vI (aS n) k) (mZ a n (aS n) k)) _ (uG a n (vI (aS n) (k+1)) (mZ a n (aS n) (k+1)));rw[e0]
  by_cases h:dD (wv n) (aS n-1-k)=1
  ·rw[show mZ a n (aS n) (k+1)=rplus F2 (bX F2 (mZ a n (aS n) k)) a from if_pos h];exact⟨_,_,_,_,hG,hT,aLB a (mZ a n (aS n) k) n (aS n-1-k) (vI (aS n) (k+1)),UT _,by omega,by rw[uX,decide_eq_true h],aLn hL hk,trivial⟩
  ·rw[show mZ a n (aS n) (k+1)=bX F2 (mZ a n (aS n) k)from if_neg h];exact⟨_,_,_,_,hG,hT,aLC a (mZ a n (aS n) k) n (aS n-1-k) (vI (aS n) (k+1)),UT _,by omega,by rw[uX,decide_eq_false h],aLn hL hk,trivial⟩
 ·show Ok _ _ _ _ _ (uG a n (vI (aS n) (aS n)) _) _ _;rw[show vI (aS n) (aS n)=.int .i64 (-1)from if_neg (Nat.lt_irrefl _)];exact⟨_,_,_,_,hG,hT,aLD a _ n,trivial⟩
 ·show (cB (cB (cB jG))).wp _ _ _ _;exact aD aE hT hG (aDR a _ n _) trivial hA fun b w' hA=>eF (l:=[.fl (bJ (mZ a n (aS n) (aS n)))]) (r:=.one (.fl (bJ (mZ a n (aS n) (aS n))))) (by kernel_rfl) (by kernel_rfl) hA
def XK:Tab:=(XN).add 39 (g2 YO vZ fun a n=>([],.one (.fl (bJ (mZ a n (aS n) (aS n))))))
theorem UK:TabOk prog XK:=(Uf).ad func39 (dS iW dG fun a n hp args w ha=>Zo a n args w ha)
theorem aYR {p:iK} (h:(pB p.1 p.2.1 p.2.2).1=0):p.2.2=false→tZ p.1∧tZ p.2.1:=fun hb=>by
 rw[yP,hb,if_neg (by simp)]at h
 by_cases hb:tZ p.1∧tZ p.2.1
 ·exact hb
 ·rw[if_pos hb]at h;cases h
theorem Bi (p:iK) (n:Nat):aO prog (qG prog) (fun _=>⟨fun s=>XK,fun s=>true,fun s=>bif Nat.beq s 10 then some (.bool true)else none⟩) f10 60 [.v (.fl (gN p)),.v (.fl [.q n])]=some ([aI .neq .i64 (pB p.1 p.2.1 p.2.2).1 0=some (.bool true)],.many [.fl (eI (some (F2.zero,F2.zero))),.im (.int .i64 (pB p.1 p.2.1 p.2.2).1)]):=by kernel_rfl
theorem Bh (p:iK) (n:Nat):aO prog (qG prog) (fun _=>⟨fun s=>XK,fun s=>true,fun s=>bif Nat.beq s 10 then some (.bool false)else none⟩) f10 60 [.v (.fl (gN p)),.v (.fl [.q n])]=some ([aI .neq .i64 (pB p.1 p.2.1 p.2.2).1 0=some (.bool false),(p.2.2=false→tZ p.1∧tZ p.2.1)],.many [.fl (eI (fQ F2 eD (mZ (wd2 p) n (aS n) (aS n)))),.im (.int .i64 0)]):=by kernel_rfl
def oD (p:iK) (n:Nat):Pt Q2×Int:=if (pB p.1 p.2.1 p.2.2).1≠0 then ((some (F2.zero,F2.zero)),(pB p.1 p.2.1 p.2.2).1)else (fQ F2 eD (mZ (wd2 p) n (aS n) (aS n)),0)
theorem Dg (p:iK) (n:Nat) (args:List Value) (w:World) (ha:bZ w [.v (.fl (gN p)),.v (.fl [.q n])] args):Good prog 10 (.many [.fl (eI (oD p n).1),.im (.int .i64 (oD p n).2)]) args w:=by
 unfold oD
 by_cases h1:(pB p.1 p.2.1 p.2.2).1=0
 ·rw[if_neg (fun h=>h h1)];exact aB aE (fun _ s=>UK) (aJ prog) func10 (Bh p n) ⟨AN h1,aYR h1,trivial⟩ ha
 ·rw[if_pos h1];exact aB aE (fun _ s=>UK) (aJ prog) func10 (Bi p n) ⟨tP h1,trivial⟩ ha
def Hu:Tab:=(XK).add 10 (g2 Mo vZ fun p n=>([],.many [.fl (eI (oD p n).1),.im (.int .i64 (oD p n).2)]))
theorem aBX:TabOk prog Hu:=(UK).ad func10 (dS lV dG fun p n hp args w ha=>Dg p n args w ha)
open Classical
section
variable {R:Type} {K:CR R} {inv:R→R} {b:R}
def Rp (E:EC K inv b) (p:Jc R) (P:{p:Pt R // On K b p}):Prop:=fQ K inv p=P.1
theorem Rp.on {E:EC K inv b} {p:Jc R} {P:{p:Pt R // On K b p}} (h:Rp E p P):On K b (fQ K inv p):=by
 rw[show fQ K inv p=P.1 from h]; exact P.2
theorem Rp.plus {E:EC K inv b} {p q:Jc R} {P Q:{p:Pt R // On K b p}} (h:Rp E p P) (g:Rp E q Q):Rp E (fI K p q) (E.grp.add P Q):=by
 show fQ K inv (fI K p q)=jI K inv P.1 Q.1;rw[Gd E h.on g.on,show fQ K inv p=P.1 from h,show fQ K inv q=Q.1 from g]
theorem Rp.rplus {E:EC K inv b} {p q:Jc R} {P Q:{p:Pt R // On K b p}} (h:Rp E p P) (g:Rp E q Q):Rp E (rplus K p q) (E.grp.add P Q):=by
 show fQ K inv (Ex.rplus K p q)=jI K inv P.1 Q.1;rw[aCn E h.on g.on,show fQ K inv p=P.1 from h,show fQ K inv q=Q.1 from g]
theorem Rp.dbl {E:EC K inv b} {p:Jc R} {P:{p:Pt R // On K b p}} (h:Rp E p P):Rp E (bX K p) (E.grp.add P P):=by
 show fQ K inv (bX K p)=jI K inv P.1 P.1;rw[VJ E h.on,show fQ K inv p=P.1 from h]
theorem Rp.neg {E:EC K inv b} {p:Jc R} {P:{p:Pt R // On K b p}} (h:Rp E p P):Rp E (vA K p) (E.grp.neg P):=by
 show fQ K inv (vA K p)=PI K P.1;rw[aOE,show fQ K inv p=P.1 from h]
theorem Rp.zero {E:EC K inv b} {p:Jc R} (h:p.2.2=K.zero):Rp E p E.grp.zero:=dB h
theorem EC.inv_one (E:EC K inv b):inv K.one=K.one:=by
 have:=E.F.inv K.one E.F.ne
 rwa [K.one_mul]at this
theorem EC.jto_one (E:EC K inv b) (x y:R):fQ K inv (x,y,K.one)=some (x,y):=by
 rw[dR (p:=(x,y,K.one)) E.F.ne];refine congrArg some (Prod.ext ?_ ?_)
 ·show K.mul x (K.mul (inv K.one) (inv K.one))=x;rw[E.inv_one,K.one_mul,K.mul_one]
 ·show K.mul y (K.mul (K.mul (inv K.one) (inv K.one)) (inv K.one))=y;rw[E.inv_one,K.one_mul,K.one_mul,K.mul_one]
end
namespace AG
variable {G:Type} (A:AG G)
end AG
open Go.RowKit
open Classical
theorem Fm (c:Nat) (hc:c<FP.M) (h0:c≠0) (hv:c^uU%FP.M≠1) (n:Fq):F1.mul n (F1.mul n n)≠fm c:=fun h=>by
 have hv':n.1^3%FP.M=c:=by
  have:=congrArg Fin.val h;have e:n.1*(n.1*n.1%FP.M)%FP.M=c%FP.M:=this;rw[Nat.mul_mod_mod,←Nat.mul_assoc,show n.1*n.1*n.1=n.1^3 by rw[Nat.pow_succ,Nat.pow_two]]at e;rw[e]; exact Nat.mod_eq_of_lt hc
 have h1:0<n.1:=by
  rcases Nat.eq_zero_or_pos n.1 with h1|h1
  ·rw[h1]at hv';exact (h0 hv'.symm).elim
  ·exact h1
 have:=aCy h1 n.2;rw[←ZJ,Nat.pow_mul,Nat.pow_mod,hv']at this;exact hv this
theorem bDP:3^uU%FP.M≠1:=by
 rw[←EH FP.M 256 3 uU (by decide)];exact of_decide_eq_true (by kernel_rfl)
def nb2:Nat:=21087453498479301738505683583845423561061080261299122796980902361914303298513
theorem bDO:nb2^uU%FP.M≠1:=by
 rw[←EH FP.M 256 nb2 uU (by decide)];exact of_decide_eq_true (by kernel_rfl)
theorem bCv:qC dO=fm nb2:=by decide
section
variable {R:Type} (K:CR R)
theorem Xj {x b:R} (h:K.add (K.mul x (K.mul x x)) b=K.zero):K.mul (K.neg x) (K.mul (K.neg x) (K.neg x))=b:=by
 have e:K.mul (K.neg x) (K.mul (K.neg x) (K.neg x))=K.add (K.neg (K.add (K.mul x (K.mul x x)) b)) b:=aG K (aV K [x,b]) ((-Z0)*((-Z0)*(-Z0))) (-(Z0*(Z0*Z0)+Z1)+Z1) (by decide);rw[e,h];have z:K.neg K.zero=K.zero:=by have:=K.neg_add K.zero; rwa [K.add_zero]at this
 rw[z,K.zero_add]
end
theorem iL:EC F1 cF (fm 3) where
 F:=⟨Yv,fun x h=>AY h⟩
 two:=fun h=>absurd (congrArg Fin.val h) (by decide)
 odd:=fun x h=>Fm 3 (by decide) (by decide) bDP _ (Xj F1 h)
theorem bE:EC F2 eD dO where
 F:=⟨DM.1,fun x h=>YK fun e=>h (oN e)⟩
 two:=fun h=>absurd (congrArg (fun x:Q2=>x.1.1) h) (by decide)
 odd:=fun x h=>by
  have h1:=congrArg qC (Xj F2 h);rw[AM,AM,bCv]at h1;exact Fm nb2 (by decide) (by decide) bDO _ h1
theorem aTh (x:Nat):wv x%18446744073709551616=fw x 0:=by
 obtain⟨h0,h1,h2,h3⟩:=cM x;unfold wv aC;omega
theorem wU (x p:Nat):nG x p=sD (BG (wv x) p):=by
 have e:nF x p=BG (wv x) p:=by
  unfold nF BG
  by_cases h:p=0
  ·rw[if_pos h,if_pos h];unfold Sj;have:=aTh x;omega
  ·rw[if_neg h,if_neg h];generalize wv x/2^(p*4-1)=y;show y/18446744073709551616^0%18446744073709551616%32=y%32;rw[Nat.pow_zero,Nat.div_one];omega
 unfold nG sD;rw[e]
abbrev C1:={p:Pt Fq // On F1 (fm 3) p}
theorem VL {p:J1} {g:C1} (h:Rp iL p g):∀k,Rp iL (OS p k) (iL.grp.ns k g)
 | 0=>Rp.zero rfl
 | k+1=>(VL h k).plus h
theorem aDQ {p:J1} {g:C1} (h:Rp iL p g):∀d:Int,Rp iL (Zl p d) (iL.grp.zs d g)
 | .ofNat 0=>Rp.zero rfl
 | .ofNat (k+1)=>VL h (k+1)
 | .negSucc k=>(VL h (k+1)).neg
theorem Xm {pt:Nat→J1} {g:Nat→C1} {N:Nat} (h:∀j,j<N→Rp iL (pt j) (g j)) (x:Nat→Nat) (p:Nat):∀n,n≤N→Rp iL (RK pt x p n) (iL.grp.sm g (fun j=>sD (BG (wv (x j)) p)) n)
 | 0,_=>Rp.zero rfl
 | n+1,hn=>by
  have h2:=aDQ (h n (by omega)) (nG (x n) p);rw[wU]at h2;have h1:=Xm h x p n (by omega);have:=h1.plus h2;rw[←wU]at this;show Rp iL _ (iL.grp.add _ (iL.grp.zs (sD (BG (wv (x n)) p)) (g n)));rw[←wU];exact this
theorem Tm {D:Nat→J1} {g:Nat→C1} {N PL:Nat} {x:Nat→Nat} (h:∀p,Rp iL (D p) (iL.grp.sm g (fun j=>sD (BG (wv (x j)) p)) N)):∀k,Rp iL (ov1 D PL k) (iL.grp.sm g (fun j=>hor (wv (x j)) PL k) N)
 | 0=>by
  show Rp iL _ (iL.grp.sm g (fun _=>0) N);rw[iL.grp.sm_zero];exact Rp.zero rfl
 | k+1=>by
  have h1:=(Tm (PL:=PL) h k).dbl.dbl.dbl.dbl.plus (h (PL-1-k));rw[iL.grp.sm_two,iL.grp.sm_two,iL.grp.sm_two,iL.grp.sm_two,←iL.grp.sm_add]at h1;rw[iL.grp.sm_congr (d:=fun j=>hor (wv (x j)) PL (k+1)) (fun j _=>by show _=16*hor (wv (x j)) PL k+_; omega)]at h1;exact h1
theorem Zs {pt:Nat→J1} {g:Nat→C1} {N:Nat} (h:∀j,j<N→Rp iL (pt j) (g j)) (x:Nat→Nat):Rp iL (JF pt x N) (iL.grp.sm g (fun j=>(wv (x j):Int)) N):=by
 have h1:=Tm (PL:=nY x N/4+1) (fun p=>Xm h x p N (Nat.le_refl _)) (nY x N/4+1);rw[iL.grp.sm_congr (d:=fun j=>(wv (x j):Int)) (fun j hj=>We _ _ (Nat.lt_of_lt_of_le (pR (x j)).1 (Nat.pow_le_pow_right (by omega) (by have:=Nz x N j hj; omega))) (by omega))]at h1;exact h1
theorem Cp {a:J1} {g:C1} (h:Rp iL a g) (n:Nat):∀k,k≤aS n→Rp iL (nA a n (aS n) k) (iL.grp.ns (wv n/2^(aS n-k)) g)
 | 0,_=>by
  rw[Nat.sub_zero,Nat.div_eq_of_lt (pR n).1];exact Rp.zero rfl
 | k+1,hk=>by
  have ih:=Cp h n k (by omega);have e:wv n/2^(aS n-k)=wv n/2^(aS n-(k+1))/2:=by
   rw[show aS n-k=(aS n-(k+1))+1 by omega,Nat.pow_add,←Nat.div_div_eq_div_mul]
  have e2:dD (wv n) (aS n-1-k)=wv n/2^(aS n-(k+1))%2:=by
   unfold dD;rw[show aS n-1-k=aS n-(k+1) by omega]
  rw[e]at ih;generalize wv n/2^(aS n-(k+1))=y at ih e2 ⊢;have h2:=ih.dbl;rw[←iL.grp.ns_add]at h2
  by_cases hb:dD (wv n) (aS n-1-k)=1
  ·rw[show nA a n (aS n) (k+1)=rplus F1 (bX F1 (nA a n (aS n) k)) a from if_pos hb];have h3:=h2.rplus h;rw[show y=y/2+y/2+1 by omega];exact h3
  ·rw[show nA a n (aS n) (k+1)=bX F1 (nA a n (aS n) k)from if_neg hb];have hb0:=kZ (wv n) (aS n-1-k);rw[show y=y/2+y/2 by omega];exact h2
def af1 (p:lJ):Pt Fq:=bif p.2.2 then none else some (m1 p.1,m1 p.2.1)
theorem aJM {p:lJ} (h:(iH p).1=0):fQ F1 cF (iH p).2=af1 p∧On F1 (fm 3) (af1 p):=by
 obtain⟨x,y,b⟩:=p;have e:=DR x y b;show fQ F1 cF (BD x y b).2=_∧_;have h':(BD x y b).1=0:=h;cases b with
 | true =>
  rw[if_pos rfl]at e;refine⟨?_,trivial⟩;have:(BD x y true).2.2.2=F1.zero:=by
   rw[e];split<;>rfl
  exact dB this
 | false =>
  rw[if_neg (by simp)]at e
  by_cases hb:¬(wV x∧wV y)
  ·rw[if_pos hb]at e;rw[e]at h'; cases h'
  ·rw[if_neg hb]at e
   by_cases hy:F1.mul (m1 y) (m1 y)=F1.add (F1.mul (F1.mul (m1 x) (m1 x)) (m1 x)) (fm 3)
   ·rw[if_pos hy]at e;rw[e];refine⟨iL.jto_one _ _,?_⟩;show F1.mul (m1 y) (m1 y)=F1.add (F1.mul (m1 x) (F1.mul (m1 x) (m1 x))) (fm 3);rw[hy,F1.mul_comm (m1 x) (F1.mul (m1 x) (m1 x))]
   ·rw[if_neg hy]at e;rw[e]at h'; cases h'
theorem aTd (p:lJ):fQ F1 cF (wd1 p)=af1 p:=by
 obtain⟨x,y,b⟩:=p;cases b with
 | true=>exact dB rfl
 | false=>exact iL.jto_one _ _
def cp1 (p:lJ):C1:=if h:(iH p).1=0 then ⟨af1 p,(aJM h).2⟩else iL.grp.zero
theorem MH {p:lJ} (h:(iH p).1=0):(cp1 p).1=af1 p:=by unfold cp1; rw[dif_pos h]
theorem aPK {p:lJ} (h:(iH p).1=0):Rp iL (iH p).2 (cp1 p):=(aJM h).1.trans (MH h).symm
theorem aYA {p:lJ} (h:(iH p).1=0):Rp iL (wd1 p) (cp1 p):=(aTd p).trans (MH h).symm
theorem Ss (p:lJ) (n:Nat):rC (fun _=>p) (fun _=>n) 1=if (iH p).1≠0 then ((some (F1.zero,F1.zero)),(iH p).1)else ((iL.grp.ns (wv n) (cp1 p)).1,0):=by
 have e1:kJ (fun _=>p) 1=(iH p).1:=if_neg (fun h=>h rfl);unfold rC;rw[e1]
 by_cases h1:(iH p).1=0
 ·simp only[h1,ne_eq,not_true_eq_false,not_false_eq_true,if_true,if_false];have hr:=Zs (pt:=FX (fun _=>p)) (g:=fun _=>cp1 p) (N:=1) (fun j hj=>aPK h1) (fun _=>n);have hr':fQ F1 cF (JF (FX (fun _=>p)) (fun _=>n) 1)=(iL.grp.add iL.grp.zero (iL.grp.ns (wv n) (cp1 p))).1:=hr;rw[iL.grp.zadd]at hr';rw[hr']
 ·simp only[h1,ne_eq,not_true_eq_false,not_false_eq_true,if_true,if_false]
theorem aFl (p:lJ) (n:Nat):oE p n=if (iH p).1≠0 then ((some (F1.zero,F1.zero)),(iH p).1)else ((iL.grp.ns (wv n) (cp1 p)).1,0):=by
 show (if (iH p).1≠0 then ((some (F1.zero,F1.zero)),(iH p).1)else (fQ F1 cF (nA (wd1 p) n (aS n) (aS n)),0))=_
 by_cases h1:(iH p).1=0
 ·simp only[h1,ne_eq,not_true_eq_false,not_false_eq_true,if_true,if_false];have hr:fQ F1 cF (nA (wd1 p) n (aS n) (aS n))=_:=Cp (aYA h1) n (aS n) (Nat.le_refl _);rw[hr,Nat.sub_self,Nat.pow_zero,Nat.div_one]
 ·simp only[h1,ne_eq,not_true_eq_false,not_false_eq_true,if_true,if_false]
theorem aCe (p:lJ) (n:Nat):rC (fun _=>p) (fun _=>n) 1=oE p n:=(Ss p n).trans (aFl p n).symm
abbrev C2:={p:Pt Q2 // On F2 dO p}
theorem VK {p:J2} {g:C2} (h:Rp bE p g):∀k,Rp bE (OR p k) (bE.grp.ns k g)
 | 0=>Rp.zero rfl
 | k+1=>(VK h k).plus h
theorem aDP {p:J2} {g:C2} (h:Rp bE p g):∀d:Int,Rp bE (Zk p d) (bE.grp.zs d g)
 | .ofNat 0=>Rp.zero rfl
 | .ofNat (k+1)=>VK h (k+1)
 | .negSucc k=>(VK h (k+1)).neg
theorem Xl {pt:Nat→J2} {g:Nat→C2} {N:Nat} (h:∀j,j<N→Rp bE (pt j) (g j)) (x:Nat→Nat) (p:Nat):∀n,n≤N→Rp bE (RJ pt x p n) (bE.grp.sm g (fun j=>sD (BG (wv (x j)) p)) n)
 | 0,_=>Rp.zero rfl
 | n+1,hn=>by
  have h2:=aDP (h n (by omega)) (nG (x n) p);rw[wU]at h2;have h1:=Xl h x p n (by omega);have:=h1.plus h2;rw[←wU]at this;show Rp bE _ (bE.grp.add _ (bE.grp.zs (sD (BG (wv (x n)) p)) (g n)));rw[←wU];exact this
theorem Tl {D:Nat→J2} {g:Nat→C2} {N PL:Nat} {x:Nat→Nat} (h:∀p,Rp bE (D p) (bE.grp.sm g (fun j=>sD (BG (wv (x j)) p)) N)):∀k,Rp bE (ov2 D PL k) (bE.grp.sm g (fun j=>hor (wv (x j)) PL k) N)
 | 0=>by
  show Rp bE _ (bE.grp.sm g (fun _=>0) N);rw[bE.grp.sm_zero];exact Rp.zero rfl
 | k+1=>by
  have h1:=(Tl (PL:=PL) h k).dbl.dbl.dbl.dbl.plus (h (PL-1-k));rw[bE.grp.sm_two,bE.grp.sm_two,bE.grp.sm_two,bE.grp.sm_two,←bE.grp.sm_add]at h1;rw[bE.grp.sm_congr (d:=fun j=>hor (wv (x j)) PL (k+1)) (fun j _=>by show _=16*hor (wv (x j)) PL k+_; omega)]at h1;exact h1
theorem Zr {pt:Nat→J2} {g:Nat→C2} {N:Nat} (h:∀j,j<N→Rp bE (pt j) (g j)) (x:Nat→Nat):Rp bE (JE pt x N) (bE.grp.sm g (fun j=>(wv (x j):Int)) N):=by
 have h1:=Tl (PL:=nY x N/4+1) (fun p=>Xl h x p N (Nat.le_refl _)) (nY x N/4+1);rw[bE.grp.sm_congr (d:=fun j=>(wv (x j):Int)) (fun j hj=>We _ _ (Nat.lt_of_lt_of_le (pR (x j)).1 (Nat.pow_le_pow_right (by omega) (by have:=Nz x N j hj; omega))) (by omega))]at h1;exact h1
theorem Co {a:J2} {g:C2} (h:Rp bE a g) (n:Nat):∀k,k≤aS n→Rp bE (mZ a n (aS n) k) (bE.grp.ns (wv n/2^(aS n-k)) g)
 | 0,_=>by
  rw[Nat.sub_zero,Nat.div_eq_of_lt (pR n).1];exact Rp.zero rfl
 | k+1,hk=>by
  have ih:=Co h n k (by omega);have e:wv n/2^(aS n-k)=wv n/2^(aS n-(k+1))/2:=by
   rw[show aS n-k=(aS n-(k+1))+1 by omega,Nat.pow_add,←Nat.div_div_eq_div_mul]
  have e2:dD (wv n) (aS n-1-k)=wv n/2^(aS n-(k+1))%2:=by
   unfold dD;rw[show aS n-1-k=aS n-(k+1) by omega]
  rw[e]at ih;generalize wv n/2^(aS n-(k+1))=y at ih e2 ⊢;have h2:=ih.dbl;rw[←bE.grp.ns_add]at h2
  by_cases hb:dD (wv n) (aS n-1-k)=1
  ·rw[show mZ a n (aS n) (k+1)=rplus F2 (bX F2 (mZ a n (aS n) k)) a from if_pos hb];have h3:=h2.rplus h;rw[show y=y/2+y/2+1 by omega];exact h3
  ·rw[show mZ a n (aS n) (k+1)=bX F2 (mZ a n (aS n) k)from if_neg hb];have hb0:=kZ (wv n) (aS n-1-k);rw[show y=y/2+y/2 by omega];exact h2
def af2 (p:iK):Pt Q2:=bif p.2.2 then none else some (m2 p.1,m2 p.2.1)
theorem aJJ {p:iK} (h:(fR p).1=0):fQ F2 eD (fR p).2=af2 p∧On F2 dO (af2 p):=by
 obtain⟨x,y,b⟩:=p;have e:=yP x y b;show fQ F2 eD (pB x y b).2=_∧_;have h':(pB x y b).1=0:=h;cases b with
 | true =>
  rw[if_pos rfl]at e;refine⟨?_,trivial⟩;have:(pB x y true).2.2.2=F2.zero:=by
   rw[e];split<;>rfl
  exact dB this
 | false =>
  rw[if_neg (by simp)]at e
  by_cases hb:¬(tZ x∧tZ y)
  ·rw[if_pos hb]at e;rw[e]at h'; cases h'
  ·rw[if_neg hb]at e
   by_cases hy:F2.mul (m2 y) (m2 y)=F2.add (F2.mul (F2.mul (m2 x) (m2 x)) (m2 x)) dO
   ·rw[if_pos hy]at e;rw[e];refine⟨bE.jto_one _ _,?_⟩;show F2.mul (m2 y) (m2 y)=F2.add (F2.mul (m2 x) (F2.mul (m2 x) (m2 x))) dO;rw[hy,F2.mul_comm (m2 x) (F2.mul (m2 x) (m2 x))]
   ·rw[if_neg hy]at e;rw[e]at h'; cases h'
theorem aTb (p:iK):fQ F2 eD (wd2 p)=af2 p:=by
 obtain⟨x,y,b⟩:=p;cases b with
 | true=>exact dB rfl
 | false=>exact bE.jto_one _ _
def Po (p:iK):C2:=if h:(fR p).1=0 then ⟨af2 p,(aJJ h).2⟩else bE.grp.zero
theorem DQ {p:iK} (h:(fR p).1=0):(Po p).1=af2 p:=by unfold Po; rw[dif_pos h]
theorem Xp {p:iK} (h:(fR p).1=0):Rp bE (fR p).2 (Po p):=(aJJ h).1.trans (DQ h).symm
theorem aYz {p:iK} (h:(fR p).1=0):Rp bE (wd2 p) (Po p):=(aTb p).trans (DQ h).symm
theorem Sr (p:iK) (n:Nat):mI (fun _=>p) (fun _=>n) 1=if (fR p).1≠0 then ((some (F2.zero,F2.zero)),(fR p).1)else ((bE.grp.ns (wv n) (Po p)).1,0):=by
 have e1:kI (fun _=>p) 1=(fR p).1:=if_neg (fun h=>h rfl);unfold mI;rw[e1]
 by_cases h1:(fR p).1=0
 ·simp only[h1,ne_eq,not_true_eq_false,not_false_eq_true,if_true,if_false];have hr:=Zr (pt:=FW (fun _=>p)) (g:=fun _=>Po p) (N:=1) (fun j hj=>Xp h1) (fun _=>n);have hr':fQ F2 eD (JE (FW (fun _=>p)) (fun _=>n) 1)=(bE.grp.add bE.grp.zero (bE.grp.ns (wv n) (Po p))).1:=hr;rw[bE.grp.zadd]at hr';rw[hr']
 ·simp only[h1,ne_eq,not_true_eq_false,not_false_eq_true,if_true,if_false]
theorem aFk (p:iK) (n:Nat):oD p n=if (fR p).1≠0 then ((some (F2.zero,F2.zero)),(fR p).1)else ((bE.grp.ns (wv n) (Po p)).1,0):=by
 show (if (fR p).1≠0 then ((some (F2.zero,F2.zero)),(fR p).1)else (fQ F2 eD (mZ (wd2 p) n (aS n) (aS n)),0))=_
 by_cases h1:(fR p).1=0
 ·simp only[h1,ne_eq,not_true_eq_false,not_false_eq_true,if_true,if_false];have hr:fQ F2 eD (mZ (wd2 p) n (aS n) (aS n))=_:=Co (aYz h1) n (aS n) (Nat.le_refl _);rw[hr,Nat.sub_self,Nat.pow_zero,Nat.div_one]
 ·simp only[h1,ne_eq,not_true_eq_false,not_false_eq_true,if_true,if_false]
theorem aCd (p:iK) (n:Nat):mI (fun _=>p) (fun _=>n) 1=oD p n:=(Sr p n).trans (aFk p n).symm
theorem aMM (p:iK):xJ p=if (fR p).1≠0 then ((some (F2.zero,F2.zero)),(fR p).1)else ((bE.grp.neg (Po p)).1,0):=by
 show (if (fR p).1≠0 then ((some (F2.zero,F2.zero)),(fR p).1)else (fQ F2 eD (vA F2 (fR p).2),0))=_
 by_cases h1:(fR p).1=0
 ·simp only[h1,ne_eq,not_true_eq_false,not_false_eq_true,if_true,if_false];rw[show fQ F2 eD (vA F2 (fR p).2)=_ from (Xp h1).neg]
 ·simp only[h1,ne_eq,not_true_eq_false,not_false_eq_true,if_true,if_false]
structure Chd {R:Type} (K:CR R) (b:R) (p q s:R×R) (n c:R):Prop where
 cub:Cub K b p.1 q.1 s.1 n c
 l1:p.2=K.add (K.mul n p.1) c
 l2:q.2=K.add (K.mul n q.1) c
 l3:K.neg s.2=K.add (K.mul n s.1) c
def hgt {R:Type} (K:CR R) (n:R) (p:R×R):R:=K.sub p.2 (K.mul n p.1)
section
variable {R:Type} {K:CR R} {inv:R→R} {b:R}
theorem WR (E:EC K inv b) {p q:R×R} (hp:On K b (some p)) (hq:On K b (some q)) (hn:¬(p.1=q.1∧K.add p.2 q.2=K.zero)) :
  ∃s,jI K inv (some p) (some q)=some s∧Chd K b p q s (eE K inv p.1 p.2 q.1 q.2) (hgt K (eE K inv p.1 p.2 q.1 q.2) p):=by
 have S:=zJ E hp hq hn;refine⟨_,kQ hn,?_⟩;generalize eE K inv p.1 p.2 q.1 q.2=l at S ⊢;refine⟨aYy hp S,?_,?_,?_⟩
 ·exact aG K (aV K [p.2,l,p.1]) (.v 0) (Z1*Z2+(Z0-Z1*Z2)) (by kernel_rfl)
 ·exact S.h1.trans (aG K (aV K [p.2,l,q.1,p.1]) (Z0+Z1*(Z2-Z3)) (Z1*Z2+(Z0-Z1*Z3)) (by kernel_rfl))
 ·exact aG K (aV K [p.2,l,sx K l p.1 q.1,p.1]) (-(Z1*(Z3-Z2)-Z0)) (Z1*Z2+(Z0-Z1*Z3)) (by kernel_rfl)
theorem bFl {A1 A2 A3 A3' h1 h2 h3 h3':R} (r:K.mul A1 (K.mul A2 A3')=K.mul h1 (K.mul h2 h3')) (u:K.mul A3 A3'=K.one) (w:K.mul h3 h3'=K.one):K.mul (K.mul A1 A2) h3=K.mul A3 (K.mul h1 h2) :=
 Hd (K:=K) (c1:=K.mul A3 h3) (c2:=K.neg (K.mul (K.mul A1 A2) h3)) (c3:=K.mul A3 (K.mul h1 h2)) r u w (aG K (aV K [A1,A2,A3,A3',h1,h2,h3,h3'])
  (Z0*Z1*Z6-Z2*(Z4*Z5))
  (Z2*Z6*(Z0*(Z1*Z3)-Z4*(Z5*Z7))+(-(Z0*Z1*Z6))*(Z2*Z3-RE.one)+Z2*(Z4*Z5)*(Z6*Z7-RE.one)) (by kernel_rfl))
end
theorem aUe:3^KG%FP.M≠1:=by
 rw[←EH FP.M 256 3 KG (by decide)];exact of_decide_eq_true (by kernel_rfl)
theorem aWy (n:Fq):F1.mul n n≠fm 3:=fun h=>by
 have hv:n.1^2%FP.M=3:=by
  have:=congrArg Fin.val h;have e:n.1*n.1%FP.M=3%FP.M:=this;rw[Nat.pow_two,e]; decide
 have h0:0<n.1:=by
  rcases Nat.eq_zero_or_pos n.1 with h0|h0
  ·rw[h0]at hv; exact absurd hv (by decide)
  ·exact h0
 have:=aCy h0 n.2;rw[←VS,Nat.pow_mul,Nat.pow_mod,hv]at this;exact aUe this
theorem qJ {p:Fq×Fq} (h:On F1 (fm 3) (some p)):p.1≠F1.zero:=fun e=>by
 have h':F1.mul p.2 p.2=F1.add (F1.mul p.1 (F1.mul p.1 p.1)) (fm 3):=h;rw[e,F1.zero_mul,F1.zero_add]at h';exact aWy _ h'
theorem jA {p:Fq×Fq} (h:On F1 (fm 3) (some p)):p.2≠F1.zero:=iL.y_ne h
theorem nE {p:Q2×Q2} (h:On F2 dO (some p)):p.2≠F2.zero:=bE.y_ne h
theorem aRM {a:aQ} (h:a≠aF.zero):lZ a≠aF.zero:=fun e=>by
 have t:=kU h;rw[e,aF.mul_zero]at t;exact lK.1 t.symm
theorem aWI {a:aQ} (h:a≠aF.zero):lY a≠aF.zero:=fun e=>by
 have t:=dZ h (aRM h);rw[kU h,GT,e,aF.zero_mul]at t;exact lK.1 t
abbrev Vq:={z:aQ // z≠aF.zero}
def vg:AG Vq where
 add a b:=⟨aF.mul a.1 b.1,pF a.2 b.2⟩
 neg a:=⟨lZ a.1,aRM a.2⟩
 zero:=⟨aF.one,lK.1⟩
 assoc a b c:=Subtype.ext (aF.mul_assoc _ _ _)
 comm a b:=Subtype.ext (aF.mul_comm _ _)
 zadd a:=Subtype.ext (aF.one_mul _)
 nadd a:=Subtype.ext ((aF.mul_comm _ _).trans (kU a.2))
open Classical in
def lv (z:aQ):Vq:=if h:z=aF.zero then vg.zero else ⟨lY z,aWI h⟩
theorem dK {z:aQ} (h:z≠aF.zero):(lv z).1=lY z:=by unfold lv; rw[dif_neg h]
def lnT (t t':Q2×Q2) (a:Fq×Fq):aQ:=lT (eE F2 eD t.1 t.2 t'.1 t'.2) (hgt F2 (eE F2 eD t.1 t.2 t'.1 t'.2) t) a.1 a.2
def lnP (p q:Fq×Fq) (t:Q2×Q2):aQ:=lP (eE F1 cF p.1 p.2 q.1 q.2) (hgt F1 (eE F1 cF p.1 p.2 q.1 q.2) p) t.1 t.2
def Od:Pt Q2→Pt Q2→Pt Fq→Vq
 | some t,some t',some a=>lv (lnT t t' a)
 | _,_,_=>vg.zero
def NW:Pt Fq→Pt Fq→Pt Fq→Pt Q2→Vq
 | some p,some q,some _,some t=>lv (lnP p q t)
 | _,_,_,_=>vg.zero
def LV (P:C1) (T T':C2):Vq:=Od T.1 T'.1 P.1
def HV (P P':C1) (T:C2):Vq:=NW P.1 P'.1 (iL.grp.add P P').1 T.1
def okT (T T':C2):Prop:=T.1≠none∧T'.1≠none∧(bE.grp.add T T').1≠none
theorem Ib:vg.add vg.zero vg.zero=vg.zero:=vg.zadd _
theorem ES (p' s:Pt Fq) (t:Pt Q2):NW none p' s t=vg.zero:=by simp only[NW]
theorem ER (p s:Pt Fq) (t:Pt Q2):NW p none s t=vg.zero:=by cases p<;>simp only[NW]
theorem EP (p p':Pt Fq) (t:Pt Q2):NW p p' none t=vg.zero:=by cases p<;>cases p'<;>simp only[NW]
theorem QO (p p' s:Pt Fq):NW p p' s none=vg.zero:=by cases p<;>cases p'<;>cases s<;>simp only[NW]
theorem Fs (t t':Pt Q2):Od t t' none=vg.zero:=by cases t<;>cases t'<;>simp only[Od]
theorem aRH (t':Pt Q2) (a:Pt Fq):Od none t' a=vg.zero:=by simp only[Od]
theorem aRG (t:Pt Q2) (a:Pt Fq):Od t none a=vg.zero:=by cases t<;>simp only[Od]
theorem yK {t t':Q2×Q2} {a:Fq×Fq} (h:a.2≠F1.zero):lnT t t' a≠aF.zero:=tQ h
theorem DB {p q:Fq×Fq} {t:Q2×Q2} (h:t.2≠F2.zero):lnP p q t≠aF.zero:=uZ h
theorem EO (p q s:Fq×Fq) (t:Q2×Q2):NW (some p) (some q) (some s) (some t)=lv (lnP p q t):=by simp only[NW]
theorem QN (t t':Q2×Q2) (a:Fq×Fq):Od (some t) (some t') (some a)=lv (lnT t t' a):=by simp only[Od]
theorem mY (a b:Vq):(vg.add a b).1=aF.mul a.1 b.1:=rfl
theorem IV:vg.zero.1=aF.one:=rfl
theorem qH (t t':Q2×Q2) (a:Fq×Fq):lnT t t' a=lT (eE F2 eD t.1 t.2 t'.1 t'.2) (hgt F2 (eE F2 eD t.1 t.2 t'.1 t'.2) t) a.1 a.2:=rfl
theorem yL (p q:Fq×Fq) (t:Q2×Q2):lnP p q t=lP (eE F1 cF p.1 p.2 q.1 q.2) (hgt F1 (eE F1 cF p.1 p.2 q.1 q.2) p) t.1 t.2:=rfl
theorem Gf (P P':C1):(iL.grp.add P P').1=jI F1 cF P.1 P'.1:=rfl
theorem oQ (P P':C2):(bE.grp.add P P').1=jI F2 eD P.1 P'.1:=rfl
theorem Mw (t:Q2×Q2):PI F2 (some t)=some (t.1,F2.neg t.2):=rfl
theorem aUO (t:Fq×Fq):PI F1 (some t)=some (t.1,F1.neg t.2):=rfl
theorem GQ {R:Type} {K:CR R} {inv:R→R} {p q:R×R} (h:jI K inv (some p) (some q)≠none):¬(p.1=q.1∧K.add p.2 q.2=K.zero):=fun e=>h (mD e)
theorem Vr {p p' s:Pt Fq} {t:Pt Q2} (hp:On F1 (fm 3) p) (hp':On F1 (fm 3) p') (hs:jI F1 cF p p'=s) (ht:On F2 dO t):vg.add (NW p p' s t) (NW p p' s (PI F2 t))=vg.zero:=by
 match p,p',s,t with
 | none,_,_,_=>rw[ES,ES,Ib]
 | some p,none,_,_=>rw[ER,ER,Ib]
 | some p,some q,none,_=>rw[EP,EP,Ib]
 | some p,some q,some s,none=>rw[show PI F2 (none:Pt Q2)=none from rfl,QO,Ib]
 | some p,some q,some s,some t =>
  obtain⟨s',e1,C⟩:=WR iL hp hp' (GQ (by rw[hs]; exact Option.some_ne_none _));have e2:s'=s:=by rw[hs]at e1; exact (Option.some.inj e1).symm
  subst e2;have hs':On F1 (fm 3) (some s'):=by rw[←hs]; exact hp.add iL hp'
  refine Subtype.ext ?_;rw[Mw,EO,EO,mY,IV];have hy':F2.neg t.2≠F2.zero:=fun e=>nE ht (by rw[←F2.neg_neg t.2,e,yH])
  rw[dK (DB (nE ht)),dK (DB (t:=(t.1,F2.neg t.2)) hy')];have r:=Ft C.cub (x:=t.1) (y:=t.2) ht (nE ht) (qJ hp) (qJ hp') (qJ hs');rw[yL,yL];dsimp only;exact r
theorem bAb (P P':C1) (T:C2):HV P P' (bE.grp.neg T)=vg.neg (HV P P' T):=by
 refine vg.cancel (a:=HV P P' T) ?_;rw[vg.addn];exact Vr P.2 P'.2 rfl T.2
theorem aOy {t t':Pt Q2} {a:Pt Fq} (ht:On F2 dO t) (ht':On F2 dO t') (hn:jI F2 eD t t'≠none) (ha:On F1 (fm 3) a):vg.add (Od t t' a) (Od t t' (PI F1 a))=vg.zero:=by
 match t,t',a with
 | none,_,_=>rw[aRH,aRH,Ib]
 | some t,none,_=>rw[aRG,aRG,Ib]
 | some t,some t',none=>rw[show PI F1 (none:Pt Fq)=none from rfl,Fs,Ib]
 | some t,some t',some a =>
  obtain⟨u,e1,C⟩:=WR bE ht ht' (GQ hn);refine Subtype.ext ?_;rw[aUO,QN,QN,mY,IV];have hy':F1.neg a.2≠F1.zero:=fun e=>jA ha (by rw[←F1.neg_neg a.2,e,bU])
  rw[dK (yK (jA ha)),dK (yK (a:=(a.1,F1.neg a.2)) hy')];have r:=Vs C.cub (a:=a.1) (b:=a.2) ha (jA ha) (qJ ha);rw[qH,qH];dsimp only;exact r
theorem Wd {p p':Pt Fq} {t t':Pt Q2} (hp:On F1 (fm 3) p) (hp':On F1 (fm 3) p') (ht:On F2 dO t) (ht':On F2 dO t') (h1:t≠none) (h2:t'≠none) (h3:jI F2 eD t t'≠none) :
  vg.add (vg.add (Od t t' p) (Od t t' p')) (NW p p' (jI F1 cF p p') (jI F2 eD t t'))=vg.add (Od t t' (jI F1 cF p p')) (vg.add (NW p p' (jI F1 cF p p') t) (NW p p' (jI F1 cF p p') t')):=by
 match p,p',t,t' with
 | _,_,none,_=>exact absurd rfl h1
 | _,_,some _,none=>exact absurd rfl h2
 | none,p',some t,some t'=>rw[ES,ES,ES,Fs,vg.zadd,Ib,show jI F1 cF none p'=p' from rfl]
 | some p,none,some t,some t'=>rw[ER,ER,ER,Fs,vg.addz,Ib,show jI F1 cF (some p) none=some p from rfl]
 | some p,some q,some t,some t' =>
  obtain⟨u,e1,D⟩:=WR bE ht ht' (GQ h3);have hu:On F2 dO (some u):=by rw[←e1]; exact ht.add bE ht'
  by_cases hn:p.1=q.1∧F1.add p.2 q.2=F1.zero
  ·rw[mD hn,EP,EP,EP,Fs,Ib,vg.addz,Ib];have e:q=(p.1,F1.neg p.2):=Prod.ext hn.1.symm (by
    have h:=congrArg (fun z=>F1.add (F1.neg p.2) z) hn.2;simp only[←F1.add_assoc,F1.add_zero]at h;rw[F1.add_comm (F1.neg p.2) p.2,F1.add_neg,F1.zero_add]at h;exact h)
   rw[e];exact aOy ht ht' h3 hp
  ·obtain⟨s,e2,C⟩:=WR iL hp hp' hn;have hs:On F1 (fm 3) (some s):=by rw[←e2]; exact hp.add iL hp'
   rw[e1,e2];refine Subtype.ext ?_;rw[QN,QN,QN,EO,EO,EO,mY,mY,mY,mY];rw[dK (yK (jA hp)),dK (yK (jA hp')),dK (yK (jA hs)),dK (DB (nE ht)),dK (DB (nE ht')),dK (DB (nE hu))];have hy1:F1.neg s.2≠F1.zero:=fun e=>jA hs (by rw[←F1.neg_neg s.2,e,bU])
   have hy2:F2.neg u.2≠F2.zero:=fun e=>nE hu (by rw[←F2.neg_neg u.2,e,yH])
   have r1:=aCl C.cub D.cub C.l1 C.l2 C.l3 D.l1 D.l2 D.l3 (jA hp) (jA hp') hy1 (nE ht) (nE ht') hy2;have r2:=Vs D.cub (a:=s.1) (b:=s.2) hs (jA hs) (qJ hs);have r3:=Ft C.cub (x:=u.1) (y:=u.2) hu (nE hu) (qJ hp) (qJ hp') (qJ hs);have r:=bFl r1 r2 r3;rw[qH,qH,qH,yL,yL,yL];exact r
theorem hrel (P P':C1) (T T':C2) (ho:okT T T'):vg.add (vg.add (LV P T T') (LV P' T T')) (HV P P' (bE.grp.add T T'))=vg.add (LV (iL.grp.add P P') T T') (vg.add (HV P P' T) (HV P P' T')):=by
 unfold LV HV;rw[Gf,oQ];exact Wd P.2 P'.2 T.2 T'.2 ho.1 ho.2.1 ho.2.2
section
variable {A:Type} {K:CR A} {X Y:A}
def Eqw (K:CR A) (a b:A) (S T:A→Prop):Prop:=(∀s,S s→∃t,T t∧K.mul a s=K.mul b t)∧(∀t,T t→∃s,S s∧K.mul a s=K.mul b t)
theorem Eqw.refl (a:A) (S:A→Prop):Eqw K a a S S:=⟨fun s h=>⟨s,h,rfl⟩,fun s h=>⟨s,h,rfl⟩⟩
theorem Eqw.symm {a b:A} {S T:A→Prop} (h:Eqw K a b S T):Eqw K b a T S :=
 ⟨fun t ht=>by obtain⟨s,hs,e⟩:=h.2 t ht; exact⟨s,hs,e.symm⟩,fun s hs=>by obtain⟨t,ht,e⟩:=h.1 s hs; exact⟨t,ht,e.symm⟩⟩
theorem Eqw.trans {a b c d:A} {S T U:A→Prop} (h:Eqw K a b S T) (g:Eqw K c d T U):Eqw K (K.mul c a) (K.mul b d) S U:=by
 have key:∀s t u,K.mul a s=K.mul b t→K.mul c t=K.mul d u→K.mul (K.mul c a) s=K.mul (K.mul b d) u:=fun s t u e f=>by
  rw[K.mul_assoc,e,K.mul_left_comm,f,K.mul_assoc]
 refine⟨fun s hs => ?_,fun u hu => ?_⟩
 ·obtain⟨t,ht,e⟩:=h.1 s hs;obtain⟨u,hu,f⟩:=g.1 t ht;exact⟨u,hu,key s t u e f⟩
 ·obtain⟨t,ht,f⟩:=g.2 u hu;obtain⟨s,hs,e⟩:=h.2 t ht;exact⟨s,hs,key s t u e f⟩
theorem Eqw.op {a b:A} {S T:A→Prop} (x y:A) (h:Eqw K a b S T):Eqw K a b (op K X Y x y S) (op K X Y x y T):=by
 obtain⟨h1,h2⟩:=h;refine⟨?_,?_⟩
 ·rintro z ⟨s,s2,hs,hs2,rfl⟩
  obtain⟨t,ht,e⟩:=h1 s hs;obtain⟨t2,ht2,f⟩:=h1 s2 hs2;exact⟨_,⟨t,t2,ht,ht2,rfl⟩,AF e f⟩
 ·rintro z ⟨t,t2,ht,ht2,rfl⟩
  obtain⟨s,hs,e⟩:=h2 t ht;obtain⟨s2,hs2,f⟩:=h2 t2 ht2;exact⟨_,⟨s,s2,hs,hs2,rfl⟩,AF e f⟩
theorem aNO {b x y k:A} (hY:K.mul Y Y=K.add (K.mul X (K.mul X X)) b) (hy:K.mul y y=K.add (K.mul x (K.mul x x)) b) (hk:K.mul k (K.add y y)=K.one) {S:A→Prop} (h:Idl K S):Eqw K K.one (K.sub X x) (op K X Y x y (op K X Y x (K.neg y) S)) S:=by
 refine⟨?_,?_⟩
 ·rintro _ ⟨_,_,⟨a,bb,ha,hb,rfl⟩,⟨c,d,hc,hd,rfl⟩,rfl⟩
  refine⟨(K.add (K.add (K.add (K.mul (K.sub X x) a) (K.mul (K.sub Y (K.neg y)) bb)) (K.mul (K.sub Y y) c)) (K.mul (K.add (K.add (K.mul X X) (K.mul x X)) (K.mul x x)) d)),h.add _ _ (h.add _ _ (h.add _ _ (h.mul _ _ ha) (h.mul _ _ hb)) (h.mul _ _ hc)) (h.mul _ _ hd),?_⟩;rw[K.one_mul];exact lL (K:=K) (c1:=d) (c2:=(K.neg d)) hY hy (aG K (aV K [X,x,a,Y,y,bb,c,d,b]) ((Z0-Z1)*((Z0-Z1)*Z2+(Z3-(-Z4))*Z5)+(Z3-Z4)*((Z0-Z1)*Z6+(Z3-(-Z4))*Z7)-(Z0-Z1)*((Z0-Z1)*Z2+(Z3-(-Z4))*Z5+(Z3-Z4)*Z6+(Z0*Z0+Z1*Z0+Z1*Z1)*Z7)) (Z7*(Z3*Z3-(Z0*(Z0*Z0)+Z8))+(-Z7)*(Z4*Z4-(Z1*(Z1*Z1)+Z8))) (by kernel_rfl))
 ·intro t ht;refine⟨_,⟨_,_,⟨_,_,h.mul t K.zero ht,h.mul t k ht,rfl⟩,⟨_,_,h.mul t (K.neg k) ht,h.mul t K.zero ht,rfl⟩,rfl⟩,?_⟩;rw[K.one_mul];exact iV (K:=K) (c1:=(K.mul (K.sub X x) t)) hk (aG K (aV K [X,x,t,Y,y,k]) ((Z0-Z1)*((Z0-Z1)*(RE.zero*Z2)+(Z3-(-Z4))*(Z5*Z2))+(Z3-Z4)*((Z0-Z1)*((-Z5)*Z2)+(Z3-(-Z4))*(RE.zero*Z2))-(Z0-Z1)*Z2) ((Z0-Z1)*Z2*(Z5*(Z4+Z4)-RE.one)) (by kernel_rfl))
theorem aNN {b x1 y1 x2 l:A} (hY:K.mul Y Y=K.add (K.mul X (K.mul X X)) b) (H2:(K.mul l (K.add y1 (K.add y1 (K.mul l (K.sub x2 x1)))))=(K.add (K.add (K.mul x1 x1) (K.mul x1 x2)) (K.mul x2 x2))) (H3:(K.mul y1 y1)=(K.add (K.mul x1 (K.mul x1 x1)) b)) (hk:(∃k,K.mul k (K.add y1 (K.add y1 (K.mul l (K.sub x2 x1))))=K.one)∨(∃k,K.mul k (K.sub x2 x1)=K.one)) {S:A→Prop} (h:Idl K S):Eqw K (K.sub X (K.sub (K.sub (K.mul l l) x1) x2)) (K.sub (K.sub Y y1) (K.mul l (K.sub X x1))) (op K X Y x1 y1 (op K X Y x2 (K.add y1 (K.mul l (K.sub x2 x1))) S)) (op K X Y (K.sub (K.sub (K.mul l l) x1) x2) (K.sub (K.mul l (K.sub x1 (K.sub (K.sub (K.mul l l) x1) x2))) y1) S):=by
 have HC:=QR (X:=X) (Y:=Y) hY H2 H3;refine⟨?_,?_⟩
 ·rintro _ ⟨_,_,⟨a,bb,ha,hb,rfl⟩,⟨c,d,hc,hd,rfl⟩,rfl⟩
  exact⟨_,⟨(K.add (K.add (K.add (K.mul l a) (K.mul (K.add (K.sub X x1) (K.mul l l)) bb)) (K.mul (K.add (K.sub X x2) (K.mul l l)) c)) (K.mul (K.add (K.add (K.add (K.sub (K.sub Y y1) (K.mul l (K.sub X x1))) (K.mul l (K.sub X x1))) (K.mul l (K.sub X x2))) (K.mul l (K.mul l l))) d)),(K.add (K.add (K.add a (K.mul l bb)) (K.mul l c)) (K.mul (K.mul l l) d)),h.add _ _ (h.add _ _ (h.add _ _ (h.mul _ _ ha) (h.mul _ _ hb)) (h.mul _ _ hc)) (h.mul _ _ hd),h.add _ _ (h.add _ _ (h.add _ _ ha (h.mul _ _ hb)) (h.mul _ _ hc)) (h.mul _ _ hd),rfl⟩,iV (K:=K) (c1:=(K.add (K.add (K.add a (K.mul l bb)) (K.mul l c)) (K.mul (K.mul l l) d))) HC (aG K (aV K [X,l,x1,x2,a,Y,y1,bb,c,d]) ((Z0-(Z1*Z1-Z2-Z3))*((Z0-Z2)*((Z0-Z3)*Z4+(Z5-(Z6+Z1*(Z3-Z2)))*Z7)+(Z5-Z6)*((Z0-Z3)*Z8+(Z5-(Z6+Z1*(Z3-Z2)))*Z9))-(Z5-Z6-Z1*(Z0-Z2))*((Z0-(Z1*Z1-Z2-Z3))*(Z1*Z4+(Z0-Z2+Z1*Z1)*Z7+(Z0-Z3+Z1*Z1)*Z8+(Z5-Z6-Z1*(Z0-Z2)+Z1*(Z0-Z2)+Z1*(Z0-Z3)+Z1*(Z1*Z1))*Z9)+(Z5-(Z1*(Z2-(Z1*Z1-Z2-Z3))-Z6))*(Z4+Z1*Z7+Z1*Z8+Z1*Z1*Z9))) ((Z4+Z1*Z7+Z1*Z8+Z1*Z1*Z9)*((Z0-Z2)*((Z0-Z3)*(Z0-(Z1*Z1-Z2-Z3)))-(Z5-Z6-Z1*(Z0-Z2))*(Z5-(Z1*(Z2-(Z1*Z1-Z2-Z3))-Z6)+Z1*(Z0-(Z1*Z1-Z2-Z3))))) (by kernel_rfl))⟩
 ·rintro _ ⟨u,w,hu,hw,rfl⟩
  have hg:S (K.sub u (K.mul l w)):=h.sub hu (h.mul _ _ hw);have e0:K.mul (K.sub (K.sub Y y1) (K.mul l (K.sub X x1))) (K.add (K.mul (K.sub X (K.sub (K.sub (K.mul l l) x1) x2)) u) (K.mul (K.sub Y (K.sub (K.mul l (K.sub x1 (K.sub (K.sub (K.mul l l) x1) x2))) y1)) w))=K.mul (K.sub X (K.sub (K.sub (K.mul l l) x1) x2)) (K.add (K.mul (K.sub (K.sub Y y1) (K.mul l (K.sub X x1))) (K.sub u (K.mul l w))) (K.mul (K.sub X x1) (K.mul (K.sub X x2) w))) :=
   iV (K:=K) (c1:=(K.neg w)) HC (aG K (aV K [Y,y1,l,X,x1,x2,u,w]) ((Z0-Z1-Z2*(Z3-Z4))*((Z3-(Z2*Z2-Z4-Z5))*Z6+(Z0-(Z2*(Z4-(Z2*Z2-Z4-Z5))-Z1))*Z7)-(Z3-(Z2*Z2-Z4-Z5))*((Z0-Z1-Z2*(Z3-Z4))*(Z6-Z2*Z7)+(Z3-Z4)*((Z3-Z5)*Z7))) ((-Z7)*((Z3-Z4)*((Z3-Z5)*(Z3-(Z2*Z2-Z4-Z5)))-(Z0-Z1-Z2*(Z3-Z4))*(Z0-(Z2*(Z4-(Z2*Z2-Z4-Z5))-Z1)+Z2*(Z3-(Z2*Z2-Z4-Z5))))) (by kernel_rfl))
  generalize hge:(K.sub u (K.mul l w))=g at hg e0;rw[e0]
  rcases hk with⟨k,hk⟩|⟨k,hk⟩
  ·refine⟨_,⟨_,_,⟨_,_,h.add _ _ (h.mul g (K.mul k (K.add (K.add X x1) x2)) hg) hw,h.mul g K.zero hg,rfl⟩,⟨_,_,h.mul g K.zero hg,h.mul g (K.neg k) hg,rfl⟩,rfl⟩,congrArg (K.mul _) ?_⟩;exact aJB (K:=K) (c1:=(K.mul (K.sub (K.sub Y y1) (K.mul l (K.sub X x1))) g)) (c2:=(K.neg (K.mul k g))) (c3:=(K.mul k g)) (c4:=(K.mul (K.mul k g) (K.sub X x1))) hk hY H3 H2 (aG K (aV K [X,x1,x2,k,g,w,Y,y1,l,b]) ((Z0-Z1)*((Z0-Z2)*(Z3*(Z0+Z1+Z2)*Z4+Z5)+(Z6-(Z7+Z8*(Z2-Z1)))*(RE.zero*Z4))+(Z6-Z7)*((Z0-Z2)*(RE.zero*Z4)+(Z6-(Z7+Z8*(Z2-Z1)))*((-Z3)*Z4))-((Z6-Z7-Z8*(Z0-Z1))*Z4+(Z0-Z1)*((Z0-Z2)*Z5))) ((Z6-Z7-Z8*(Z0-Z1))*Z4*(Z3*(Z7+(Z7+Z8*(Z2-Z1)))-RE.one)+(-(Z3*Z4))*(Z6*Z6-(Z0*(Z0*Z0)+Z9))+Z3*Z4*(Z7*Z7-(Z1*(Z1*Z1)+Z9))+Z3*Z4*(Z0-Z1)*(Z8*(Z7+(Z7+Z8*(Z2-Z1)))-(Z1*Z1+Z1*Z2+Z2*Z2))) (by kernel_rfl))
  ·refine⟨_,⟨_,_,⟨_,_,hw,h.mul g k hg,rfl⟩,⟨_,_,h.mul g (K.neg k) hg,h.mul g K.zero hg,rfl⟩,rfl⟩,congrArg (K.mul _) ?_⟩;exact iV (K:=K) (c1:=(K.mul (K.sub (K.sub Y y1) (K.mul l (K.sub X x1))) g)) hk (aG K (aV K [X,x1,x2,w,Y,y1,l,k,g]) ((Z0-Z1)*((Z0-Z2)*Z3+(Z4-(Z5+Z6*(Z2-Z1)))*(Z7*Z8))+(Z4-Z5)*((Z0-Z2)*((-Z7)*Z8)+(Z4-(Z5+Z6*(Z2-Z1)))*(RE.zero*Z8))-((Z4-Z5-Z6*(Z0-Z1))*Z8+(Z0-Z1)*((Z0-Z2)*Z3))) ((Z4-Z5-Z6*(Z0-Z1))*Z8*(Z7*(Z2-Z1)-RE.one)) (by kernel_rfl))
theorem aLo (D:Dom K) {v0 vW vR vS l1 l2 m1 m2 la t s:A} (h:K.mul (K.mul v0 (K.mul (K.mul (K.mul vW vR) (K.mul l1 l2)) la)) K.one=K.mul (K.mul (K.mul v0 (K.mul (K.mul vW vS) (K.mul m1 m2))) la) t)
  (h':K.mul (K.mul v0 (K.mul (K.mul (K.mul vW vR) (K.mul l1 l2)) la)) s=K.mul (K.mul (K.mul v0 (K.mul (K.mul vW vS) (K.mul m1 m2))) la) K.one)
  (h0:v0≠K.zero) (hW:vW≠K.zero) (hS:vS≠K.zero) (hm1:m1≠K.zero) (hm2:m2≠K.zero) (hla:la≠K.zero):K.mul t s=K.one∧K.mul vR (K.mul l1 l2)=K.mul t (K.mul vS (K.mul m1 m2)):=by
 have hb:K.mul (K.mul v0 (K.mul (K.mul vW vS) (K.mul m1 m2))) la≠K.zero:=D.2 _ _ (D.2 _ _ h0 (D.2 _ _ (D.2 _ _ hW hS) (D.2 _ _ hm1 hm2))) hla;refine⟨?_,?_⟩
 ·rw[K.mul_one]at h;rw[h,K.mul_assoc]at h';exact oU D hb h'
 ·have hk:K.mul (K.mul v0 vW) la≠K.zero:=D.2 _ _ (D.2 _ _ h0 hW) hla;refine oU D hk ?_;have e1:K.mul (K.mul (K.mul v0 vW) la) (K.mul vR (K.mul l1 l2))=K.mul (K.mul v0 (K.mul (K.mul (K.mul vW vR) (K.mul l1 l2)) la)) K.one:=aG K (aV K [v0,vW,la,vR,l1,l2]) (Z0*Z1*Z2*(Z3*(Z4*Z5))) (Z0*(Z1*Z3*(Z4*Z5)*Z2)*RE.one) (by kernel_rfl);have e2:K.mul (K.mul (K.mul v0 (K.mul (K.mul vW vS) (K.mul m1 m2))) la) t=K.mul (K.mul (K.mul v0 vW) la) (K.mul t (K.mul vS (K.mul m1 m2))):=aG K (aV K [v0,vW,la,vS,m1,m2,t]) (Z0*(Z1*Z3*(Z4*Z5))*Z2*Z6) (Z0*Z1*Z2*(Z6*(Z3*(Z4*Z5)))) (by kernel_rfl);exact e1.trans (h.trans e2)
end
section
variable {R:Type} {K:CR R} {inv:R→R} {b:R}
theorem Eqw.opP {a c:Pol K×Pol K} {S T:Pol K×Pol K→Prop} (h:Eqw (cN K b) a c S T) (p:Pt R):Eqw (cN K b) a c (opP K b p S) (opP K b p T):=by
 cases p with
 | none=>exact h
 | some p=>exact h.op _ _
def ver (K:CR R) (b:R):Pt R→Pol K×Pol K
 | none=>(cN K b).one
 | some p=>(cN K b).sub cX (cc p.1)
open Classical in
def If (K:CR R) (inv:R→R) (b:R):Pt R→Pt R→Pol K×Pol K
 | none,q=>ver K b q
 | some p,none=>ver K b (some p)
 | some p,some q=>if p.1=q.1∧K.add p.2 q.2=K.zero then (cN K b).sub cX (cc p.1)else (cN K b).sub ((cN K b).sub cY (cc p.2)) ((cN K b).mul (cc (eE K inv p.1 p.2 q.1 q.2)) ((cN K b).sub cX (cc p.1)))
theorem VD {p q:R×R} (h:p.1=q.1∧K.add p.2 q.2=K.zero):If K inv b (some p) (some q)=(cN K b).sub cX (cc p.1):=if_pos h
theorem VC {p q:R×R} (h:¬(p.1=q.1∧K.add p.2 q.2=K.zero)):If K inv b (some p) (some q)=(cN K b).sub ((cN K b).sub cY (cc p.2)) ((cN K b).mul (cc (eE K inv p.1 p.2 q.1 q.2)) ((cN K b).sub cX (cc p.1))):=if_neg h
theorem xS (E:EC K inv b):∀p:Pt R,ver K b p≠(cN K b).zero
 | none=>(kV (K:=K) b E.F).1
 | some p=>aQn E.F _
theorem LK (E:EC K inv b):∀p q:Pt R,If K inv b p q≠(cN K b).zero
 | none,q=>xS E q
 | some p,none=>xS E (some p)
 | some p,some q=>by
  by_cases h:p.1=q.1∧K.add p.2 q.2=K.zero
  ·rw[VD h]; exact aQn E.F _
  ·rw[VC h]; exact aJj E.F _ _ _
theorem mL (E:EC K inv b) {S:Pol K×Pol K→Prop} (hS:Idl (cN K b) S):∀{p q:Pt R},On K b p→On K b q→Eqw (cN K b) (ver K b (jI K inv p q)) (If K inv b p q) (opP K b p (opP K b q S)) (opP K b (jI K inv p q) S)
 | none,_,_,_=>Eqw.refl _ _
 | some _,none,_,_=>Eqw.refl _ _
 | some ⟨x1,y1⟩,some ⟨x2,y2⟩,hp,hq=>by
  by_cases hn:x1=x2∧K.add y1 y2=K.zero
  ·rw[mD hn,VD hn];obtain⟨rfl,hy⟩:=hn;have e:y2=K.neg y1:=by
    apply K.add_cancel (a:=y1);rw[hy,K.add_neg]
   subst e;show Eqw (cN K b) (cN K b).one ((cN K b).sub cX (cc x1)) (op (cN K b) cX cY (cc x1) (cc y1) (op (cN K b) cX cY (cc x1) (cc (K.neg y1)) S)) S;have h0:=E.F.inv _ (E.dbl_ne (E.y_ne hp));rw[Pu b];refine aNO (b:=cc b) (k:=cc (inv (K.add y1 y1))) (aPT b) ?_ ?_ hS
   ·rw[←hJ,←hJ,←hJ,←jT];exact congrArg cc hp
   ·rw[←jT,←hJ,K.mul_comm,h0];rfl
  ·rw[kQ hn,VC hn];have h:=zJ E hp hq hn;dsimp only at h ⊢;generalize eE K inv x1 y1 x2 y2=l at h;obtain⟨h1,h2,hk⟩:=h;subst h1;show Eqw (cN K b) ((cN K b).sub cX (cc (sx K l x1 x2))) ((cN K b).sub ((cN K b).sub cY (cc y1)) ((cN K b).mul (cc l) ((cN K b).sub cX (cc x1)))) (op (cN K b) cX cY (cc x1) (cc y1) (op (cN K b) cX cY (cc x2) (cc (K.add y1 (K.mul l (K.sub x2 x1)))) S)) (op (cN K b) cX cY (cc (sx K l x1 x2)) (cc (sy K l x1 y1 x2)) S);unfold sy sx;simp only[jT b,hJ b,qM b];refine aNN (b:=cc b) (aPT b) ?_ ?_ ?_ hS
   ·have:=congrArg (cc (K:=K)) h2;simpa only[jT b,hJ b,qM b]using this
   ·have:=congrArg (cc (K:=K)) hp;simpa only[jT b,hJ b,qM b]using this
   ·rcases hk with⟨k,hk⟩|⟨k,hk⟩
    ·refine Or.inl ⟨cc k,?_⟩;have:=congrArg (cc (K:=K)) hk;simpa only[jT b,hJ b,qM b,WS b]using this
    ·refine Or.inr ⟨cc k,?_⟩;have:=congrArg (cc (K:=K)) hk;simpa only[jT b,hJ b,qM b,WS b]using this
theorem Ve (F:FD K inv) (f:Pol K×Pol K) (h:f≠(cN K b).zero):∃d,dg (nrm b f) d∧((f.2=bD.zero∧∃n,dg f.1 n∧d=n+n)∨3≤d):=by
 have hq:dg (qP b:Pol K) 3:=aSb F b
 by_cases h2:f.2=bD.zero
 ·have h1:f.1≠bD.zero:=fun e=>h (Prod.ext e h2)
  obtain⟨n,hn⟩:=MG _ h1;refine⟨n+n,?_,Or.inl ⟨h2,n,hn,rfl⟩⟩;unfold nrm;rw[h2,bD.mul_zero,bD.mul_zero];show dg (bD.add _ (bD.neg bD.zero)) _;rw[bU,bD.add_zero];exact jS F hn hn
 ·obtain⟨m,hm⟩:=MG _ h2;have hr:=jS F hq (jS F hm hm)
  by_cases h1:f.1=bD.zero
  ·refine⟨3+(m+m),?_,Or.inr (by omega)⟩;unfold nrm;rw[h1,bD.mul_zero];show dg (bD.add _ _) _;rw[bD.zero_add];exact WJ hr
  ·obtain⟨n,hn⟩:=MG _ h1;have hl:=jS F hn hn;have hr':=WJ hr
   rcases Nat.lt_or_ge (n+n) (3+(m+m))with q|q
   ·refine⟨3+(m+m),?_,Or.inr (by omega)⟩;show dg (bD.add _ _) _;rw[bD.add_comm];exact vH hr' fun i hi=>hl.2 i (by omega)
   ·refine⟨n+n,?_,Or.inr (by omega)⟩;exact vH hl fun i hi=>hr'.2 i (by omega)
theorem Rz (F:FD K inv) {t s:Pol K×Pol K} (h:(cN K b).mul t s=(cN K b).one):∃c,c≠K.zero∧t=cc c:=by
 have D:=kV (K:=K) b F;have ht:t≠(cN K b).zero:=fun e=>by rw[e,(cN K b).zero_mul]at h; exact D.1 h.symm
 have hs:s≠(cN K b).zero:=fun e=>by rw[e,(cN K b).mul_zero]at h; exact D.1 h.symm
 obtain⟨d1,g1,k1⟩:=Ve (b:=b) F t ht;obtain⟨d2,g2,_⟩:=Ve (b:=b) F s hs;have g:=jS F g1 g2;rw[←UU,h]at g;have o:dg (nrm b (cN K b).one:Pol K) 0:=by
  have e:(nrm b (cN K b).one:Pol K)=bD.one:=by
   show bD.sub (bD.mul bD.one bD.one) (bD.mul (qP b) (bD.mul bD.zero bD.zero))=_;rw[bD.mul_one,bD.mul_zero,bD.mul_zero];show bD.add _ (bD.neg bD.zero)=_;rw[bU,bD.add_zero]
  rw[e];exact⟨F.ne,fun i hi=>by cases i with|zero=>omega|succ i=>rfl⟩
 have hd:=aJs o g
 rcases k1 with⟨z,n,hn,e⟩|q
 ·have hn0:n=0:=by omega
  subst hn0;refine⟨t.1.1 0,hn.1,Prod.ext (Pol.ext fun i => ?_) z⟩;cases i with
  | zero=>rfl
  | succ i=>exact hn.2 _ (by omega)
 ·omega
theorem bDS (E:EC K inv b) {p q r:Pt R} (hp:On K b p) (hq:On K b q) (hr:On K b r):∃c,c≠K.zero ∧
  (cN K b).mul (ver K b (jI K inv q r)) ((cN K b).mul (If K inv b p q) (If K inv b (jI K inv p q) r))=(cN K b).mul (cc c) ((cN K b).mul (ver K b (jI K inv p q)) ((cN K b).mul (If K inv b q r) (If K inv b p (jI K inv q r)))):=by
 have D:=kV (K:=K) b E.F;have hu:=mH (cN K b);have hS:=hp.add E hq;have hR:=hq.add E hr;have hW:=hS.add E hr;have e1:=mL E (Tp hu r) hp hq;have e2:=mL E hu hS hr;have e3:=(mL E hu hq hr).opP p;have e4:=mL E hu hp hR;rw[←PJ E hp hq hr]at e4;have f:=(e1.trans e2).symm.trans (e3.trans e4);have n:=mL E hu hW.neg hW;rw[GJ]at n;have k:=(n.symm.trans (f.opP (PI K (jI K inv (jI K inv p q) r)))).trans n;obtain⟨t,_,h1⟩:=k.1 (cN K b).one trivial;obtain⟨s,_,h2⟩:=k.2 (cN K b).one trivial;have u:=aLo D h1 h2 (xS E _) (xS E _) (xS E _) (LK E _ _) (LK E _ _) (LK E _ _);obtain⟨c,hc,e⟩:=Rz (b:=b) E.F u.1;refine⟨c,hc,?_⟩;rw[←e];exact u.2
end
section
variable {R S:Type} {K:CR R} {L:CR S}
structure Hm (K:CR R) (L:CR S) (φ:R→S):Prop where
 add:∀a b,φ (K.add a b)=L.add (φ a) (φ b)
 mul:∀a b,φ (K.mul a b)=L.mul (φ a) (φ b)
 zero:φ K.zero=L.zero
 one:φ K.one=L.one
def jQ (L:CR S) (φ:R→S) (x:S):Nat→(Nat→R)→S
 | 0,_=>L.zero
 | n+1,f=>L.add (φ (f 0)) (L.mul x (jQ L φ x n (tl f)))
variable {φ:R→S} (H:Hm K L φ) (x:S)
include H
theorem UC:∀(n:Nat) (f:Nat→R),(∀i,f i=K.zero)→jQ L φ x n f=L.zero
 | 0,_,_=>rfl
 | n+1,f,h=>by
  show L.add (φ (f 0)) (L.mul x (jQ L φ x n (tl f)))=_;rw[h 0,H.zero,UC n (tl f) (fun i=>h (i+1)),L.mul_zero,L.add_zero]
theorem GK:∀(a n:Nat) (f:Nat→R),(∀i,a≤i→f i=K.zero)→a≤n→jQ L φ x n f=jQ L φ x a f
 | 0,n,f,h,_=>UC H x n f (fun i=>h i (Nat.zero_le _))
 | a+1,0,f,h,hn=>absurd hn (by omega)
 | a+1,n+1,f,h,hn=>by
  show L.add _ (L.mul x (jQ L φ x n (tl f)))=L.add _ (L.mul x (jQ L φ x a (tl f)));rw[GK a n (tl f) (fun i hi=>h (i+1) (by omega)) (by omega)]
theorem KE:∀(n:Nat) (f g:Nat→R),jQ L φ x n (WB K f g)=L.add (jQ L φ x n f) (jQ L φ x n g)
 | 0,_,_=>(L.add_zero _).symm
 | n+1,f,g=>by
  show L.add (φ (K.add (f 0) (g 0))) (L.mul x (jQ L φ x n (WB K (tl f) (tl g))))=L.add (L.add (φ (f 0)) (L.mul x (jQ L φ x n (tl f)))) (L.add (φ (g 0)) (L.mul x (jQ L φ x n (tl g))));rw[KE n,H.add];exact aG L (aV L [φ (f 0),φ (g 0),x,jQ L φ x n (tl f),jQ L φ x n (tl g)]) (Z0+Z1+Z2*(Z3+Z4)) (Z0+Z2*Z3+(Z1+Z2*Z4)) (by kernel_rfl)
theorem Tj:∀(n:Nat) (c:R) (f:Nat→R),jQ L φ x n (fsc K c f)=L.mul (φ c) (jQ L φ x n f)
 | 0,_,_=>(L.mul_zero _).symm
 | n+1,c,f=>by
  show L.add (φ (K.mul c (f 0))) (L.mul x (jQ L φ x n (fsc K c (tl f))))=L.mul (φ c) (L.add (φ (f 0)) (L.mul x (jQ L φ x n (tl f))));rw[Tj n,H.mul,L.mul_add,L.mul_left_comm]
theorem Ec:∀(a:Nat) (f g:Nat→R) (b n:Nat),(∀i,a≤i→f i=K.zero)→(∀i,b≤i→g i=K.zero)→a+b≤n→jQ L φ x n (FZ K f g)=L.mul (jQ L φ x a f) (jQ L φ x b g)
 | 0,f,g,b,n,hf,hg,hn=>by
  have e:f=fze K:=funext fun i=>hf i (Nat.zero_le _)
  subst e;rw[UC H x n (FZ K (fze K) g) (fun i=>WL K i g)];exact (L.zero_mul _).symm
 | a+1,f,g,b,0,hf,hg,hn=>absurd hn (by omega)
 | a+1,f,g,b,n+1,hf,hg,hn=>by
  have e:tl (FZ K f g)=WB K (fsc K (f 0) (tl g)) (FZ K (tl f) g):=rfl;show L.add (φ (K.mul (f 0) (g 0))) (L.mul x (jQ L φ x n (tl (FZ K f g))))=L.mul (L.add (φ (f 0)) (L.mul x (jQ L φ x a (tl f)))) (jQ L φ x b g);rw[e,KE H,Tj H,Ec a (tl f) g b n (fun i hi=>hf (i+1) (by omega)) hg (by omega),H.mul];have e2:jQ L φ x b g=L.add (φ (g 0)) (L.mul x (jQ L φ x n (tl g))):=(GK H x b (n+1) g hg (by omega)).symm;rw[e2];exact aG L (aV L [φ (f 0),φ (g 0),x,jQ L φ x n (tl g),jQ L φ x a (tl f)]) (Z0*Z1+Z2*(Z0*Z3+Z4*(Z1+Z2*Z3))) ((Z0+Z2*Z4)*(Z1+Z2*Z3)) (by kernel_rfl)
omit H in
def qQ (L:CR S) (φ:R→S) (x:S) (f:Pol K):S:=jQ L φ x (Classical.choose f.2) f.1
theorem sQ (f:Pol K) (n:Nat) (h:∀i,n≤i→f.1 i=K.zero):qQ L φ x f=jQ L φ x n f.1:=by
 have h':=Classical.choose_spec f.2;unfold qQ;generalize Classical.choose f.2=m at h' ⊢;rw[←GK H x m (m+n) f.1 h' (by omega),←GK H x n (m+n) f.1 h (by omega)]
theorem wB (f g:Pol K):qQ L φ x (bD.add f g)=L.add (qQ L φ x f) (qQ L φ x g):=by
 obtain⟨a,ha⟩:=f.2;obtain⟨b,hb⟩:=g.2;rw[sQ H x f (a+b) (fun i hi=>ha i (by omega)),sQ H x g (a+b) (fun i hi=>hb i (by omega)),←KE H];exact sQ H x (bD.add f g) (a+b) (fun i hi=>by show K.add (f.1 i) (g.1 i)=_; rw[ha i (by omega),hb i (by omega),K.add_zero])
theorem sP (f g:Pol K):qQ L φ x (bD.mul f g)=L.mul (qQ L φ x f) (qQ L φ x g):=by
 obtain⟨a,ha⟩:=f.2;obtain⟨b,hb⟩:=g.2;rw[sQ H x f a ha,sQ H x g b hb,←Ec H x a f.1 g.1 b (a+b) ha hb (Nat.le_refl _)];exact sQ H x (bD.mul f g) (a+b) (fun i hi=>WM K a b f.1 g.1 ha hb i (by omega))
theorem Ng (c:R):qQ L φ x (mE c:Pol K)=φ c:=by
 rw[sQ H x (mE c) 1 (fun i hi=>by cases i with|zero=>omega|succ i=>rfl)];show L.add (φ c) (L.mul x L.zero)=_;rw[L.mul_zero,L.add_zero]
theorem aQO:qQ L φ x (pX:Pol K)=x:=by
 rw[sQ H x pX 2 (fun i hi=>by match i,hi with|i+2,_=>rfl)];show L.add (φ K.zero) (L.mul x (L.add (φ K.one) (L.mul x L.zero)))=_;rw[H.zero,H.one,L.mul_zero,L.add_zero,L.mul_one,L.zero_add]
theorem uT:qQ L φ x (bD.zero:Pol K)=L.zero:=by
 rw[sQ H x bD.zero 0 (fun i hi=>rfl)];rfl
theorem Th:qQ L φ x (bD.one:Pol K)=L.one:=(Ng H x K.one).trans H.one
theorem Ti (f:Pol K):qQ L φ x (bD.neg f)=L.neg (qQ L φ x f):=by
 have h:=wB H x f (bD.neg f);rw[bD.add_neg,uT H]at h;apply L.add_cancel (a:=qQ L φ x f);rw[←h,L.add_neg]
omit H in
def rL (L:CR S) (φ:R→S) (x y:S) (f:Pol K×Pol K):S:=L.add (qQ L φ x f.1) (L.mul y (qQ L φ x f.2))
variable (y:S) {b:R}
theorem aGi (f g:Pol K×Pol K):rL L φ x y ((cN K b).add f g)=L.add (rL L φ x y f) (rL L φ x y g):=by
 show L.add (qQ L φ x (bD.add f.1 g.1)) (L.mul y (qQ L φ x (bD.add f.2 g.2)))=_;unfold rL;rw[wB H,wB H];exact aG L (aV L [qQ L φ x f.1,qQ L φ x g.1,y,qQ L φ x f.2,qQ L φ x g.2]) (Z0+Z1+Z2*(Z3+Z4)) (Z0+Z2*Z3+(Z1+Z2*Z4)) (by kernel_rfl)
theorem aUZ:qQ L φ x (qP b:Pol K)=L.add (L.mul x (L.mul x x)) (φ b):=by
 unfold qP;rw[wB H,sP H,sP H,Ng H,aQO H]
theorem aGh (hy:L.mul y y=L.add (L.mul x (L.mul x x)) (φ b)) (f g:Pol K×Pol K):rL L φ x y ((cN K b).mul f g)=L.mul (rL L φ x y f) (rL L φ x y g):=by
 show L.add (qQ L φ x (bD.add (bD.mul f.1 g.1) (bD.mul (qP b) (bD.mul f.2 g.2)))) (L.mul y (qQ L φ x (bD.add (bD.mul f.1 g.2) (bD.mul f.2 g.1))))=_;unfold rL;rw[wB H,wB H,sP H,sP H,sP H,sP H,sP H,aUZ H,←hy];exact aG L (aV L [qQ L φ x f.1,qQ L φ x g.1,y,qQ L φ x f.2,qQ L φ x g.2]) (Z0*Z1+Z2*Z2*(Z3*Z4)+Z2*(Z0*Z4+Z3*Z1)) ((Z0+Z2*Z3)*(Z1+Z2*Z4)) (by kernel_rfl)
theorem aGg (f:Pol K×Pol K):rL L φ x y ((cN K b).neg f)=L.neg (rL L φ x y f):=by
 show L.add (qQ L φ x (bD.neg f.1)) (L.mul y (qQ L φ x (bD.neg f.2)))=_;unfold rL;rw[Ti H,Ti H];exact aG L (aV L [qQ L φ x f.1,y,qQ L φ x f.2]) (-Z0+Z1*(-Z2)) (-(Z0+Z1*Z2)) (by kernel_rfl)
theorem aGe (f g:Pol K×Pol K):rL L φ x y ((cN K b).sub f g)=L.sub (rL L φ x y f) (rL L φ x y g):=by
 show rL L φ x y ((cN K b).add f ((cN K b).neg g))=L.add _ (L.neg _);rw[aGi H,aGg H]
theorem aNG (c:R):rL L φ x y (cc c:Pol K×Pol K)=φ c:=by
 show L.add (qQ L φ x (mE c)) (L.mul y (qQ L φ x bD.zero))=_;rw[Ng H,uT H,L.mul_zero,L.add_zero]
theorem aVb:rL L φ x y (cX:Pol K×Pol K)=x:=by
 show L.add (qQ L φ x pX) (L.mul y (qQ L φ x bD.zero))=_;rw[aQO H,uT H,L.mul_zero,L.add_zero]
theorem aVa:rL L φ x y (cY:Pol K×Pol K)=y:=by
 show L.add (qQ L φ x bD.zero) (L.mul y (qQ L φ x bD.one))=_;rw[uT H,Th H,L.mul_one,L.zero_add]
theorem aGf:rL L φ x y ((cN K b).one)=L.one:=by
 show L.add (qQ L φ x bD.one) (L.mul y (qQ L φ x bD.zero))=_;rw[uT H,Th H,L.mul_zero,L.add_zero]
end
end Go.Proofs.YtglgakbkdjhojaaGreat.Ex
