/- Jj13 -/
import Derived.Test.YtjeplinbleofnaaJj11
import Derived.Test.YtjeplinbleofnaaJj07
import Derived.Test.YtjeplinbleofnaaProg
set_option maxRecDepth 100000
set_option linter.unusedVariables false
set_option linter.unusedSimpArgs false
set_option linter.unnecessarySimpa false
noncomputable section
namespace Go.Proofs.Ytjeplinbleofnaa.Ex
open Go.Proofs.Try
open Go.RowKit
def Dx:ByteArray:=⟨[50,55,51,54,48,51,48,51,53,56,57,55,57,57,48,57,52,48,50,55,56,48,56,48,48,55,49,56,49,53,55,49,53,57,51,56,54,48,55,54,56,49,51,57,55,50,49,53,56,53,54,55,50,53,57,50,48,48,50,49,53,54,54,48,57,52,56,52,52,55,51,55,51,48,52,49].toArray⟩
def ZN:ByteArray:=⟨[53,50,57,57,54,49,57,50,52,48,54,52,49,53,53,49,50,56,49,54,51,52,56,54,53,53,56,51,53,49,56,50,57,55,48,51,48,50,56,50,56,55,52,52,55,50,49,57,48,55,55,50,56,57,52,48,56,54,53,50,49,49,52,52,52,56,50,55,50,49,48,48,49,53,53,51].toArray⟩
def Dw:ByteArray:=⟨[49,54,57,53,48,49,53,48,55,57,56,52,54,48,54,53,55,55,49,55,57,53,56,54,50,53,53,54,55,56,50,49,56,51,52,53,53,48,51,48,49,54,54,51,49,54,49,54,50,52,55,48,55,55,56,55,50,50,50,56,49,53,57,51,54,49,56,50,54,51,56,57,54,56,50,48,51].toArray⟩
theorem GS  : bM prog (qG prog) (fun n=>⟨fun _=>LZ,fun _=>true,fun _=>none⟩) f21 60 []=some ([Dx.size≤maxLen],.one (.fl [.q lJ])):=by kernel_rfl
theorem DC  : bM prog (qG prog) (fun n=>⟨fun _=>LZ,fun _=>true,fun _=>none⟩) f19 60 []=some ([ZN.size≤maxLen,Dw.size≤maxLen],.one (.fl [.q bX,.q bY])):=by kernel_rfl
theorem ZQ:Dx.size≤maxLen:=Nat.le_of_ble_eq_true (by kernel_rfl)
theorem ZP:ZN.size≤maxLen:=Nat.le_of_ble_eq_true (by kernel_rfl)
theorem ZO:Dw.size≤maxLen:=Nat.le_of_ble_eq_true (by kernel_rfl)
theorem kO (w:World):bC prog 21 (.one (.fl [.q lJ])) [] w:=aF aZ (fun _ _=>IX) (aS _) func21 GS ⟨ZQ,trivial⟩ (args:=[]) trivial
theorem vP (w:World):bC prog 19 (.one (.fl [.q bX,.q bY])) [] w:=aF aZ (fun _ _=>IX) (aS _) func19 DC ⟨ZP,ZO,trivial⟩ (args:=[]) trivial
def jW (b:Bool):Tab:=((LX.add 14 (YL b)).add 39 YK).add 21 (g0 (.one (.fl [.q lJ])))
theorem gR (b:Bool):TabOk prog (jW b):=((BJ.ad func14 (ZB b)).ad func39 Cx).ad func21 (fZ kO)
theorem TO (p q:NP):bM prog (qG prog) (fun n=>⟨fun _=>jW false,fun _=>true,fun _=>none⟩) f8 60 [.v (.fl [.q p.1,.q p.2]),.v (.fl [.q q.1,.q q.2])]=some ([p.1<aC,p.2<aC,bG p.1 p.2=false],.many [.fl xV,.im (.int .i64 41)]):=by kernel_rfl
theorem TN (p q:NP):bM prog (qG prog) (fun n=>⟨fun s=>jW (Nat.beq s 7),fun _=>true,fun _=>none⟩) f8 60 [.v (.fl [.q p.1,.q p.2]),.v (.fl [.q q.1,.q q.2])]=some ([p.1<aC,p.2<aC,bG p.1 p.2=true,q.1<aC,q.2<aC,bG q.1 q.2=false],.many [.fl xV,.im (.int .i64 41)]):=by kernel_rfl
theorem TM (p q:NP):bM prog (qG prog) (fun n=>⟨fun _=>jW true,fun _=>true,fun _=>none⟩) f8 60 [.v (.fl [.q p.1,.q p.2]),.v (.fl [.q q.1,.q q.2])]=some ([p.1<aC,p.2<aC,bG p.1 p.2=true,q.1<aC,q.2<aC,bG q.1 q.2=true,p.1<RM,p.2<RM,1<RM,q.1<RM,q.2<RM,1<RM,(gG (p.1,p.2,1) (q.1,q.2,1)).1<RM,(gG (p.1,p.2,1) (q.1,q.2,1)).2.1<RM,(gG (p.1,p.2,1) (q.1,q.2,1)).2.2<RM,(gG (p.1,p.2,1) (q.1,q.2,1)).2.2≠0],mL (cN p q) 0):=by kernel_rfl
theorem SY (p:NP):bM prog (qG prog) (fun n=>⟨fun _=>jW false,fun _=>true,fun _=>none⟩) f10 60 [.v (.fl [.q p.1,.q p.2])]=some ([p.1<aC,p.2<aC,bG p.1 p.2=false],.many [.fl xV,.im (.int .i64 41)]):=by kernel_rfl
theorem SX (p:NP):bM prog (qG prog) (fun n=>⟨fun _=>jW true,fun _=>true,fun _=>none⟩) f10 60 [.v (.fl [.q p.1,.q p.2])]=some ([p.1<aC,p.2<aC,bG p.1 p.2=true,0<RM,p.1<RM],mL (fX p) 0):=by kernel_rfl
theorem TA (p:NP) (n:Nat):bM prog (qG prog) (fun n=>⟨fun _=>jW false,fun _=>true,fun _=>none⟩) f12 60 [.v (.fl [.q p.1,.q p.2]),.v (.fl [.q n])]=some ([p.1<aC,p.2<aC,bG p.1 p.2=false],.many [.fl xV,.im (.int .i64 41)]):=by kernel_rfl
theorem SZ (p:NP) (n:Nat):bM prog (qG prog) (fun n=>⟨fun _=>jW true,fun _=>true,fun _=>none⟩) f12 60 [.v (.fl [.q p.1,.q p.2]),.v (.fl [.q n])]=some ([p.1<aC,p.2<aC,bG p.1 p.2=true,OnJ p.1 p.2],mL (cL p n) 0):=by kernel_rfl
theorem TL (p:NP):bM prog (qG prog) (fun n=>⟨fun _=>jW false,fun _=>true,fun _=>none⟩) f17 60 [.v (.fl [.q p.1,.q p.2])]=some ([p.1<aC,p.2<aC,bG p.1 p.2=false],.one (.im (.int .i64 41))):=by kernel_rfl
theorem TJ (p:NP):bM prog (qG prog) (fun n=>⟨fun _=>jW true,fun _=>true,fun _=>none⟩) f17 60 [.v (.fl [.q p.1,.q p.2])]=some ([p.1<aC,p.2<aC,bG p.1 p.2=true,OnJ p.1 p.2,aB [At.q (cL p lJ).1,.q (cL p lJ).2]=aB [At.q 0,.q 1]],.one (.im (.int .i64 0))):=by kernel_rfl
theorem TK (p:NP):bM prog (qG prog) (fun n=>⟨fun _=>jW true,fun _=>false,fun _=>none⟩) f17 60 [.v (.fl [.q p.1,.q p.2])]=some ([p.1<aC,p.2<aC,bG p.1 p.2=true,OnJ p.1 p.2,aB [At.q (cL p lJ).1,.q (cL p lJ).2]≠aB [At.q 0,.q 1]],.one (.im (.int .i64 111))):=by kernel_rfl
theorem vQ (p q:NP) (hp:w2 p) (hq:w2 q) (args:List Value) (w:World) (ha:cE w [.v (.fl (q2 p)),.v (.fl (q2 q))] args):bC prog 8 (if (bG p.1 p.2&&bG q.1 q.2)=true then mL (cN p q) 0 else mL (0,0) 41) args w:=by
 cases h:bG p.1 p.2
 ·exact aF aZ (fun _ _=>gR _) (aS _) func8 (TO p q) ⟨hp.1,hp.2,h,trivial⟩ ha
 ·cases k:bG q.1 q.2
  ·exact aF aZ (fun _ _=>gR _) (aS _) func8 (TN p q) ⟨hp.1,hp.2,h,hq.1,hq.2,k,trivial⟩ ha
  ·have h1:=dF.1 h;have h2:=dF.1 k;exact aF aZ (fun _ _=>gR _) (aS _) func8 (TM p q) ⟨hp.1,hp.2,h,hq.1,hq.2,k,h1.1.1,h1.1.2,cI,h2.1.1,h2.1.2,cI,aD _ _,aD _ _,aD _ _,((dS h1).pl (dS h2)).nz,trivial⟩ ha
theorem vI (p:NP) (hp:w2 p) (args:List Value) (w:World) (ha:cE w [.v (.fl (q2 p))] args):bC prog 10 (if bG p.1 p.2=true then mL (fX p) 0 else mL (0,0) 41) args w:=by
 cases h:bG p.1 p.2
 ·exact aF aZ (fun _ _=>gR _) (aS _) func10 (SY p) ⟨hp.1,hp.2,h,trivial⟩ ha
 ·exact aF aZ (fun _ _=>gR _) (aS _) func10 (SX p) ⟨hp.1,hp.2,h,eG,(dF.1 h).1.1,trivial⟩ ha
theorem vJ (p:NP) (n:Nat) (hp:w2 p) (args:List Value) (w:World) (ha:cE w [.v (.fl (q2 p)),.v (.fl (q1 n))] args):bC prog 12 (if bG p.1 p.2=true then mL (cL p n) 0 else mL (0,0) 41) args w:=by
 cases h:bG p.1 p.2
 ·exact aF aZ (fun _ _=>gR _) (aS _) func12 (TA p n) ⟨hp.1,hp.2,h,trivial⟩ ha
 ·exact aF aZ (fun _ _=>gR _) (aS _) func12 (SZ p n) ⟨hp.1,hp.2,h,dF.1 h,trivial⟩ ha
theorem yR (p:NP) (hp:w2 p) (args:List Value) (w:World) (ha:cE w [.v (.fl (q2 p))] args):bC prog 17 (.one (.im (.int .i64 (gC p)))) args w:=by
 cases h:bG p.1 p.2
 ·rw[LJ fun q=>by rw[wH q]at h; cases h];exact aF aZ (fun _ _=>gR _) (aS _) func17 (TL p) ⟨hp.1,hp.2,h,trivial⟩ ha
 ·have h1:=dF.1 h;rw[uA h1];have e:=oN h1 lJ;rw[FW]at e
  by_cases k:dC.grp.ns lJ (jp h1)=dC.grp.zero
  ·rw[if_pos k];exact aF aZ (fun _ _=>gR _) (aS _) func17 (TJ p) ⟨hp.1,hp.2,h,h1,by rw[e,k,qF],trivial⟩ ha
  ·rw[if_neg k];exact aF aZ (fun _ _=>gR _) (aS _) func17 (TK p) ⟨hp.1,hp.2,h,h1,fun q=>k (by rw[e]at q; exact QE.1 (q.trans (by rw[qF]))),trivial⟩ ha
def QP (a b:Bool) (c:Int):Tab:=((((((((((((((((T0.add 15 KB).add 22 (g0 (.one (.im (.bool true))))).add 18 (g0 (.one (.fl [.q bX,.q bY])))).add 19 (g0 (.one (.fl [.q bX,.q bY])))).add 20 (g0 (.one (.fl [.q lJ])))).add 21 (g0 (.one (.fl [.q lJ])))).add 7 (PO a)).add 8 (PO a)).add 9 (PK b)).add 10 (PK b)).add 11 (KC b)).add 12 (KC b)).add 13 (EK b)).add 14 (EK b)).add 16 (PN c)).add 17 (PN c))
theorem IY (a b:Bool) (c:Int):TabOk prog (QP a b c):=(((((((((((((((((sL _).ad func15 VG).ad func22 (fZ xN)).ad func18 (fZ nW)).ad func19 (fZ vP)).ad func20 (fZ kV)).ad func21 (fZ kO)).ad func7 (tW qL a)).ad func8 (tW vQ a)).ad func9 (tT pM b)).ad func10 (tT vI b)).ad func11 (oP kX b)).ad func12 (oP vJ b)).ad func13 (mD mX b)).ad func14 (mD mR b)).ad func16 (tV qH c)).ad func17 (tV yR c))
theorem Ce (p q:NP) (n:Nat) (c:Int):bM prog (qG prog) (fun _=>⟨fun _=>QP true true c,fun _=>true,assoc [(64,.bool true)]⟩) f3 120 [.v (.fl [.q p.1,.q p.2]),.v (.fl [.q q.1,.q q.2]),.v (.fl [.q n])]=some ([p.1<aC,p.2<aC,q.1<aC,q.2<aC,(bG p.1 p.2&&bG q.1 q.2)=true,p.1<aC,p.2<aC,q.1<aC,q.2<aC,(bG p.1 p.2&&bG q.1 q.2)=true,p.1<aC,p.2<aC,bG p.1 p.2=true,p.1<aC,p.2<aC,bG p.1 p.2=true,p.1<aC,p.2<aC,bG p.1 p.2=true,p.1<aC,p.2<aC,bG p.1 p.2=true,p.1<aC,p.2<aC,bG p.1 p.2=true,p.1<aC,p.2<aC,bG p.1 p.2=true,p.1<aC,p.2<aC,gC p=c,p.1<aC,p.2<aC,gC p=c,bJ .eql .i64 c c=some (.bool true),aB [At.q (cN p q).1,.q (cN p q).2]=aB [At.q (cN p q).1,.q (cN p q).2],aB [At.q (fX p).1,.q (fX p).2]=aB [At.q (fX p).1,.q (fX p).2],aB [At.q (cL p n).1,.q (cL p n).2]=aB [At.q (cL p n).1,.q (cL p n).2],aB [At.q bX,.q bY]=aB [At.q bX,.q bY],aB [At.q lJ]=aB [At.q lJ]],.one (.im (.bool true))):=by kernel_rfl
theorem Cf (p q:NP) (n:Nat) (c:Int):bM prog (qG prog) (fun _=>⟨fun _=>QP false true c,fun _=>true,assoc [(64,.bool true)]⟩) f3 120 [.v (.fl [.q p.1,.q p.2]),.v (.fl [.q q.1,.q q.2]),.v (.fl [.q n])]=some ([p.1<aC,p.2<aC,q.1<aC,q.2<aC,(bG p.1 p.2&&bG q.1 q.2)=false,p.1<aC,p.2<aC,q.1<aC,q.2<aC,(bG p.1 p.2&&bG q.1 q.2)=false,p.1<aC,p.2<aC,bG p.1 p.2=true,p.1<aC,p.2<aC,bG p.1 p.2=true,p.1<aC,p.2<aC,bG p.1 p.2=true,p.1<aC,p.2<aC,bG p.1 p.2=true,p.1<aC,p.2<aC,bG p.1 p.2=true,p.1<aC,p.2<aC,bG p.1 p.2=true,p.1<aC,p.2<aC,gC p=c,p.1<aC,p.2<aC,gC p=c,bJ .eql .i64 c c=some (.bool true),aB [At.q 0,.q 0]=aB [At.q 0,.q 0],aB [At.q (fX p).1,.q (fX p).2]=aB [At.q (fX p).1,.q (fX p).2],aB [At.q (cL p n).1,.q (cL p n).2]=aB [At.q (cL p n).1,.q (cL p n).2],aB [At.q bX,.q bY]=aB [At.q bX,.q bY],aB [At.q lJ]=aB [At.q lJ]],.one (.im (.bool true))):=by kernel_rfl
theorem Cg (p q:NP) (n:Nat) (c:Int):bM prog (qG prog) (fun _=>⟨fun _=>QP false false c,fun _=>true,assoc [(64,.bool true)]⟩) f3 120 [.v (.fl [.q p.1,.q p.2]),.v (.fl [.q q.1,.q q.2]),.v (.fl [.q n])]=some ([p.1<aC,p.2<aC,q.1<aC,q.2<aC,(bG p.1 p.2&&bG q.1 q.2)=false,p.1<aC,p.2<aC,q.1<aC,q.2<aC,(bG p.1 p.2&&bG q.1 q.2)=false,p.1<aC,p.2<aC,bG p.1 p.2=false,p.1<aC,p.2<aC,bG p.1 p.2=false,p.1<aC,p.2<aC,bG p.1 p.2=false,p.1<aC,p.2<aC,bG p.1 p.2=false,p.1<aC,p.2<aC,bG p.1 p.2=false,p.1<aC,p.2<aC,bG p.1 p.2=false,p.1<aC,p.2<aC,gC p=c,p.1<aC,p.2<aC,gC p=c,bJ .eql .i64 c c=some (.bool true),aB [At.q 0,.q 0]=aB [At.q 0,.q 0],aB [At.q 0,.q 0]=aB [At.q 0,.q 0],aB [At.q 0,.q 0]=aB [At.q 0,.q 0],aB [At.q bX,.q bY]=aB [At.q bX,.q bY],aB [At.q lJ]=aB [At.q lJ]],.one (.im (.bool true))):=by kernel_rfl
theorem JX (c:Int):bJ .eql .i64 c c=some (.bool true):=by
 show some (Value.bool (c==c))=_;rw[beq_self_eq_true]
theorem DE (p q:NP) (n:Nat) (hp:w2 p) (hq:w2 q) (args:List Value) (w:World) (ha:cE w [.v (.fl [.q p.1,.q p.2]),.v (.fl [.q q.1,.q q.2]),.v (.fl [.q n])] args):bC prog 3 (.one (.im (.bool true))) args w:=by
 cases hb1:bG p.1 p.2
 ·have ha1:(bG p.1 p.2&&bG q.1 q.2)=false:=by rw[hb1]; rfl
  exact aF aZ (fun _ _=>IY _ _ _) (aS _) func3 (Cg p q n (gC p)) ⟨hp.1,hp.2,hq.1,hq.2,ha1,hp.1,hp.2,hq.1,hq.2,ha1,hp.1,hp.2,hb1,hp.1,hp.2,hb1,hp.1,hp.2,hb1,hp.1,hp.2,hb1,hp.1,hp.2,hb1,hp.1,hp.2,hb1,hp.1,hp.2,rfl,hp.1,hp.2,rfl,JX _,rfl,rfl,rfl,rfl,rfl,trivial⟩ ha
 ·cases h2:bG q.1 q.2
  ·have ha1:(bG p.1 p.2&&bG q.1 q.2)=false:=by rw[hb1,h2]; rfl
   exact aF aZ (fun _ _=>IY _ _ _) (aS _) func3 (Cf p q n (gC p)) ⟨hp.1,hp.2,hq.1,hq.2,ha1,hp.1,hp.2,hq.1,hq.2,ha1,hp.1,hp.2,hb1,hp.1,hp.2,hb1,hp.1,hp.2,hb1,hp.1,hp.2,hb1,hp.1,hp.2,hb1,hp.1,hp.2,hb1,hp.1,hp.2,rfl,hp.1,hp.2,rfl,JX _,rfl,rfl,rfl,rfl,rfl,trivial⟩ ha
  ·have ha1:(bG p.1 p.2&&bG q.1 q.2)=true:=by rw[hb1,h2]; rfl
   exact aF aZ (fun _ _=>IY _ _ _) (aS _) func3 (Ce p q n (gC p)) ⟨hp.1,hp.2,hq.1,hq.2,ha1,hp.1,hp.2,hq.1,hq.2,ha1,hp.1,hp.2,hb1,hp.1,hp.2,hb1,hp.1,hp.2,hb1,hp.1,hp.2,hb1,hp.1,hp.2,hb1,hp.1,hp.2,hb1,hp.1,hp.2,rfl,hp.1,hp.2,rfl,JX _,rfl,rfl,rfl,rfl,rfl,trivial⟩ ha
theorem NR (p:NP) (hp:w2 p) (q:NP) (hq:w2 q) (n:Nat) (w:World):Calls prog 3 #[.agg (aB (q2 p)).toArray,.agg (aB (q2 q)).toArray,.agg (aB (q1 n)).toArray] w (fun e w'=>e=.returned (.bool true)∧Below w.heap.size w w') :=
 DE p q n hp hq [_,_,_] w ⟨rfl,rfl,rfl,trivial⟩
end Go.Proofs.Ytjeplinbleofnaa.Ex
