/- Ea07 -/
import Derived.Laws.MakeOwn
import Derived.Deep.DeepCutAuto
import Derived.Test.YtpbljiejmfahcaaGreatDoorEa06
import Derived.Test.YtpbljiejmfahcaaGreatDoorEa04
import Derived.Test.YtpbljiejmfahcaaGreatDoorEa05
import Derived.Test.YtpbljiejmfahcaaGreatDoorProg
set_option maxRecDepth 100000
set_option linter.unusedVariables false
set_option linter.unusedSimpArgs false
set_option linter.unnecessarySimpa false
noncomputable section
namespace Go.Proofs.YtpbljiejmfahcaaGreatDoor.Ex
open Go.Proofs.Tryz
open Go.RowKit
theorem Own.wr {w w':World} {b c:Nat} {l:List At} (h:Own w b l) (hW:WrC w w' c) (hne:b≠c):Own w' b l :=
 ⟨Nat.lt_of_lt_of_le h.lt hW.below.size,fun j v hj=>((hW.mem ⟨b,0+j,none⟩ h.lt hne).1).trans (h.row j v hj),fun j=>((hW.mem ⟨b,j,none⟩ h.lt hne).2).trans (h.free j)⟩
theorem Own.eq {w:World} {b:Nat} {l l':List At} (h:Own w b l) (e:aA l=aA l'):Own w b l':=⟨h.lt,by rw[←e]; exact h.row,h.free⟩
theorem Own.below {w w':World} {b c:Nat} {l:List At} (h:Own w b l) (hb:Below c w w') (hlt:b<c):Own w' b l :=
 ⟨Nat.lt_of_lt_of_le h.lt hb.size,fun j v hj=>(hb.cell (p:=⟨b,0+j,none⟩) hlt).trans (h.row j v hj),fun j=>(hb.frozen (p:=⟨b,j,none⟩) hlt).trans (h.free j)⟩
theorem oldOf.below {w w':World} {b c o:Nat} {l:List At} (h:oldOf w b o l) (hb:Below c w w') (hlt:b<c):oldOf w' b o l :=
 ⟨Nat.lt_of_lt_of_le h.1 hb.size,fun j v hj=>(hb.cell (p:=⟨b,o+j,none⟩) hlt).trans (h.2 j v hj)⟩
theorem Holds.ptS {nt base:Nat} {w0:World} {A:List Fact} {a:Act} {w:World} (h:Holds nt base w0 A a w) {s k b o:Nat} (h1:Fact.slot s (.pt k o)∈A) (h2:Fact.at k b∈A):a.tmps[s]?=some (Go.Proofs.YtpbljiejmfahcaaGreatDoor.Ex.ptV b o):=by
 obtain⟨β,g1,_⟩:=h.facts;have e1:=g1 _ h1;have e2:=g1 _ h2;simp only[Fact.ok]at e1 e2;rw[e1];simp[AV.den,e2,Go.Proofs.YtpbljiejmfahcaaGreatDoor.Ex.ptV]
theorem Holds.geq {nt base:Nat} {w0:World} {A:List Fact} {a:Act} {w:World} (h:Holds nt base w0 A a w) {k b:Nat} {l:List At} (h1:Fact.row k true l∈A) (h2:Fact.at k b∈A):base≤b:=by
 obtain⟨β,g1,_⟩:=h.facts;obtain⟨_,_,e3,_⟩:=g1 _ h1;have e7:=g1 _ h2;simp only[Fact.ok]at e7;rw[←e7.1];exact (e3 rfl).1
def rR (wd fl pt:Nat):List At:=[.c (iI wd),.c (iI fl),.c (iI pt)]
def CM (sb pb:Nat):Value:=.func (.func 146) #[] #[ptV sb 0,ptV pb 0]
noncomputable abbrev bgF:Func:=f139
def CE:Code:=(f139.body).getD .skip
theorem aCx:bgF.ntmps=32:=by kernel_rfl
def nCB (c:Code):Nat→Code
 | 0=>c
 | n+1=>nCB (cB c) n
def mM (i:Nat):Code:=cA (nCB CE i)
def Ui:Code:=nCB CE 11
def MV:Code:=kD (kD (cB (cA Ui)))
theorem Kv:CE=.seq (mM 0) (.seq (mM 1) (.seq (mM 2) (.seq (mM 3) (.seq (.region 4 (aD (mM 4)) false) (.seq (.region 5 (aD (mM 5)) false) (.seq (.region 6 (aD (mM 6)) false) (.seq (.region 7 (aD (mM 7)) false) (.seq (.region 8 (aD (mM 8)) false) (.seq (.region 9 (aD (mM 9)) false) (.seq (.region 10 (aD (mM 10)) false) (.seq (.seq (cA (cA Ui)) (.block 0 (.loop MV))) (.seq (.region 15 (aD (cA (cB Ui))) false) .ret)))))))))))):=by kernel_rfl
def nQ (b1 b2 sb pb:Nat):List Fact:=[.slot 1 (.im (ptV b1 0)),.slot 2 (.im (ptV b2 0)),.slot 3 (.im (ptV sb 0)),.slot 4 (.im (ptV pb 0)),.slot 5 (.im (CM sb pb))]
theorem aCw (wd fl pt:Nat):bE prog (qG prog) 32 (fun _=>tC T0 fun _=>none) 60 (mM 0) (fT 0 [.v (.fl (rR wd fl pt))]) [.slot 1 (.pt 1 0),.row 1 true (rR wd fl pt),.slot 2 (.pt 2 0),.row 2 true zC]=some ([],.nrm,[.slot 1 (.pt 1 0),.row 1 true (rR wd fl pt),.slot 2 (.pt 2 0),.row 2 true zC]):=by kernel_rfl
theorem aCv (b1 b2:Nat):bE prog (qG prog) 32 (fun _=>tC T0 fun _=>none) 60 (mM 1) [.slot 1 (.im (ptV b1 0)),.slot 2 (.im (ptV b2 0))] [.slot 1 (.im (ptV b1 0)),.slot 2 (.im (ptV b2 0)),.slot 3 (.pt 3 0),.row 3 true zC]=some ([],.nrm,[.slot 1 (.im (ptV b1 0)),.slot 2 (.im (ptV b2 0)),.slot 3 (.pt 3 0),.row 3 true zC]):=by kernel_rfl
theorem aCu (b1 b2 sb:Nat):bE prog (qG prog) 32 (fun _=>tC T0 fun _=>none) 60 (mM 2) [.slot 1 (.im (ptV b1 0)),.slot 2 (.im (ptV b2 0)),.slot 3 (.im (ptV sb 0))] [.slot 1 (.im (ptV b1 0)),.slot 2 (.im (ptV b2 0)),.slot 3 (.im (ptV sb 0)),.slot 4 (.pt 4 0),.row 4 true [.c (iI 0)]]=some ([],.nrm,[.slot 1 (.im (ptV b1 0)),.slot 2 (.im (ptV b2 0)),.slot 3 (.im (ptV sb 0)),.slot 4 (.pt 4 0),.row 4 true [.c (iI 0)]]):=by kernel_rfl
theorem aCt (b1 b2 sb pb:Nat):bE prog (qG prog) 32 (fun _=>tC T0 fun _=>none) 60 (mM 3) [.slot 1 (.im (ptV b1 0)),.slot 2 (.im (ptV b2 0)),.slot 3 (.im (ptV sb 0)),.slot 4 (.im (ptV pb 0))] (nQ b1 b2 sb pb)=some ([],.nrm,nQ b1 b2 sb pb):=by kernel_rfl
theorem aCD (b1 b2 sb pb:Nat):eH prog (qG prog) 32 (tC T0 fun _=>none) ((aD (mM 4)).extract 0 1) (nQ b1 b2 sb pb) (.slot 7 (.im (CM sb pb))::nQ b1 b2 sb pb)=some ([],.slot 7 (.im (CM sb pb))::nQ b1 b2 sb pb):=by kernel_rfl
theorem aCC (b1 b2 sb pb:Nat):eH prog (qG prog) 32 (tC T0 fun _=>none) ((aD (mM 5)).extract 0 1) (nQ b1 b2 sb pb) (.slot 9 (.im (CM sb pb))::nQ b1 b2 sb pb)=some ([],.slot 9 (.im (CM sb pb))::nQ b1 b2 sb pb):=by kernel_rfl
theorem aCB (b1 b2 sb pb:Nat):eH prog (qG prog) 32 (tC T0 fun _=>none) ((aD (mM 6)).extract 0 1) (nQ b1 b2 sb pb) (.slot 11 (.im (CM sb pb))::nQ b1 b2 sb pb)=some ([],.slot 11 (.im (CM sb pb))::nQ b1 b2 sb pb):=by kernel_rfl
theorem Uh (b1 b2 sb pb:Nat):eH prog (qG prog) 32 (tC T0 fun _=>none) ((aD (mM 10)).extract 0 1) (nQ b1 b2 sb pb) (.slot 25 (.im (CM sb pb))::nQ b1 b2 sb pb)=some ([],.slot 25 (.im (CM sb pb))::nQ b1 b2 sb pb):=by kernel_rfl
theorem aCA (w:World) (b1 b2 sb pb x:Nat):eH prog { qG prog with x:=xO w (fun _=>none) (fun _=>none) (assoc [(15,iI x)]) } 32 (tC T0 fun _=>none) ((aD (mM 7)).extract 0 3) (nQ b1 b2 sb pb) (.slot 13 (.im (CM sb pb)) :: .slot 15 (.im (iI x))::nQ b1 b2 sb pb)=some ([oldOf w b1 0 [.c (iI x)]],.slot 13 (.im (CM sb pb)) :: .slot 15 (.im (iI x))::nQ b1 b2 sb pb):=by kernel_rfl
theorem aCz (w:World) (b1 b2 sb pb x:Nat):eH prog { qG prog with x:=xO w (fun _=>none) (fun _=>none) (assoc [(19,iI x)]) } 32 (tC T0 fun _=>none) ((aD (mM 8)).extract 0 3) (nQ b1 b2 sb pb) (.slot 17 (.im (CM sb pb)) :: .slot 19 (.im (iI x))::nQ b1 b2 sb pb)=some ([oldOf w b1 1 [.c (iI x)]],.slot 17 (.im (CM sb pb)) :: .slot 19 (.im (iI x))::nQ b1 b2 sb pb):=by kernel_rfl
theorem aCy (w:World) (b1 b2 sb pb x:Nat):eH prog { qG prog with x:=xO w (fun _=>none) (fun _=>none) (assoc [(23,iI x)]) } 32 (tC T0 fun _=>none) ((aD (mM 9)).extract 0 3) (nQ b1 b2 sb pb) (.slot 21 (.im (CM sb pb)) :: .slot 23 (.im (iI x))::nQ b1 b2 sb pb)=some ([oldOf w b1 2 [.c (iI x)]],.slot 21 (.im (CM sb pb)) :: .slot 23 (.im (iI x))::nQ b1 b2 sb pb):=by kernel_rfl
def Dq (N b1 b2 sb:Nat) (s:St):List Fact:=[.slot 3 (.pt 3 0),.row 3 true s.row,.at 3 sb,.at 32 N,.slot 1 (.im (ptV b1 0)),.slot 2 (.im (ptV b2 0))]
def II (N b1 b2 sb i:Nat) (s:St):List Fact:=.slot 27 (.im (iI i))::Dq N b1 b2 sb s
theorem aCG (N b1 b2 sb:Nat) (s:St):bE prog (qW (fun _=>none) kI) 32 (fun _=>tC T0 fun _=>none) 60 (cA (cA Ui)) (Dq N b1 b2 sb s) (II N b1 b2 sb 0 s)=some ([],.nrm,II N b1 b2 sb 0 s):=by kernel_rfl
theorem aCF (N b1 b2 sb i:Nat) (s:St):bE prog (qW (fun _=>none) (Ux s)) 32 (fun _=>tC T0 (assoc [(28,.bool true),(30,iI (i+1))])) 60 MV (II N b1 b2 sb i s) (II N b1 b2 sb (i+1) s.grow)=some ([aN .lss .i64 (Int.ofNat i) 10=some (.bool true),s.row=s.row,0=0,aN .add .i64 (Int.ofNat i) 1=some (iI (i+1))],.nrm,II N b1 b2 sb (i+1) s.grow):=by kernel_rfl
theorem aCE (N b1 b2 sb i:Nat) (s:St):bE prog (qW (fun _=>none) kI) 32 (fun _=>tC T0 (assoc [(28,.bool false)])) 60 MV (II N b1 b2 sb i s) (II N b1 b2 sb i s)=some ([aN .lss .i64 (Int.ofNat i) 10=some (.bool false)],.ex 0,II N b1 b2 sb i s):=by kernel_rfl
theorem aFE (w:World) (b1 b2 sb:Nat) (s:St):eH prog { qG prog with x:=xO w (fun _=>none) (assoc [(31,s.row)]) (fun _=>none) } 32 (tC T0 fun _=>none) ((aD (cA (cB Ui))).extract 0 1) [.slot 1 (.im (ptV b1 0)),.slot 2 (.im (ptV b2 0)),.slot 3 (.im (ptV sb 0))] [.slot 31 (.fl s.row),.slot 2 (.im (ptV b2 0))]=some ([oldOf w sb 0 s.row,dD s.row=4],[.slot 31 (.fl s.row),.slot 2 (.im (ptV b2 0))]):=by kernel_rfl
structure BgS (r:List At) (B b1 b2 sb pb:Nat) (s:St) (p:Nat) (w0:World) (a:Act) (w:World):Prop where
 defers:a.defers=[]
 size:a.tmps.size=32
 t1:a.tmps[1]?=some (ptV b1 0)
 t2:a.tmps[2]?=some (ptV b2 0)
 t3:a.tmps[3]?=some (ptV sb 0)
 t4:a.tmps[4]?=some (ptV pb 0)
 t5:a.tmps[5]?=some (CM sb pb)
 own3:Own w sb s.row
 own4:Own w pb [.c (iI p)]
 box:oldOf w b1 0 r
 res:Own w b2 zC
 below:Below B w0 w
 l1:b1<sb
 l2:b2<sb
 l4:sb<pb
 lB:B≤b2
section
variable {r:List At} {B b1 b2 sb pb p:Nat} {s:St} {w0 w:World} {a:Act}
theorem BgS.holds (h:BgS r B b1 b2 sb pb s p w0 a w):Holds 32 w.heap.size w (nQ b1 b2 sb pb) a w :=
 bB (ts:=[(1,ptV b1 0),(2,ptV b2 0),(3,ptV sb 0),(4,ptV pb 0),(5,CM sb pb)]) h.defers h.size fun x hx=>by
  simp only[List.mem_cons,List.not_mem_nil,or_false]at hx
  rcases hx with rfl|rfl|rfl|rfl|rfl
  ·exact h.t1
  ·exact h.t2
  ·exact h.t3
  ·exact h.t4
  ·exact h.t5
theorem BgS.up (h:BgS r B b1 b2 sb pb s p w0 a w) {A:List Fact} {a':Act} {w':World} (hA:Holds 32 w.heap.size w A a' w') (hs:∀φ∈nQ b1 b2 sb pb,φ∈A):BgS r B b1 b2 sb pb s p w0 a' w' :=
 have hB:B≤w.heap.size:=Nat.le_of_lt (Nat.lt_of_le_of_lt h.lB h.res.lt)
 ⟨hA.defers,hA.size,hA.slot (hs _ (by simp[nQ])),hA.slot (hs _ (by simp[nQ])),hA.slot (hs _ (by simp[nQ])),hA.slot (hs _ (by simp[nQ])),hA.slot (hs _ (by simp[nQ])),h.own3.on hA.below,h.own4.on hA.below,h.box.on hA.below,h.res.on hA.below,h.below.trans (hA.below.mono hB),h.l1,h.l2,h.l4,h.lB⟩
theorem BgS.call (h:BgS r B b1 b2 sb pb s p w0 a w) (hs:s.ok) {n c:Nat} (hn:n<4611686018427387904) (hc:c≤62) (hp:p+c≤128) {o:Oper} {d1 d2:Nat} {xs:Array Operand} {ts:Array TypeId} (ho:o.op=.call ⟨.value (.tmp d1),xs,ts⟩) (hx:a.tmps[d1]?=some (CM sb pb)) (hv:xs.map a.eval = #[iI n,iI c]) (hd:o.dst=some d2) (hd2:5<d2) {K:Act→World→Prop} {Q:Exit→Act→World→Prop}
  (hK:∀a' w',BgS r B b1 b2 sb pb (sR n c c 0 p s) (p+c) w0 a' w'→K a' w'):o.wp prog a w K Q:=by
 refine CQ (cap:=#[ptV sb 0,ptV pb 0]) (vs:=#[iI n,iI c]) ho (by rw[cU hx]; rfl) hv (fun args=>bR func146 (by kernel_rfl) (by kernel_rfl) args _) (ZH hs hn hc hp h.own3 h.own4 h.l4) ?_
 rintro e w' ⟨rfl,hb,h3,h4,CN⟩
 refine⟨_,rfl,?_⟩;rw[hd];have hp:∀(q:Nat) v,q≤5→a.tmps[q]?=some v→(a.put (some d2) (.tuple #[])).tmps[q]?=some v:=fun q v hq h=>aS h (by omega)
 exact hK _ _ ⟨h.defers,by rw[aG]; exact h.size,hp _ _ (by omega) h.t1,hp _ _ (by omega) h.t2,hp _ _ (by omega) h.t3,hp _ _ (by omega) h.t4,hp _ _ (by omega) h.t5,h3,h4,h.box.below hb h.l1,h.res.below hb h.l2,h.below.trans (hb.mono (Nat.le_of_lt (Nat.lt_of_le_of_lt h.lB h.l2))),h.l1,h.l2,h.l4,h.lB⟩
end
theorem Oq:(prog.info? 182).map (·.size)=some 4:=by kernel_rfl
theorem UU:aA zC=aA St0.row:=by kernel_rfl
theorem Cl {wd fl pt:Nat} (h1:wd<4611686018427387904) (h2:fl<4611686018427387904) (h3:pt<4611686018427387904) (w0:World):Calls prog 139 [.agg (aA (rR wd fl pt)).toArray].toArray w0 fun e w'=>e=.returned (.agg (aA (IW wd fl pt).row).toArray)∧Below w0.heap.size w0 w':=by
 have hT:∀base w,∀n d:Nat,TabOkW prog T0 base w:=fun _ _ _ _=>(bT _).w _ _
 have hT1:∀base w,∀d:Nat,TabOkW prog T0 base w:=fun _ _ _=>(bT _).w _ _
 have hG:∀base w,bO prog (qG prog) base w:=fun _ _=>(aW _).w _ _
 have hnt:f139.ntmps=32:=aCx;refine cQ func139 (cs:=[.v (.fl (rR wd fl pt))]) (args:=[.agg (aA (rR wd fl pt)).toArray]) (c:=CE) rfl ⟨rfl,trivial⟩ (Nat.le_of_ble_eq_true (by kernel_rfl)) fun a w hA => ?_
 rw[hnt]at hA;rw[Kv];refine wp_seq (aB aI (hT _ _) (hG _ _) (aCw wd fl pt) trivial hA fun a w hA => ?_);obtain⟨b1,hA⟩:=hA.at (k:=1) (l:=rR wd fl pt) (by simp);obtain⟨b2,hA⟩:=hA.at (k:=2) (l:=zC) (by simp);have m1:oldOf w b1 0 (rR wd fl pt):=hA.old (k:=1) (by simp) (by simp);have m2:Own w b2 zC:=hA.own (k:=2) (by simp) (by simp);have hB2:w0.heap.size≤b2:=hA.geq (k:=2) (l:=zC) (by simp) (by simp);have hbl:=hA.below;have hs0:w0.heap.size≤w.heap.size:=hbl.size;have hS:=bB (nt:=32) (w:=w) (a:=a) (ts:=[(1,ptV b1 0),(2,ptV b2 0)]) hA.defers hA.size (fun x hx=>by
  simp only[List.mem_cons,List.not_mem_nil,or_false]at hx
  rcases hx with rfl|rfl
  ·exact hA.ptS (s:=1) (k:=1) (o:=0) (by simp) (by simp)
  ·exact hA.ptS (s:=2) (k:=2) (o:=0) (by simp) (by simp))
 clear hA;refine wp_seq (aB aI (hT _ _) (hG _ _) (aCv b1 b2) trivial hS fun a w' hA => ?_);clear hS;obtain⟨sb,hA⟩:=hA.at (k:=3) (l:=zC) (by simp);have hsb:w.heap.size≤sb:=hA.geq (k:=3) (l:=zC) (by simp) (by simp);have l1:b1<sb:=Nat.lt_of_lt_of_le m1.1 hsb;have l2:b2<sb:=Nat.lt_of_lt_of_le m2.lt hsb;have m1:=m1.on hA.below;have m2:=m2.on hA.below;have m3:Own w' sb zC:=hA.own (k:=3) (by simp) (by simp);have hbl:=hbl.trans (hA.below.mono hs0);have hs0:w0.heap.size≤w'.heap.size:=hbl.size;have hS:=bB (nt:=32) (w:=w') (a:=a) (ts:=[(1,ptV b1 0),(2,ptV b2 0),(3,ptV sb 0)]) hA.defers hA.size (fun x hx=>by
  simp only[List.mem_cons,List.not_mem_nil,or_false]at hx
  rcases hx with rfl|rfl|rfl
  ·exact hA.slot (by simp)
  ·exact hA.slot (by simp)
  ·exact hA.ptS (s:=3) (k:=3) (o:=0) (by simp) (by simp))
 clear hA;refine wp_seq (aB aI (hT _ _) (hG _ _) (aCu b1 b2 sb) trivial hS fun a w2 hA => ?_);clear hS;obtain⟨pb,hA⟩:=hA.at (k:=4) (l:=[.c (iI 0)]) (by simp);have hpb:w'.heap.size≤pb:=hA.geq (k:=4) (l:=[.c (iI 0)]) (by simp) (by simp);have l4:sb<pb:=Nat.lt_of_lt_of_le m3.lt hpb;have m1:=m1.on hA.below;have m2:=m2.on hA.below;have m3:=m3.on hA.below;have m4:Own w2 pb [.c (iI 0)]:=hA.own (k:=4) (by simp) (by simp);have hbl:=hbl.trans (hA.below.mono hs0);have hs0:w0.heap.size≤w2.heap.size:=hbl.size;have hS:=bB (nt:=32) (w:=w2) (a:=a) (ts:=[(1,ptV b1 0),(2,ptV b2 0),(3,ptV sb 0),(4,ptV pb 0)]) hA.defers hA.size (fun x hx=>by
  simp only[List.mem_cons,List.not_mem_nil,or_false]at hx
  rcases hx with rfl|rfl|rfl|rfl
  ·exact hA.slot (by simp)
  ·exact hA.slot (by simp)
  ·exact hA.slot (by simp)
  ·exact hA.ptS (s:=4) (k:=4) (o:=0) (by simp) (by simp))
 clear hA;refine wp_seq (aB aI (hT _ _) (hG _ _) (aCt b1 b2 sb pb) trivial hS fun a w3 hA => ?_);have hI:BgS (rR wd fl pt) w0.heap.size b1 b2 sb pb St0 0 w0 a w3:=⟨hA.defers,hA.size,hA.slot (by simp[nQ]),hA.slot (by simp[nQ]),hA.slot (by simp[nQ]),hA.slot (by simp[nQ]),hA.slot (by simp[nQ]),(m3.on hA.below).eq UU,m4.on hA.below,m1.on hA.below,m2.on hA.below,hbl.trans (hA.below.mono hs0),l1,l2,l4,hB2⟩;clear hA hS m1 m2 m3 m4 hbl hs0 l1 l2 l4 hB2 hsb hpb;refine wp_seq (bQ (l:=List.range' 0 ((aD (mM 4)).extract 0 1).size++(1::[])) (by kernel_rfl) ?_);refine aU (c:=tC T0 _) (hT1 _ _) (hG _ _) (aCD b1 b2 sb pb) trivial (by kernel_rfl) hI.holds fun a w3' hA => ?_
 obtain⟨o,ho,⟨ts,hop⟩,hd,hg⟩:∃x,(aD (mM 4))[1]?=some x∧(∃ts,x.op=.call ⟨.value (.tmp 7),#[.const (iI 1),.const (iI 2)],ts⟩)∧x.dst=some 8∧x.guard=none:=⟨_,rfl,⟨_,rfl⟩,rfl,rfl⟩
 refine bM ho hg ((hI.up hA fun φ h=>List.mem_cons_of_mem _ h).call (n:=1) (c:=2) NL (by decide) (by decide) (by decide) hop (hA.slot (by simp)) (by simp[Act.eval]) hd (by decide) fun a w hI => ?_);clear hA hop ho hd hg;have k1:=fC 1 2 2 0 0 NL;show (Code.seq _ _).wp _ _ _ _;refine wp_seq (bQ (l:=List.range' 0 ((aD (mM 5)).extract 0 1).size++(1::[])) (by kernel_rfl) ?_);refine aU (c:=tC T0 _) (hT1 _ _) (hG _ _) (aCC b1 b2 sb pb) trivial (by kernel_rfl) hI.holds fun a w3' hA => ?_
 obtain⟨o,ho,⟨ts,hop⟩,hd,hg⟩:∃x,(aD (mM 5))[1]?=some x∧(∃ts,x.op=.call ⟨.value (.tmp 9),#[.const (iI 0),.const (iI 4)],ts⟩)∧x.dst=some 10∧x.guard=none:=⟨_,rfl,⟨_,rfl⟩,rfl,rfl⟩
 refine bM ho hg ((hI.up hA fun φ h=>List.mem_cons_of_mem _ h).call (n:=0) (c:=4) k1 (by decide) (by decide) (by decide) hop (hA.slot (by simp)) (by simp[Act.eval]) hd (by decide) fun a w hI => ?_);clear hA hop ho hd hg;have k2:=fC 0 4 4 0 2 k1;show (Code.seq _ _).wp _ _ _ _;refine wp_seq (bQ (l:=List.range' 0 ((aD (mM 6)).extract 0 1).size++(1::[])) (by kernel_rfl) ?_);refine aU (c:=tC T0 _) (hT1 _ _) (hG _ _) (aCB b1 b2 sb pb) trivial (by kernel_rfl) hI.holds fun a w3' hA => ?_
 obtain⟨o,ho,⟨ts,hop⟩,hd,hg⟩:∃x,(aD (mM 6))[1]?=some x∧(∃ts,x.op=.call ⟨.value (.tmp 11),#[.const (iI 254),.const (iI 12)],ts⟩)∧x.dst=some 12∧x.guard=none:=⟨_,rfl,⟨_,rfl⟩,rfl,rfl⟩
 refine bM ho hg ((hI.up hA fun φ h=>List.mem_cons_of_mem _ h).call (n:=254) (c:=12) k2 (by decide) (by decide) (by decide) hop (hA.slot (by simp)) (by simp[Act.eval]) hd (by decide) fun a w hI => ?_);clear hA hop ho hd hg;have k3:=fC 254 12 12 0 6 k2;show (Code.seq _ _).wp _ _ _ _;refine wp_seq (bQ (l:=List.range' 0 ((aD (mM 7)).extract 0 3).size++(3::[])) (by kernel_rfl) ?_);refine aU (c:=tC T0 _) (hT1 _ _) (eK w _ _ _) (aCA w b1 b2 sb pb wd) ⟨⟨hI.box.1,dN (i:=0) (n:=1) hI.box.2 rfl⟩,trivial⟩ (by kernel_rfl) hI.holds fun a w3' hA => ?_
 obtain⟨o,ho,⟨ts,hop⟩,hd,hg⟩:∃x,(aD (mM 7))[3]?=some x∧(∃ts,x.op=.call ⟨.value (.tmp 13),#[.tmp 15,.const (iI 12)],ts⟩)∧x.dst=some 16∧x.guard=none:=⟨_,rfl,⟨_,rfl⟩,rfl,rfl⟩
 refine bM ho hg ((hI.up hA fun φ h=>List.mem_cons_of_mem _ (List.mem_cons_of_mem _ h)).call (n:=wd) (c:=12) k3 h1 (by decide) (by decide) hop (hA.slot (by simp)) (by have:=cU (hA.slot (s:=15) (v:=iI wd) (by simp)); simp[this,show a.eval (.const (iI 12))=iI 12 from rfl]) hd (by decide) fun a w hI => ?_);clear hA hop ho hd hg;have k4:=fC wd 12 12 0 18 k3;show (Code.seq _ _).wp _ _ _ _;refine wp_seq (bQ (l:=List.range' 0 ((aD (mM 8)).extract 0 3).size++(3::[])) (by kernel_rfl) ?_);refine aU (c:=tC T0 _) (hT1 _ _) (eK w _ _ _) (aCz w b1 b2 sb pb fl) ⟨⟨hI.box.1,dN (i:=1) (n:=1) hI.box.2 rfl⟩,trivial⟩ (by kernel_rfl) hI.holds fun a w3' hA => ?_
 obtain⟨o,ho,⟨ts,hop⟩,hd,hg⟩:∃x,(aD (mM 8))[3]?=some x∧(∃ts,x.op=.call ⟨.value (.tmp 17),#[.tmp 19,.const (iI 10)],ts⟩)∧x.dst=some 20∧x.guard=none:=⟨_,rfl,⟨_,rfl⟩,rfl,rfl⟩
 refine bM ho hg ((hI.up hA fun φ h=>List.mem_cons_of_mem _ (List.mem_cons_of_mem _ h)).call (n:=fl) (c:=10) k4 h2 (by decide) (by decide) hop (hA.slot (by simp)) (by have:=cU (hA.slot (s:=19) (v:=iI fl) (by simp)); simp[this,show a.eval (.const (iI 10))=iI 10 from rfl]) hd (by decide) fun a w hI => ?_);clear hA hop ho hd hg;have k5:=fC fl 10 10 0 30 k4;show (Code.seq _ _).wp _ _ _ _;refine wp_seq (bQ (l:=List.range' 0 ((aD (mM 9)).extract 0 3).size++(3::[])) (by kernel_rfl) ?_);refine aU (c:=tC T0 _) (hT1 _ _) (eK w _ _ _) (aCy w b1 b2 sb pb pt) ⟨⟨hI.box.1,dN (i:=2) (n:=1) hI.box.2 rfl⟩,trivial⟩ (by kernel_rfl) hI.holds fun a w3' hA => ?_
 obtain⟨o,ho,⟨ts,hop⟩,hd,hg⟩:∃x,(aD (mM 9))[3]?=some x∧(∃ts,x.op=.call ⟨.value (.tmp 21),#[.tmp 23,.const (iI 10)],ts⟩)∧x.dst=some 24∧x.guard=none:=⟨_,rfl,⟨_,rfl⟩,rfl,rfl⟩
 refine bM ho hg ((hI.up hA fun φ h=>List.mem_cons_of_mem _ (List.mem_cons_of_mem _ h)).call (n:=pt) (c:=10) k5 h3 (by decide) (by decide) hop (hA.slot (by simp)) (by have:=cU (hA.slot (s:=23) (v:=iI pt) (by simp)); simp[this,show a.eval (.const (iI 10))=iI 10 from rfl]) hd (by decide) fun a w hI => ?_);clear hA hop ho hd hg;have k6:=fC pt 10 10 0 40 k5;show (Code.seq _ _).wp _ _ _ _;refine wp_seq (bQ (l:=List.range' 0 ((aD (mM 10)).extract 0 1).size++(1::[])) (by kernel_rfl) ?_);refine aU (c:=tC T0 _) (hT1 _ _) (hG _ _) (Uh b1 b2 sb pb) trivial (by kernel_rfl) hI.holds fun a w3' hA => ?_
 obtain⟨o,ho,⟨ts,hop⟩,hd,hg⟩:∃x,(aD (mM 10))[1]?=some x∧(∃ts,x.op=.call ⟨.value (.tmp 25),#[.const (iI 1073741823),.const (iI 30)],ts⟩)∧x.dst=some 26∧x.guard=none:=⟨_,rfl,⟨_,rfl⟩,rfl,rfl⟩
 refine bM ho hg ((hI.up hA fun φ h=>List.mem_cons_of_mem _ h).call (n:=1073741823) (c:=30) k6 (by decide) (by decide) (by decide) hop (hA.slot (by simp)) (by simp[Act.eval]) hd (by decide) fun a w hI => ?_);clear hA hop ho hd hg k1 k2 k3 k4 k5 k6;have hok:=Cm wd fl pt;change BgS (rR wd fl pt) w0.heap.size b1 b2 sb pb (bgL wd fl pt) _ w0 a w at hI;unfold IW;generalize bgL wd fl pt=s at *;show (Code.seq _ _).wp _ _ _ _;have hO:Holds 32 sb w (Dq w.heap.size b1 b2 sb s) a w:=hI.own3.holds (k:=3) (ts:=[(1,ptV b1 0),(2,ptV b2 0)]) hI.defers hI.size rfl hI.t3 (fun x hx=>by
  simp only[List.mem_cons,List.not_mem_nil,or_false]at hx
  rcases hx with rfl|rfl
  ·exact hI.t1
  ·exact hI.t2)
 have hq:∀gen,bO prog (qW gen kI) sb w:=fun gen=>mQ (nU _) _ _
 refine wp_seq (wp_seq (aB aI (hT _ _) (hq _) (aCG w.heap.size b1 b2 sb s) trivial hO fun a w1 hA => ?_));refine wp_block ?_;refine kE aI (fun i=>II w.heap.size b1 b2 sb i (Dm i s)) 10 (fun i hi=>⟨_,_,_,_,mQ (QG (LJ i hok)) _ _,hT _ _,aCF w.heap.size b1 b2 sb i (Dm i s),fB (n:=10) hi,rfl,rfl,gM (k:=1) (by omega),trivial⟩) (.ex 0) (by simp) (II w.heap.size b1 b2 sb 10 (Dm 10 s)) ⟨_,_,_,_,hq _,hT _ _,aCE w.heap.size b1 b2 sb 10 (Dm 10 s),dS (i:=10) (n:=10) (Nat.le_refl _),trivial⟩ hA fun a w1 hA => ?_
 simp only[EA.out,Exit.then,Exit.inBlock,if_true];have hW:=hA.wrcK (k:=3) (l:=(Dm 10 s).row) (by simp[II,Dq]) (by simp[II,Dq]) (by simp[II,Dq]);have hO3:Own w1 sb (Dm 10 s).row:=hW.1.own hI.own3.lt hW.2;have hO2:Own w1 b2 zC:=hI.res.wr hW.1 (Nat.ne_of_lt hI.l2);have hlB:w0.heap.size≤sb:=Nat.le_of_lt (Nat.lt_of_le_of_lt hI.lB hI.l2);have hbl:Below w0.heap.size w0 w1:=hI.below.trans (hW.1.below.mono hlB);have hS:=bB (nt:=32) (w:=w1) (a:=a) (ts:=[(1,ptV b1 0),(2,ptV b2 0),(3,ptV sb 0)]) hA.defers hA.size (fun x hx=>by
  simp only[List.mem_cons,List.not_mem_nil,or_false]at hx
  rcases hx with rfl|rfl|rfl
  ·exact hA.slot (by simp[II,Dq])
  ·exact hA.slot (by simp[II,Dq])
  ·exact hA.ptS (s:=3) (k:=3) (o:=0) (by simp[II,Dq]) (by simp[II,Dq]))
 clear hA hO hW;have hl2:=hI.lB;clear hI;generalize Dm 10 s=t at *;refine wp_seq (bQ (l:=List.range' 0 ((aD (cA (cB Ui))).extract 0 1).size++(1::[])) (by kernel_rfl) ?_);refine aU (c:=tC T0 _) (hT1 _ _) (eK w1 _ _ _) (aFE w1 b1 b2 sb t) ⟨hO3.old rfl,rfl,trivial⟩ (by kernel_rfl) hS fun a w2 hA => ?_
 obtain⟨o,ho,hop,hd,hg⟩:∃x,(aD (cA (cB Ui)))[1]?=some x∧x.op=.store 182 (.tmp 2) (.tmp 31)∧x.dst=none∧x.guard=none:=⟨_,rfl,rfl,rfl,rfl⟩
 have hO2:=(hO2.on hA.below).eq UU;have hp:put St0.row 0 t.row=some t.row:=rfl;obtain⟨hO5,hW5⟩:=hO2.set hp;refine bM ho hg (eT (v:=.agg (aA t.row).toArray) (vs:=aA t.row) hop hd (cU (hA.slot (s:=2) (by simp))) (cU (hA.slotF (s:=31) (by simp))) rfl rfl Oq (hO2.there (o:=0) (n:=4) (Nat.le_of_ble_eq_true rfl)) ?_);have hH:=hO5.holds (k:=2) (nt:=32) (a:=a) (ts:=[]) hA.defers hA.size rfl (hA.slot (by simp)) (fun x hx=>by cases hx);refine wp_ret (cT (l:=[.fl t.row]) (r:=.one (.fl t.row)) (by kernel_rfl) (by kernel_rfl) hH ⟨rfl,?_⟩);exact hbl.trans ((hA.below.mono hbl.size).trans (hW5.below.mono hl2))
def Sp {α:Type} (n:Nat) (k:Nat→α):α:=Nat.rec (motive:=fun _=>α) (k 0) (fun m _=>k (Nat.succ m)) n
theorem LP {α:Type} (n:Nat) (k:Nat→α):Sp n k=k n:=by cases n<;>rfl
def Io:Nat→Nat→Nat→Nat→Nat→Option St
 | 0,lo,hi,fr,gv=>bif Nat.beq gv 0 then none else some ⟨lo,hi,fr,gv⟩
 | n+1,lo,hi,fr,gv=>bif Nat.beq gv 0 then Sp (sW lo hi) fun f=>Sp (oN lo hi 16) fun l=>Sp (f &&& 21845) fun g=>Io n l f f g else some ⟨lo,hi,fr,gv⟩
theorem PG:∀(n:Nat) (lo hi fr gv:Nat),Io n lo hi fr gv=ZX n ⟨lo,hi,fr,gv⟩
 | 0,lo,hi,fr,gv=>rfl
 | n+1,lo,hi,fr,gv=>by
  unfold Io ZX;simp only[LP,PG n];rfl
def Ug (fr gv:Nat):Nat:=fr/(2*(gv &&& (18446744073709551616-gv))) &&& 1
theorem Ku {s:St} (h:s.ok) (hn:s.gv≠0):Ug s.fr s.gv=s.bit:=by
 unfold Ug St.bit;have e:=(Lib.lowest_bit 64 s.gv hn h.gv).1;rw[show (2:Nat)^64=18446744073709551616 by decide]at e;rw[e,Nat.pow_succ,Nat.mul_comm 2]
def IX:Nat→Nat→Nat→Nat→Nat→Nat→Option (Nat×St)
 | 0,lo,hi,fr,gv,a=>some (a,⟨lo,hi,fr,gv⟩)
 | n+1,lo,hi,fr,gv,a=>match Io 40 lo hi fr gv with
  | some ⟨l,h,f,g⟩=>Sp (g &&& (g-1)) fun g'=>Sp (Lb a (Ug f g)) fun a'=>IX n l h f g' a'
  | none=>none
theorem pW:∀(n:Nat) (lo hi fr gv a:Nat),(⟨lo,hi,fr,gv⟩:St).ok→IX n lo hi fr gv a=xC n ⟨lo,hi,fr,gv⟩ a
 | 0,lo,hi,fr,gv,a,_=>rfl
 | n+1,lo,hi,fr,gv,a,h=>by
  unfold IX xC;rw[PG];cases hi':ZX 40 ⟨lo,hi,fr,gv⟩with
  | none=>rfl
  | some t =>
   have ht:=LF h hi';obtain⟨_,_,hne,_⟩:=rE 40 _ t hi';obtain⟨l,h',f,g⟩:=t;simp only[LP];rw[Ku ht hne];exact pW n _ _ _ _ _ ht.next
def Cj (s:St):Option (Nat×St):=match IX 62 s.lo s.hi s.fr s.gv 0 with
 | some (d,⟨l1,h1,f1,g1⟩)=>(match IX 64 l1 h1 f1 g1 0 with
  | some (c,⟨l2,h2,f2,g2⟩)=>(match IX 64 l2 h2 f2 g2 0 with
   | some (b,⟨l3,h3,f3,g3⟩)=>(match IX 64 l3 h3 f3 g3 0 with
    | some (a,s4)=>Sp (aC a b c d) fun x=>some (x,s4)
    | none=>none)
   | none=>none)
  | none=>none)
 | none=>none
theorem Ci {s:St} (h:s.ok):Cj s=ID s:=by
 unfold Cj ID;rw[pW _ _ _ _ _ _ h];cases h1:xC 62 ⟨s.lo,s.hi,s.fr,s.gv⟩ 0 with
 | none=>rfl
 | some x =>
  obtain⟨d,s1⟩:=x;have k1:=(fM _ h (by decide) h1).1;simp only;rw[pW _ _ _ _ _ _ k1];cases h2:xC 64 ⟨s1.lo,s1.hi,s1.fr,s1.gv⟩ 0 with
  | none=>rfl
  | some x =>
   obtain⟨c,s2⟩:=x;have k2:=(fM _ k1 (by decide) h2).1;simp only;rw[pW _ _ _ _ _ _ k2];cases h3:xC 64 ⟨s2.lo,s2.hi,s2.fr,s2.gv⟩ 0 with
   | none=>rfl
   | some x =>
    obtain⟨b,s3⟩:=x;have k3:=(fM _ k2 (by decide) h3).1;simp only;rw[pW _ _ _ _ _ _ k3];cases h4:xC 64 ⟨s3.lo,s3.hi,s3.fr,s3.gv⟩ 0 with
    | none=>rfl
    | some x=>simp only[LP]
def Kf:Nat→St→Option (Nat×St)
 | 0,_=>none
 | n+1,s=>match Cj s with
  | some (x,t)=>bif Nat.blt x RM then some (x,t)else Kf n t
  | none=>none
theorem CD {s t:St} {x:Nat} (hs:s.ok) (h:ID s=some (x,t)):t.ok:=by
 obtain⟨a,b,c,d,s1,s2,s3,h1,h2,h3,h4,_⟩:=sZ h;exact (fM _ (fM _ (fM _ (fM _ hs (by decide) h1).1 (by decide) h2).1 (by decide) h3).1 (by decide) h4).1
theorem PS:∀(n:Nat) {s:St},s.ok→Kf n s=xV n s
 | 0,s,_=>rfl
 | n+1,s,h=>by
  unfold Kf xV;rw[Ci h];cases hc:ID s with
  | none=>rfl
  | some x =>
   obtain⟨x,t⟩:=x;simp only;rw[PS n (CD h hc)]
def wR:Nat→St→Option (List Nat)
 | 0,_=>some []
 | n+1,s=>match Kf 100 s with
  | some (x,t)=>(match wR n t with|some l=>some (x::l)|none=>none)
  | none=>none
theorem BU {n:Nat} {s t:St} {x:Nat} (hs:s.ok) (h:xV n s=some (x,t)):t.ok∧x<RM:=by
 induction n generalizing s with
 | zero=>cases h
 | succ n ih =>
  unfold xV at h;cases hc:ID s with
  | none=>rw[hc]at h; cases h
  | some y =>
   obtain⟨y,u⟩:=y;rw[hc]at h;simp only at h;cases hb:Nat.blt y RM<;>rw[hb]at h
   ·exact ih (CD hs hc) h
   ·cases h;exact⟨CD hs hc,by simpa using hb⟩
theorem GW:∀(n:Nat) {s:St},s.ok→wR n s=MJ n s
 | 0,s,_=>rfl
 | n+1,s,h=>by
  unfold wR MJ;rw[PS 100 h];cases hc:xV 100 s with
  | none=>rfl
  | some x =>
   obtain⟨x,t⟩:=x;simp only;rw[GW n (BU h hc).1];cases MJ n t<;>rfl
def BV (w:World) (v:Value) (N:Nat) (f:Nat→Nat):Prop:=∃p m,v=.slice p N m∧N≤m∧(∀j,f j<256)∧(0<N→∃g o,p=some ⟨g,o,none⟩∧BM w g o N f)
theorem BV.on {w w':World} {v:Value} {N:Nat} {f:Nat→Nat} (h:BV w v N f) (hb:Below w.heap.size w w'):BV w' v N f:=by
 obtain⟨p,m,h1,h2,h3,h4⟩:=h;exact⟨p,m,h1,h2,h3,fun h=>by
  obtain⟨g,o,e,h5⟩:=h4 h;exact⟨g,o,e,h5.on hb⟩⟩
theorem ElM.congr {w:World} {a b n C:Nat} {g g':Nat→Nat} (h:ElM w a b n C g) (he:∀j,j<n→g j=g' j):ElM w a b n C g' :=
 by
 have e:=fI (f:=g) (g:=g') n 0 fun j hj=>(by rw[Nat.zero_add]; exact he j hj)
 exact⟨h.box,h.app,h.lt,by rw[←e]; exact h.row,h.ne⟩
theorem aFf (W:World) (b3 bl n C:Nat):bE prog { qG prog with x:=xO W (fun _=>none) (fun _=>none) (assoc [(25,aV bl 0 n C)]) } 26 (fun _=>tC T0 fun _=>none) 1 (.region 6 (aD (cA (cB Jx))) false) [.slot 3 (.im (ptV b3 0))] [.slot 2 (.im (aV bl 0 n C))]=some ([oldOf W b3 0 [.c (aV bl 0 n C)]],.nrm,[.slot 2 (.im (aV bl 0 n C))]):=by kernel_rfl
structure EJ (n0:Nat) (w0:World) (b3 bl C D:Nat) (f:Nat→Nat) (N:Nat) (rec:Loop) (r i:Nat) (W:World):Prop where
 below:Below n0 w0 W
 el:ElM W b3 bl (1+i) C (UJ f N)
 n3:b3≠r
 nb:bl≠r
 hD:W.heap[D]?=some (.deferred (some []))
 hl:W.heap[D+1]?=some (.loop rec)
theorem EJ.wrc {n0:Nat} {w0:World} {b3 bl C D:Nat} {f:Nat→Nat} {N:Nat} {rec:Loop} {r i:Nat} {W W':World} (h:EJ n0 w0 b3 bl C D f N rec r i W) (hn:n0≤r) (hW:WrC W W' r):EJ n0 w0 b3 bl C D f N rec r i W' :=
 ⟨h.below.trans (hW.below.mono hn),h.el.wrc hW h.n3 h.nb,h.n3,h.nb,hW.shape.2.same _ _ h.hD rfl,hW.shape.2.same _ _ h.hl rfl⟩
theorem EJ.on {n0:Nat} {w0:World} {b3 bl C D:Nat} {f:Nat→Nat} {N:Nat} {rec:Loop} {r i:Nat} {W W':World} (h:EJ n0 w0 b3 bl C D f N rec r i W) (hn:n0≤W.heap.size) (hW:Below W.heap.size W W'):EJ n0 w0 b3 bl C D f N rec r i W' :=
 ⟨h.below.trans (hW.mono hn),h.el.on hW,h.n3,h.nb,(Shape.below hW).2.same _ _ h.hD rfl,(Shape.below hW).2.same _ _ h.hl rfl⟩
theorem Jw {n0:Nat} {w0:World} {b3 bl C D g o N r i m:Nat} {f:Nat→Nat} {rec:Loop} {W:World} {v':Value} {a0:Act} (hn0:n0≤D) (hn3:n0≤b3) (hnb:n0≤bl) (hJ:EJ n0 w0 b3 bl C D f N rec r i W) (hO:Own W r [.c v']) (hB:BM W g o N f) (hi:31*i<N) (hC:1+i+1≤C)
  (hr:rec.state=.ready) (hp:rec.pending=none) (hps:rec.params = #[19]) (ht:rec.tmps=a0.tmps) (hsz:a0.tmps.size=26) (h3:a0.tmps[3]?=some (ptV b3 0)) (has:rec.assign=.region 4 (aD (Pd Vj)) false) (hbo:rec.body=.block 1 (.region 5 (aD SU) true)) :
  RoundIn Fence.wide 0 prog (D+1) rec.fn ((rec.params.zip #[aV g (o+31*i) (mG N i) m]).foldl (fun t (p,v)=>t.setIfInBounds p v) rec.tmps) rec.assign rec.body W fun e W'=>e=.returned (.bool true)∧EJ n0 w0 b3 bl C D f N rec r (i+1) W'∧Own W' r [.c v']:=by
 have htm:(rec.params.zip #[aV g (o+31*i) (mG N i) m]).foldl (fun t (p,v)=>t.setIfInBounds p v) rec.tmps=(a0.put (some 19) (aV g (o+31*i) (mG N i) m)).tmps:=by
  rw[hps,ht]; simp[Act.put]
 rw[htm,has,hbo];have hnW:n0≤W.heap.size:=Nat.le_trans hnb (Nat.le_of_lt hJ.el.lt);have hH:Holds 26 W.heap.size W [.slot 19 (.im (aV g (o+31*i) (mG N i) m)),.slot 3 (.im (ptV b3 0))] { tmps:=(a0.put (some 19) (aV g (o+31*i) (mG N i) m)).tmps,defers:=[] } W :=
  bB (ts:=[(19,aV g (o+31*i) (mG N i) m),(3,ptV b3 0)]) rfl (by show (a0.put (some 19) _).tmps.size=26; rw[aG,hsz]) (fun x hx=>by
   simp only[List.mem_cons,List.not_mem_nil,or_false]at hx
   rcases hx with rfl|rfl
   ·exact aY _ _ _ (by rw[hsz]; decide)
   ·exact aS h3 (by simp))
 have hT:∀base w,∀d:Nat,TabOkW prog T0 base w:=fun _ _ _=>(bT _).w _ _
 refine DN (K0:=fun a w=>Holds 26 W.heap.size W [.slot 4 (.im (aV g (o+31*i) (mG N i) m)),.slot 3 (.im (ptV b3 0))] a w) (JT (c:=tC T0 _) aI (hT _ _) ((aW _).w _ _) (aFg (aV g (o+31*i) (mG N i) m) b3) trivial (by kernel_rfl) hH fun a w hA=>⟨rfl,hA⟩) fun a1 w1 hA1 => ?_
 have hb1:=hA1.below;have hJ1:=hJ.on hnW hb1;have hO1:Own w1 r [.c v']:=⟨Nat.lt_of_lt_of_le hO.lt hb1.size,cZ hb1 hO.lt hO.row,fun j=>(hb1.frozen (p:=⟨r,j,none⟩) hO.lt).trans (hO.free j)⟩;refine⟨rec,hJ1.hl,hr,?_⟩;have hl1:=hJ1.hl;have hlt1:D+1<w1.heap.size:=(Array.getElem?_eq_some_iff.1 hl1).1;generalize hw2:w1.putObj (D+1) (.loop { rec with state:=.busy })=w2;have hl2:w2.heap[D+1]?=some (.loop { rec with state:=.busy }):=by rw[←hw2]; exact World.putObj_heap_same hlt1
 have hE2:ElM w2 b3 bl (1+i) C (UJ f N):=by rw[←hw2]; exact hJ1.el.putL hl1
 have hO2:Own w2 r [.c v']:=by rw[←hw2]; exact hO1.putL hl1
 have hB2:Below n0 w0 w2:=by rw[←hw2]; exact fZ hJ1.below (by omega) _
 have hD2:w2.heap[D]?=some (.deferred (some [])):=by rw[←hw2]; exact (World.putObj_heap_other (by omega)).trans hJ1.hD
 have hBM1:=hB.on hb1;have hgl:g≠D+1:=fun e=>by
  have:=hBM1.2.2 0 (by omega);rw[e]at this;simp[World.cell?,hl1]at this
 have hBM2:BM w2 g (o+31*i) (mG N i) (fun j=>f (31*i+j)):=by
  refine⟨by rw[←hw2,World.putObj_size]; exact hBM1.1,fun j=>hBM1.2.1 _,fun j hj => ?_⟩;have hj2:31*i+j<N:=by unfold mG at hj; omega
  rw[←hw2,(kR hl1 (p:=⟨g,o+31*i+j,none⟩) hgl).1,Nat.add_assoc];exact hBM1.2.2 _ hj2
 refine wpIn_block ?_;refine xL (K:=fun _ W3=>Only2 b3 bl w2 W3∧ElM W3 b3 bl (1+i+1) C (fun q=>if q<1+i then UJ f N q else hN (fun j=>f (31*i+j)) (mG N i))) (boxS b3 bl (1+i) C) 5 (by kernel_rfl) (aFl hE2 hC (hA1.slot (by simp)) (hA1.slot (s:=4) (v:=aV g (o+31*i) (mG N i) m) (by simp)) hBM2 (by unfold mG; omega) (by unfold mG; omega) hA1.size fun a' w' h1 h2=>⟨h1,h2⟩) fun a3 w3 hK => ?_
 obtain⟨hO3,hE3⟩:=hK;have hl3:=hO3.shape.2.same _ _ hl2 rfl;have hlt3:D+1<w3.heap.size:=(Array.getElem?_eq_some_iff.1 hl3).1;have hE3:ElM w3 b3 bl (1+(i+1)) C (UJ f N):=by
  rw[show 1+(i+1)=1+i+1 by omega];refine hE3.congr fun j hj => ?_
  by_cases h:j<1+i
  ·rw[if_pos h]
  ·rw[if_neg h];have:j=1+i:=by omega
   subst this;unfold UJ;rw[if_neg (by omega),show 1+i-1=i by omega]
 refine⟨rfl,_,hl3,rfl,⟨?_,hE3.putL hl3,hJ.n3,hJ.nb,?_,?_⟩,(hO3.own hO2 hJ.n3.symm hJ.nb.symm).putL hl3⟩
 ·exact fZ (hB2.trans (hO3.below n0 hn3 hnb)) (by omega) _
 ·exact (World.putObj_heap_other (by omega)).trans (hO3.shape.2.same _ _ hD2 rfl)
 ·rw[World.putObj_heap_same hlt3];obtain⟨s,pe,fn,tm,pa,sg,bo,de⟩:=rec;cases hr; cases hp;rfl
theorem qI {fn:Func} {a:Act} {w:World} {s:Nat} {v:Value} (h:fn.results = #[.tmp s]) (hs:a.tmps[s]?=some v):(results fn a.tmps).run prog w=.ok v w:=by
 simp[results,h,hs]
theorem Az {w0:World} {v:Value} {N:Nat} {f:Nat→Nat} (hv:BV w0 v N f) (hN:N≤140737488355328):Calls prog 53 #[v] w0 (fun e w'=>FS.ok ⟨bP (el (UJ f N)) 0 (1+(N+30)/31),1+(N+30)/31,27,4,true,[],[]⟩ w0 e w'):=by
 obtain⟨p,m,rfl,hm,hf,hmem⟩:=hv;have hG:∀base w,bO prog (qG prog) base w:=fun _ _=>(aW _).w _ _
 have hT:∀base w,∀n d:Nat,TabOkW prog T0 base w:=fun _ _ _ _=>(bT _).w _ _
 have hnt:=aFn;refine (callsIn_wide (n:=0)).1 (callsIn_of_wp_marks (F:=Fence.wide) func53 (c:=tN) rfl trivial ?_);refine wpIn_wide.2 ?_;have hA:Holds eF.ntmps w0.heap.size w0 (fT 0 [.v (.im (.slice p N m))]) _ w0:=jU (nt:=eF.ntmps) (cs:=[.v (.im (.slice p N m))]) (args:=[.slice p N m]) (w:=w0) ⟨rfl,trivial⟩ (Nat.le_of_ble_eq_true (by kernel_rfl));rw[hnt]at hA;generalize ha0:({ tmps:=[Value.slice p N m].toArray++Array.replicate (26-[Value.slice p N m].toArray.size) undef,defers:=[] }:Act)=a0 at hA;show tN.wp prog _ { tmps:=[Value.slice p N m].toArray++Array.replicate (eF.ntmps-[Value.slice p N m].toArray.size) undef,defers:=[] } w0;rw[hnt,ha0,Tg];clear ha0;refine wp_seq (aB aI (hT _ _) (hG _ _) (aFj _) trivial hA fun a w hA => ?_);refine wp_seq (bQ (l:=List.range' 0 ((aD Vk).extract 0 4).size++(4::(List.range' 5 ((aD Vk).extract 5 7).size++[]))) (by kernel_rfl) ?_);refine aU (c:=tC T0 _) (hT _ _ 0) (hG _ _) (aFi p N m) ⟨YC (k:=31) (by omega) (by omega),gM (i:=2) (by omega),trivial⟩ (by kernel_rfl) hA fun a w hA => ?_
 obtain⟨o4,ho4,hop4,hd4,hg4⟩:∃x,(aD Vk)[4]?=some x∧x.op=.makeSlice 92 (.const (iI 0)) (.tmp 8)∧x.dst=some 9∧x.guard=none:=⟨_,rfl,rfl,rfl,rfl⟩
 have h8:=hA.slot (s:=8) (v:=iI (2+N/31)) (by simp);have h0:=hA.slot (s:=0) (v:=.slice p N m) (by simp);obtain⟨w1,hmk,hb1,happ,hs1⟩:=Ht (C:=2+N/31) (by omega) w;have hrun:(execOp a.eval o4).run prog w=.ok (.value (aV w.heap.size 0 0 (2+N/31))) w1:=by
  have e0:a.eval (.const (iI 0))=iI 0:=rfl;simp[execOp,hop4,e0,rO h8,hmk]
 refine bM ho4 hg4 (cO hrun ?_);rw[hd4];have hB1:Below w0.heap.size w0 w1:=hA.below.trans (hb1.mono hA.below.size);have hn0:w0.heap.size≤w.heap.size:=hA.below.size;generalize hbl:w.heap.size=bl at *;have hA1:Holds 26 w1.heap.size w1 [.slot 9 (.im (aV bl 0 0 (2+N/31))),.slot 0 (.im (.slice p N m))] (a.put (some 9) (aV bl 0 0 (2+N/31))) w1 :=
  bB (ts:=[(9,aV bl 0 0 (2+N/31)),(0,.slice p N m)]) hA.defers (by rw[aG]; exact hA.size) (fun x hx=>by
   simp only[List.mem_cons,List.not_mem_nil,or_false]at hx
   rcases hx with rfl|rfl
   ·exact aY _ _ _ (by rw[hA.size]; decide)
   ·exact aS h0 (by simp))
 clear hA;refine aU (c:=tC T0 _) (hT _ _ 0) (hG _ _) (aAX (.slice p N m) bl (2+N/31)) trivial (by kernel_rfl) hA1 fun a2 w2 hA2 => ?_
 obtain⟨b3,hA2⟩:=hA2.at (k:=3) (l:=[.c (aV bl 0 0 (2+N/31))]) (by simp);have hE:ElM w2 b3 bl 0 (2+N/31) (fun _=>0)∧w1.heap.size≤b3:=by
  obtain⟨β,g1,_,_,gt⟩:=hA2.facts;obtain⟨q1,q3,q2,_⟩:=g1 (.row 3 true [.c (aV bl 0 0 (2+N/31))]) (by simp);have e:=g1 (.at 3 b3) (by simp);simp only[Fact.ok]at e;obtain⟨rfl,e2⟩:=e;rw[e2]at q3;refine⟨⟨⟨q1,q3,(q2 rfl).2.2⟩,happ.shape gt.shape,?_,fun j v hj=>by simp[bP,aA]at hj,?_⟩,(q2 rfl).1⟩
  ·have:=gt.shape.2.size; omega
  ·have:=(q2 rfl).1; omega
 obtain⟨hE,hb3⟩:=hE;have hB2:Below w0.heap.size w0 w2:=hB1.trans (hA2.below.mono (by omega));have h02:=hA2.slot (s:=0) (v:=.slice p N m) (by simp);have h32:a2.tmps[3]?=some (ptV b3 0):=by
  obtain⟨β,g1,_⟩:=hA2.facts;have e1:=g1 (.slot 3 (.pt 3 0)) (by simp);have e2:=g1 (.at 3 b3) (by simp);simp only[Fact.ok]at e1 e2;rw[e1];simp[AV.den,e2,Go.Proofs.YtpbljiejmfahcaaGreatDoor.Ex.ptV]
 have hd2:=hA2.defers;have hsz2:=hA2.size;clear hA1 hA2;show (Code.seq _ _).wp _ _ _ _;refine wp_seq (Code.wp_mono (Q:=gL fun a' w'=>a'.defers=[]∧a'.tmps.size=26∧a'.tmps[0]?=some (.slice p N m)∧a'.tmps[3]?=some (ptV b3 0)∧Only2 b3 bl w2 w'∧ElM w' b3 bl 1 (2+N/31) (UJ f N)) (fun e a3 w3 h => ?_) (cF (boxS b3 bl 0 (2+N/31)) 7 aI (aFm (p:=p) (m:=m) (N:=N) hE (by omega) (by omega) h02 h32 hsz2 fun a' w' e1 e2 e3 e4 e5 e6=>⟨e1.trans hd2,e2,e3,e4,e5,e6.congr fun j hj=>by
  have:j=0:=by omega
  subst this; rfl⟩)))
 obtain⟨rfl,hd3,hsz3,h03,h33,hO3,hE3⟩:=h;show (Code.seq _ _).wp _ _ _ _;have hB3:Below w0.heap.size w0 w3:=hB2.trans (hO3.below _ (by omega) (by omega));have hA3:Holds 26 w3.heap.size w3 [.slot 0 (.im (.slice p N m)),.slot 3 (.im (ptV b3 0))] a3 w3:=bB (ts:=[(0,.slice p N m),(3,ptV b3 0)]) hd3 hsz3 (fun x hx=>by
   simp only[List.mem_cons,List.not_mem_nil,or_false]at hx
   rcases hx with rfl|rfl
   ·exact h03
   ·exact h33)
 refine wp_seq (wp_seq (bQ (l:=List.range' 0 ((aD e3C).extract 0 1).size++(1::[])) (by kernel_rfl) ?_));refine aU (c:=tC T0 _) (hT _ _ 0) (hG _ _) (aFh (.slice p N m) b3) trivial (by kernel_rfl) hA3 fun a4 w4 hA4 => ?_
 obtain⟨o1,ho1,⟨ts1,hop1⟩,hd1,hg1⟩:∃x,(aD e3C)[1]?=some x∧(∃ts,x.op=.call ⟨.value (.func 87),#[.tmp 17],ts⟩)∧x.dst=some 18∧x.guard=none:=⟨_,rfl,⟨_,rfl⟩,rfl,rfl⟩
 refine bM ho1 hg1 (dI hop1 (vs:=[.slice p N m]) (List.cons_eq_cons.2 ⟨rO (hA4.slot (s:=17) (by simp)),rfl⟩) (fun args=>bR func87 (by kernel_rfl) (by kernel_rfl) args _) (XR w4 p N m) fun e w5 hr => ?_);obtain⟨bb,rfl,hb5,hbox⟩:=hr;refine⟨_,rfl,?_⟩;rw[hd1];have hb4:=hA4.below;have hE5:=(hE3.on hb4).on hb5;have hB5:Below w0.heap.size w0 w5:=(hB3.trans (hb4.mono hB3.size)).trans (hb5.mono (Nat.le_trans hB3.size hb4.size));have h35:=aS (d:=18) (u:=Dj bb) (hA4.slot (s:=3) (v:=ptV b3 0) (by simp)) (by decide);have h18:=aY a4 18 (Dj bb) (by rw[hA4.size]; decide);have hd5:(a4.put (some 18) (Dj bb)).defers=[]:=hA4.defers;have hsz5:(a4.put (some 18) (Dj bb)).tmps.size=26:=by rw[aG]; exact hA4.size
 generalize a4.put (some 18) (Dj bb)=a5 at *;clear hA3 hA4;show (Code.block 0 _).wp _ _ _ _;refine wp_block ?_;have hn5:w0.heap.size≤w5.heap.size:=hB5.size;refine xX (gf:=113) (lb:=#[ptV bb 0]) (rO h18) (fun args w=>bR func113 (by kernel_rfl) (by kernel_rfl) args w) fun fn => ?_
 generalize hrec:({ state:=.ready,pending:=none,fn,tmps:=a5.tmps,params:=#[19],assign:=.region 4 (aD (Pd Vj)) false,body:=.block 1 (.region 5 (aD SU) true),defers:=w5.heap.size }:Loop)=rec;have r1:rec.state=.ready:=by rw[←hrec]
 have r2:rec.pending=none:=by rw[←hrec]
 have r3:rec.params = #[19]:=by rw[←hrec]
 have r4:rec.tmps=a5.tmps:=by rw[←hrec]
 have r5:rec.assign=.region 4 (aD (Pd Vj)) false:=by rw[←hrec]
 have r6:rec.body=.block 1 (.region 5 (aD SU) true):=by rw[←hrec]
 clear hrec;obtain⟨W1,hW1⟩:∃W1,(w5.alloc (.deferred (some []))).alloc (.loop rec)=W1:=⟨_,rfl⟩
 rw[hW1];have hb6:Below w5.heap.size w5 W1:=by rw[←hW1]; exact ((Below.refl _ w5).alloc (Nat.le_refl _) _).alloc (by simp) _
 have hD1:W1.heap[w5.heap.size]?=some (.deferred (some [])):=by
  rw[←hW1]; exact (Below.heap_alloc _ _ _ (by simp)).trans (World.alloc_heap_new w5 _)
 have hL1:W1.heap[w5.heap.size+1]?=some (.loop rec):=by
  rw[←hW1]; have:=World.alloc_heap_new (w5.alloc (.deferred (some []))) (.loop rec); rwa [World.size_alloc]at this
 have hz1:W1.heap.size=w5.heap.size+2:=by rw[←hW1]; simp
 clear hW1;have hrest:UE (match p with|some a=>a.block|none=>0) (match p with|some a=>a.off|none=>0) N 0 (.slice p (N-31*0) m):=⟨p,m,rfl,by omega,fun h=>by
  obtain⟨g,o,rfl,_⟩:=hmem (by omega);rfl⟩
 have hJ1:∀r,W1.heap.size≤r→EJ w0.heap.size w0 b3 bl (2+N/31) w5.heap.size f N rec r 0 W1:=fun r hr =>
  ⟨hB5.trans (hb6.mono hn5),hE5.on hb6,by have:=(hE5.box.lt); omega,by have:=hE5.lt; omega,hD1,hL1⟩
 refine Calls.mono (ZT (l:=w5.heap.size+1) (bb:=bb) (W1:=W1) hrest (oldOf.go hb6 (Nat.le_refl _) hbox) (fun r i W=>EJ w0.heap.size w0 b3 bl (2+N/31) w5.heap.size f N rec r i W)
  (fun r W h1 h2 _ _=>(hJ1 r h1).on (by omega) h2) (fun r i W W' h1 h2 h3=>h2.wrc (by omega) h3) (fun r i W v' mm h1 h2 h3 h4 h5=>⟨rec,h3.hl,by rw[r3]; rfl,?_⟩)) ?_
 ·obtain⟨g,o,rfl,hBM⟩:=hmem (by omega);exact Jw (a0:=a5) (by omega) (by omega) (by omega) h3 h4 ⟨Nat.lt_of_lt_of_le hBM.1 (Nat.le_trans hn5 (by have:=h3.below.size; have:=(Array.getElem?_eq_some_iff.1 h3.hl).1; omega)),hBM.2.1,fun j hj=>(h3.below.cell (p:=⟨g,o+j,none⟩) hBM.1).trans (hBM.2.2 j hj)⟩ h2 (by omega) r1 r2 r3 r4 hsz5 h35 r5 r6
 ·rintro e W' ⟨⟨u,rfl⟩,r,hJ⟩
  refine⟨u,rec,rfl,hJ.hl,by rw[r1]; simp,r2,?_⟩;generalize hrx:({ rec with state:=.exhausted }:Loop)=rx;have hlt:w5.heap.size+1<W'.heap.size:=(Array.getElem?_eq_some_iff.1 hJ.hl).1;have hB7:=fZ (o:=.loop rx) hJ.below (l:=w5.heap.size+1) (by omega);have hE7:=hJ.el.putL (o:=.loop rx) hJ.hl;have hD7:(W'.putObj (w5.heap.size+1) (.loop rx)).heap[w5.heap.size]?=some (.deferred (some [])):=(World.putObj_heap_other (by omega)).trans hJ.hD;generalize W'.putObj (w5.heap.size+1) (.loop rx)=w7 at *;show (Code.seq _ _).wp _ _ _ _;rw[hd5];have hA7:Holds 26 w7.heap.size w7 [.slot 3 (.im (ptV b3 0))] a5 w7:=bB (ts:=[(3,ptV b3 0)]) hd5 hsz5 (fun x hx=>by
   simp only[List.mem_cons,List.not_mem_nil,or_false]at hx
   rcases hx with rfl
   exact h35)
  refine wp_seq (WR (c:=tC T0 _) aI (hT _ _ 0) (eK w7 _ _ _) (aFf w7 b3 bl _ _) ⟨⟨hE7.box.lt,hE7.box.row⟩,trivial⟩ (by kernel_rfl) hA7 fun a8 w8 hA8 => ?_);refine wp_ret ?_;have hb8:=hA8.below;have hE8:=hE7.on hb8;have hD8:=(Shape.below hb8).2.same _ _ hD7 rfl;have hB8:Below w0.heap.size w0 w8:=hB7.trans (hb8.mono hB7.size);have hDlt:w5.heap.size<w8.heap.size:=(Array.getElem?_eq_some_iff.1 hD8).1;refine⟨by simp,.inl ⟨w5.heap.size,_,rfl,run_takeDeferred hD8,?_⟩⟩;have hbD:bl≠w5.heap.size:=fun e=>by
   obtain⟨cur,h1,_⟩:=hE8.app;rw[e,hD8]at h1; cases h1
  refine⟨_,qI (s:=2) (by kernel_rfl) (hA8.slot (s:=2) (v:=aV bl 0 (1+(N+30)/31) (2+N/31)) (by simp)),bl,2+N/31,rfl,fZ hB8 (by omega) _,hn0,by rw[World.putObj_size]; exact hE8.lt,fun j v hj => ?_,fun j => ?_,fun _ => ?_⟩
  ·exact (World.cell?_of_block (World.putObj_heap_other hbD)).trans (hE8.row j v hj)
  ·exact (World.frozen?_of_block (World.putObj_heap_other hbD)).trans (hE8.app.free j)
  ·obtain⟨cur,h1,h2,h3,h4⟩:=hE8.app;exact⟨cur,(World.putObj_heap_other hbD).trans h1,h2,h3,h4⟩
def gBg (wd fl pt:Nat):gE
 | [.v (.fl l)]=>some ([aA l=aA (rR wd fl pt)],.one (.fl (IW wd fl pt).row))
 | _=>none
theorem Sn {wd fl pt:Nat} (h1:wd<4611686018427387904) (h2:fl<4611686018427387904) (h3:pt<4611686018427387904):∀cs pre r,gBg wd fl pt cs=some (pre,r)→aT pre→∀(args:List Value) (w:World),cD w cs args→bD prog 139 r args w:=by
 intro cs pre r hg hp args w ha;unfold gBg at hg;split at hg
 ·rename_i l;cases hg
  match args,ha with
  | [u],ha =>
   have e:u=.agg (aA l).toArray:=ha.1;rw[hp.1]at e;subst e;exact Cl h1 h2 h3 w
  | [],ha=>exact ha.elim
  | _::_::_,ha=>exact ha.2.elim
 ·cases hg
def aDc (wd fl pt:Nat):Tab:=T0.add 139 (gBg wd fl pt)
theorem Lj {wd fl pt:Nat} (h1:wd<4611686018427387904) (h2:fl<4611686018427387904) (h3:pt<4611686018427387904):TabOk prog (aDc wd fl pt):=(bT _).add func139 (by kernel_rfl) (by kernel_rfl) (Sn h1 h2 h3)
theorem Bx {n x:Nat} {s t:St} (hs:s.ok) (hc:xV n s=some (x,t)) {base:Nat} {w:World} (hD:Dbj w) (hB:2<base):Ll prog (zI 140 (Vc s.row 0 (.one (.fl [.q x])) t.row)) base w :=
 IP func140 (by kernel_rfl) (by kernel_rfl) fun cs pre j r l hg hp args ha b o hj hz hle=>by
  unfold Vc at hg;split at hg
  ·cases hg;obtain⟨rfl,rfl,_⟩:=hp
   match args,ha with
   | [v],ha =>
    obtain⟨⟨b',rfl,h1,h2⟩,_⟩:=ha;cases hj;exact (By hs hc hD (Nat.lt_of_lt_of_le hB hle) ⟨h1,h2,hz⟩).2.2
   | [],ha=>exact ha.elim
   | _::_::_,ha=>exact ha.2.elim
  ·cases hg
noncomputable abbrev cnF:Func:=f138
def pQ:Code:=(f138.body).getD .skip
def fQ:Code:=kD (kD (cB (cB pQ)))
def UN:Code:=kD (cA (cB (cB fQ)))
theorem Kj:pQ=.seq (cA pQ) (.seq (cA (cB pQ)) (.block 0 (.loop fQ))):=by kernel_rfl
theorem Ki:fQ=.seq (cA fQ) (.seq (cA (cB fQ)) (.seq (.block 1 (.seq (cA UN) (.seq (.region 4 (aD (cA (cB UN))) false) (.cond (.tmp 16) .ret .skip)))) (cB (cB (cB fQ))))):=by kernel_rfl
theorem aBX:cnF.ntmps=18:=by kernel_rfl
theorem aBU (w:World) (l bb cb wd fl pt:Nat):bE prog { qG prog with x:=xO w (fun _=>none) (assoc [(6,rR wd fl pt)]) (fun _=>none) } 18 (fun _=>tC (aDc wd fl pt) fun _=>none) 60 (cA pQ) (fT 0 [.v (.im (yV l)),.v (.im (ptV bb 0)),.v (.im (ptV cb 0))]) [.slot 4 (.pt 4 0),.row 4 true (IW wd fl pt).row,.slot 0 (.im (yV l)),.slot 2 (.im (ptV cb 0))]=some ([oldOf w bb 0 (rR wd fl pt),dD (rR wd fl pt)=3,aA (rR wd fl pt)=aA (rR wd fl pt)],.nrm,[.slot 4 (.pt 4 0),.row 4 true (IW wd fl pt).row,.slot 0 (.im (yV l)),.slot 2 (.im (ptV cb 0))]):=by kernel_rfl
theorem aBT (w:World) (l r cb C:Nat) (s:St):bE prog { qG prog with x:=xO w (fun _=>none) (fun _=>none) (assoc [(8,iI C)]) } 18 (fun _=>tC T0 fun _=>none) 60 (cA (cB pQ)) [.at 4 r,.slot 4 (.pt 4 0),.row 4 true s.row,.slot 0 (.im (yV l)),.slot 2 (.im (ptV cb 0))] [.at 4 r,.slot 4 (.pt 4 0),.row 4 true s.row,.slot 0 (.im (yV l)),.slot 8 (.im (iI C)),.slot 9 (.im (iI 0))]=some ([oldOf w cb 0 [.c (iI C)]],.nrm,[.at 4 r,.slot 4 (.pt 4 0),.row 4 true s.row,.slot 0 (.im (yV l)),.slot 8 (.im (iI C)),.slot 9 (.im (iI 0))]):=by kernel_rfl
def nM (l r N C i:Nat) (s:St):List Fact:=[.slot 4 (.pt 4 0),.row 4 true s.row,.at 4 r,.at 18 N,.slot 0 (.im (yV l)),.slot 8 (.im (iI C)),.slot 9 (.im (iI i))]
theorem aBZ (l r N C i:Nat) (s:St):bE prog (qW (fun _=>none) kI) 18 (fun _=>tC T0 (assoc [(10,.bool true)])) 60 (cA fQ) (nM l r N C i s) (.slot 10 (.im (.bool true))::nM l r N C i s)=some ([aN .lss .i64 (Int.ofNat i) (Int.ofNat C)=some (.bool true)],.nrm,.slot 10 (.im (.bool true))::nM l r N C i s):=by kernel_rfl
theorem Tu (l r N C i:Nat) (s:St):bE prog (qW (fun _=>none) kI) 18 (fun _=>tC T0 fun _=>none) 60 (cA (cB fQ)) (.slot 10 (.im (.bool true))::nM l r N C i s) (nM l r N C i s)=some ([],.nrm,nM l r N C i s):=by kernel_rfl
theorem aFA (l r N C i:Nat) (s:St):bE prog (qW (fun _=>none) kI) 18 (fun _=>tC T0 (assoc [(10,.bool false)])) 60 (cA fQ) (nM l r N C i s) (.slot 10 (.im (.bool false))::nM l r N C i s)=some ([aN .lss .i64 (Int.ofNat i) (Int.ofNat C)=some (.bool false)],.nrm,.slot 10 (.im (.bool false))::nM l r N C i s):=by kernel_rfl
theorem aBS (l r N C i:Nat) (s:St):bE prog (qW (fun _=>none) kI) 18 (fun _=>tC T0 fun _=>none) 60 (cA (cB fQ)) (.slot 10 (.im (.bool false))::nM l r N C i s) (nM l r N C i s)=some ([],.ex 0,nM l r N C i s):=by kernel_rfl
theorem aBV (l r N C i:Nat) (s:St):bE prog (qW (fun _=>none) kI) 18 (fun _=>tC T0 fun _=>none) 60 (cA UN) (nM l r N C i s) (.slot 5 (.im (iI i))::nM l r N C i s)=some ([],.nrm,.slot 5 (.im (iI i))::nM l r N C i s):=by kernel_rfl
def aDd (s t:St) (x:Nat):Tab5:=zI 140 (Vc s.row 0 (.one (.fl [.q x])) t.row)
theorem aBY (l r N C i x:Nat) (s t:St):eH prog (qW (fun _=>none) (aDd s t x)) 18 (tC T0 fun _=>none) ((aD (cA (cB UN))).extract 0 3) (.slot 5 (.im (iI i))::nM l r N C i s) (.slot 12 (.im (yV l)) :: .slot 13 (.im (iI i)) :: .slot 14 (.fl [.q x])::nM l r N C i t)=some ([s.row=s.row,0=0],.slot 12 (.im (yV l)) :: .slot 13 (.im (iI i)) :: .slot 14 (.fl [.q x])::nM l r N C i t):=by kernel_rfl
theorem Tt (l r N C i:Nat) (s:St):eH prog (qW (fun _=>none) kI) 18 (tC T0 fun _=>none) ((aD (cA (cB UN))).extract 4 5) [.slot 4 (.pt 4 0),.row 4 true s.row,.at 4 r,.at 18 N,.slot 0 (.im (yV l)),.slot 8 (.im (iI C)),.slot 9 (.im (iI i)),.slot 15 (.im (.bool true))] (.slot 16 (.im (.bool false))::nM l r N C i s)=some ([],.slot 16 (.im (.bool false))::nM l r N C i s):=by kernel_rfl
theorem aBW (l r N C i:Nat) (s:St):bE prog (qW (fun _=>none) kI) 18 (fun _=>tC T0 (assoc [(17,iI (i+1))])) 60 (cB (cB (cB fQ))) (nM l r N C i s) (nM l r N C (i+1) s)=some ([aN .add .i64 (Int.ofNat i) 1=some (iI (i+1))],.nrm,nM l r N C (i+1) s):=by kernel_rfl
structure CnS (l r C i:Nat) (s:St) (a:Act) (w:World):Prop where
 defers:a.defers=[]
 size:a.tmps.size=18
 t0:a.tmps[0]?=some (yV l)
 t4:a.tmps[4]?=some (ptV r 0)
 t8:a.tmps[8]?=some (iI C)
 t9:a.tmps[9]?=some (iI i)
 own:Own w r s.row
theorem CnS.holds {l r C i:Nat} {s:St} {a:Act} {w:World} (h:CnS l r C i s a w):Holds 18 r w (nM l r w.heap.size C i s) a w :=
 h.own.holds (k:=4) (ts:=[(0,yV l),(8,iI C),(9,iI i)]) h.defers h.size rfl h.t4 (fun x hx=>by
  simp only[List.mem_cons,List.not_mem_nil,or_false]at hx
  rcases hx with rfl|rfl|rfl
  ·exact h.t0
  ·exact h.t8
  ·exact h.t9)
theorem Holds.cns {l r C i:Nat} {s:St} {A:List Fact} {a:Act} {w w':World} (h:Holds 18 r w A a w') (hA:∀φ∈nM l r w.heap.size C i s,φ∈A) (hlt:r<w.heap.size):CnS l r C i s a w'∧WrC w w' r:=by
 have hW:=h.wrcK (k:=4) (l:=s.row) (hA _ (by simp[nM])) (hA _ (by simp[nM])) (hA _ (by simp[nM]));exact⟨⟨h.defers,h.size,h.slot (hA _ (by simp[nM])),h.ptS (s:=4) (k:=4) (o:=0) (hA _ (by simp[nM])) (hA _ (by simp[nM])),h.slot (hA _ (by simp[nM])),h.slot (hA _ (by simp[nM])),hW.1.own hlt hW.2⟩,hW.1⟩
def Vn (i x:Nat):Array Value:=#[iI i,.agg (aA [At.q x]).toArray]
theorem Bz {W1:World} {l bb cb C wd fl pt:Nat} {fu:Nat} {sq:Nat→St} {xs:Nat→Nat} (hbox:oldOf W1 bb 0 (rR wd fl pt)) (hcb:oldOf W1 cb 0 [.c (iI C)]) (b1:wd<4611686018427387904) (b2:fl<4611686018427387904) (b3:pt<4611686018427387904) (hC:C<4611686018427387904) (hg1:2<W1.heap.size)
  (h0:sq 0=IW wd fl pt) (hx:∀i,i<C→xV fu (sq i)=some (xs i,sq (i+1))) (J:Nat→Nat→World→Prop)
  (hJD:∀r i W,J r i W→Dbj W)
  (hJ0:∀r W,W1.heap.size≤r→Below W1.heap.size W1 W→r<W.heap.size→Shape W1 W→J r 0 W) (hJw:∀r i W W',W1.heap.size≤r→J r i W→WrC W W' r→J r i W')
  (hR:∀r i W,W1.heap.size≤r→i<C→J r i W→Own W r (sq (i+1)).row→∃rec,W.heap[l]?=some (.loop rec)∧rec.params.size=2 ∧
   RoundIn Fence.wide 0 prog l rec.fn ((rec.params.zip (Vn i (xs i))).foldl (fun t (p,v)=>t.setIfInBounds p v) rec.tmps) rec.assign rec.body W fun e W'=>e=.returned (.bool true)∧J r (i+1) W'∧Own W' r (sq (i+1)).row) :
  Calls prog 138 #[yV l,ptV bb 0,ptV cb 0] W1 fun e W'=>(∃v,e=.returned v)∧∃r,J r C W':=by
 have hok:∀i,i≤C→(sq i).ok:=fun i=>by
  induction i with
  | zero=>intro _; rw[h0]; exact MU _ _ _
  | succ i ih=>intro hi; exact (BU (ih (by omega)) (hx i (by omega))).1
 have hG:∀base w,bO prog (qG prog) base w:=fun _ _=>(aW _).w _ _
 have hq:∀base w,bO prog (qW (fun _=>none) kI) base w:=fun _ _=>mQ (nU _) _ _
 have hT:∀base w,∀n d:Nat,TabOkW prog T0 base w:=fun _ _ _ _=>(bT _).w _ _
 have hnt:f138.ntmps=18:=aBX;refine cQ func138 (cs:=[.v (.im (yV l)),.v (.im (ptV bb 0)),.v (.im (ptV cb 0))]) (args:=[yV l,ptV bb 0,ptV cb 0]) (c:=pQ) rfl ⟨rfl,rfl,rfl,trivial⟩ (Nat.le_of_ble_eq_true (by kernel_rfl)) fun a w hA => ?_
 rw[hnt]at hA;rw[Kj];refine wp_seq (aB aI (fun _ _=>(Lj b1 b2 b3).w _ _) (eK W1 _ _ _) (aBU W1 l bb cb wd fl pt) ⟨hbox,rfl,rfl,trivial⟩ hA fun a w hA => ?_);rw[←h0]at hA;obtain⟨r,hA⟩:=hA.at (k:=4) (l:=(sq 0).row) (by simp);refine wp_seq (aB aI (hT _ _) (eK W1 _ _ _) (aBT W1 l r cb C (sq 0)) ⟨hcb,trivial⟩ hA fun a w hA => ?_);have hB1:W1.heap.size≤r:=hA.geq (k:=4) (l:=(sq 0).row) (by simp) (by simp);have hO:=hA.own (k:=4) (l:=(sq 0).row) (b:=r) (by simp) (by simp);have hS:CnS l r C 0 (sq 0) a w:=⟨hA.defers,hA.size,hA.slot (by simp),hA.ptS (s:=4) (k:=4) (o:=0) (by simp) (by simp),hA.slot (by simp),hA.slot (by simp),hO⟩;have hJ:=hJ0 r w hB1 hA.below hO.lt hA.shape;clear hA hO;refine wp_block ?_;refine dV (n:=C+1) ?_;have wl:∀Q a w,(Code.seq (cA fQ) (.seq (cA (cB fQ)) (.seq (.block 1 (.seq (cA UN) (.seq (.region 4 (aD (cA (cB UN))) false) (.cond (.tmp 16) .ret .skip)))) (cB (cB (cB fQ)))))).wp prog Q a w→fQ.wp prog Q a w:=fun Q a w h=>by rw[Ki]; exact h
 have key:∀k i a w,i+k=C→CnS l r C i (sq i) a w→J r i w→Un prog fQ (Exit.inBlock 0 (bodyPost prog f138 fun e W'=>(∃v,e=.returned v)∧∃r,J r C W')) (k+1) a w:=by
  intro k
  induction k with
  | zero =>
   intro i a w hi hS hJ;unfold Un;refine wl _ _ _ ?_;refine wp_seq (aB aI (hT _ _) (hq _ _) (aFA l r w.heap.size C i (sq i)) ⟨dS (by omega),trivial⟩ hS.holds fun a1 w1 h1 => ?_);refine wp_seq (aB aI (hT _ _) (hq _ _) (aBS l r w.heap.size C i (sq i)) trivial h1 fun a1 w1 h1 => ?_);obtain⟨hS',hW⟩:=h1.cns (fun φ h=>h) hS.own.lt;have hJ':=hJw r i w w1 hB1 hJ hW;have hi':i=C:=by omega
   subst hi';simp only[EA.out,Exit.then,Exit.inBlock,if_true];refine⟨hS'.defers,.tuple #[],?_,⟨_,rfl⟩,r,hJ'⟩;simp[results,show f138.results = #[] by kernel_rfl]
  | succ k ih =>
   intro i a w hi hS hJ;have hlt:i<C:=by omega
   have hci:=hx i hlt;have hoi:=hok i (by omega);unfold Un;refine wl _ _ _ ?_;refine wp_seq (aB aI (hT _ _) (hq _ _) (aBZ l r w.heap.size C i (sq i)) ⟨fB hlt,trivial⟩ hS.holds fun a1 w1 h1 => ?_);refine wp_seq (aB aI (hT _ _) (hq _ _) (Tu l r w.heap.size C i (sq i)) trivial h1 fun a1 w1 h1 => ?_);refine wp_seq (wp_block (wp_seq (aB aI (hT _ _) (hq _ _) (aBV l r w.heap.size C i (sq i)) trivial h1 fun a1 w1 h1 => ?_)));obtain⟨hS1,hW1⟩:=h1.cns (fun φ h=>List.mem_cons_of_mem _ h) hS.own.lt;have t5:=h1.slot (s:=5) (v:=iI i) (by simp);have hJ1:=hJw r i w w1 hB1 hJ hW1;have hD1:=hJD r i w1 hJ1;clear h1;have hH1:Holds 18 r w1 (.slot 5 (.im (iI i))::nM l r w1.heap.size C i (sq i)) a1 w1:=by
    have:=hS1.own.holds (k:=4) (nt:=18) (ts:=[(5,iI i),(0,yV l),(8,iI C),(9,iI i)]) hS1.defers hS1.size rfl hS1.t4 (fun x hx=>by
     simp only[List.mem_cons,List.not_mem_nil,or_false]at hx
     rcases hx with rfl|rfl|rfl|rfl
     ·exact t5
     ·exact hS1.t0
     ·exact hS1.t8
     ·exact hS1.t9)
    exact this.sub (fun φ h=>by
     simp only[nM,List.mem_cons,List.not_mem_nil,or_false]at h
     rcases h with rfl|rfl|rfl|rfl|rfl|rfl|rfl|rfl<;>simp)
   refine wp_seq ?_;refine (wpIn_wide (n:=1)).1 ?_;show Code.wpIn (rF none) 1 _ _ _ _ _;refine wpIn_region ?_;rw[show List.range (aD (cA (cB UN))).size=List.range' 0 ((aD (cA (cB UN))).extract 0 3).size++(3::(List.range' 4 ((aD (cA (cB UN))).extract 4 5).size++[])) by kernel_rfl];have hg:2<r:=Nat.lt_of_lt_of_le hg1 hB1;refine qO (c:=tC T0 _) (hT _ _ 0) (WU (T5:=aDd (sq i) (sq (i+1)) (xs i)) fun w' hb=>Bx hoi hci (hD1.on hg hb) hg) (aBY l r w1.heap.size C i (xs i) (sq i) (sq (i+1))) ⟨rfl,rfl,trivial⟩ (by kernel_rfl) (by kernel_rfl) hH1 fun a2 w2 h2 => ?_
   obtain⟨hS2,hW2⟩:=h2.cns (fun φ h=>List.mem_cons_of_mem _ (List.mem_cons_of_mem _ (List.mem_cons_of_mem _ h))) hS1.own.lt;have t12:=h2.slot (s:=12) (v:=yV l) (by simp);have t13:=h2.slot (s:=13) (v:=iI i) (by simp);have t14:=h2.slotF (s:=14) (l:=[.q (xs i)]) (by simp);have hJ2:=hJw r i w1 w2 hB1 hJ1 hW2;obtain⟨rec,hrec,hsz,hround⟩:=hR r i w2 hB1 hlt hJ2 hS2.own;obtain⟨o3,ho3,⟨ts3,hop3⟩,hd3,hg3⟩:∃x,(aD (cA (cB UN)))[3]?=some x∧(∃ts,x.op=.call ⟨.value (.tmp 12),#[.tmp 13,.tmp 14],ts⟩)∧x.dst=some 15∧x.guard=none:=⟨_,rfl,⟨_,rfl⟩,rfl,rfl⟩
   refine AS ho3 hg3 (CP (l:=l) (vs:=Vn i (xs i)) hop3 (by rw[cU t12]; rfl) (by simp[cU t13,cU t14,Vn]) hrec (by rw[hsz]; rfl) (hround.mono ?_))
   rintro e W' ⟨rfl,hJ',hO'⟩
   refine⟨_,rfl,?_⟩;rw[hd3];change wpOpsIn (rF none) 1 prog (aD (cA (cB UN))) _ _ (a2.put (some 15) (.bool true)) W';have hH:Holds 18 r W' [.slot 4 (.pt 4 0),.row 4 true (sq (i+1)).row,.at 4 r,.at 18 W'.heap.size,.slot 0 (.im (yV l)),.slot 8 (.im (iI C)),.slot 9 (.im (iI i)),.slot 15 (.im (.bool true))] (a2.put (some 15) (.bool true)) W' :=
    hO'.holds (k:=4) (ts:=[(0,yV l),(8,iI C),(9,iI i),(15,.bool true)]) hS2.defers (by rw[aG]; exact hS2.size) rfl (aS hS2.t4 (by decide)) (fun x hx=>by
     simp only[List.mem_cons,List.not_mem_nil,or_false]at hx
     rcases hx with rfl|rfl|rfl|rfl
     ·exact aS hS2.t0 (by simp)
     ·exact aS hS2.t8 (by simp)
     ·exact aS hS2.t9 (by simp)
     ·exact aY _ _ _ (by rw[hS2.size]; decide))
   refine qO (c:=tC T0 _) (hT _ _ 0) (hq _ _) (Tt l r W'.heap.size C i (sq (i+1))) trivial (by kernel_rfl) (by kernel_rfl) hH fun a5 w5 h5 => ?_
   obtain⟨hS5,hW5⟩:=h5.cns (fun φ h=>List.mem_cons_of_mem _ h) hO'.lt;have hc:=h5.imV (s:=16) (v:=.bool false) (by simp);have hJ5:=hJw r (i+1) W' w5 hB1 hJ' hW5;show (Code.cond (.tmp 16) .ret .skip).wp _ _ _ _;refine wp_cond_false hc (wp_skip ?_);simp only[Exit.then,Exit.inBlock];refine aB aI (hT _ _) (hq _ _) (aBW l r w5.heap.size C i (sq (i+1))) ⟨gM (k:=1) (by omega),trivial⟩ hS5.holds fun a6 w6 h6 => ?_
   obtain⟨hS6,hW6⟩:=h6.cns (fun φ h=>h) hS5.own.lt;exact ih (i+1) a6 w6 (by omega) hS6 (hJw r (i+1) w5 w6 hB1 hJ5 hW6)
 exact key C 0 a w (by omega) hS hJ
theorem qE {nt:Nat} {w:World} {a:Act} {ts:List (Nat×TV)} (hd:a.defers=[]) (hs:a.tmps.size=nt) (ht:∀x∈ts,a.tmps[x.1]?=some x.2.den):Holds nt w.heap.size w (ts.map fun x=>.slot x.1 x.2.av) a w:=by
 refine⟨hd,hs,Below.refl _ _,Nat.le_refl _,fun _=>(w.heap.size,0,0),fun φ hφ => ?_,fun k k' o' l l' h1 => ?_,fun k l h1 => ?_,Nat.le_refl _,fun p h1 h2=>⟨rfl,rfl⟩,Shape.refl _⟩
 ·obtain⟨x,hx,rfl⟩:=List.mem_map.1 hφ;show a.tmps[x.1]?=_;rw[TV.av_den];exact ht x hx
 ·obtain⟨x,_,e⟩:=List.mem_map.1 h1; cases e
 ·obtain⟨x,_,e⟩:=List.mem_map.1 h1; cases e
def Dp (bb cb:Nat):Value:=.func (.func 138) #[] #[ptV bb 0,ptV cb 0]
def oP:Code:=(f122.body).getD .skip
theorem Cd:oP=.seq (cA oP) (.seq (cA (cB oP)) .ret):=by kernel_rfl
theorem Ub:f122.ntmps=6:=by kernel_rfl
theorem Ua (wd fl pt C:Nat):bE prog (qG prog) 6 (fun _=>tC T0 fun _=>none) 60 (cA oP) (fT 0 [.v (.fl (rR wd fl pt)),.v (.im (iI C))]) [.slot 2 (.pt 2 0),.row 2 true (rR wd fl pt),.slot 3 (.pt 3 0),.row 3 true [.c (iI C)]]=some ([],.nrm,[.slot 2 (.pt 2 0),.row 2 true (rR wd fl pt),.slot 3 (.pt 3 0),.row 3 true [.c (iI C)]]):=by kernel_rfl
theorem Tz (wd fl pt C bb cb:Nat):bE prog (qG prog) 6 (fun _=>tC T0 fun _=>none) 60 (cA (cB oP)) [.at 3 cb,.at 2 bb,.slot 2 (.pt 2 0),.row 2 true (rR wd fl pt),.slot 3 (.pt 3 0),.row 3 true [.c (iI C)]] [.slot 4 (.im (Dp bb cb)),.at 2 bb,.at 3 cb,.row 2 true (rR wd fl pt),.row 3 true [.c (iI C)]]=some ([],.nrm,[.slot 4 (.im (Dp bb cb)),.at 2 bb,.at 3 cb,.row 2 true (rR wd fl pt),.row 3 true [.c (iI C)]]):=by kernel_rfl
theorem TJ (w0:World) (wd fl pt C:Nat):Calls prog 122 [.agg (aA (rR wd fl pt)).toArray,iI C].toArray w0 fun e w'=>∃bb cb,e=.returned (Dp bb cb)∧Below w0.heap.size w0 w'∧oldOf w' bb 0 (rR wd fl pt)∧oldOf w' cb 0 [.c (iI C)]:=by
 have hG:bO prog (qG prog) w0.heap.size w0:=(aW _).w _ _;have hT:∀n d:Nat,TabOkW prog T0 w0.heap.size w0:=fun _ _=>(bT _).w _ _
 refine cQ func122 (cs:=[.v (.fl (rR wd fl pt)),.v (.im (iI C))]) (args:=[.agg (aA (rR wd fl pt)).toArray,iI C]) (c:=oP) rfl ⟨rfl,rfl,trivial⟩ (Nat.le_of_ble_eq_true (by kernel_rfl)) fun a w hA => ?_
 rw[Ub]at hA;rw[Cd];refine wp_seq (aB aI hT hG (Ua wd fl pt C) trivial hA fun a w hA => ?_);obtain⟨bb,hA⟩:=hA.at (k:=2) (l:=rR wd fl pt) (by simp);obtain⟨cb,hA⟩:=hA.at (k:=3) (l:=[.c (iI C)]) (by simp);refine wp_seq (aB aI hT hG (Tz wd fl pt C bb cb) trivial hA fun a w hA=>wp_ret ?_);exact cT (l:=[.im (Dp bb cb)]) (r:=.one (.im (Dp bb cb))) (by kernel_rfl) (by kernel_rfl) hA ⟨bb,cb,rfl,hA.below,hA.old (k:=2) (by simp) (by simp),hA.old (k:=3) (by simp) (by simp)⟩
noncomputable abbrev csF:Func:=f108
def nJ:Code:=(f108.body).getD .skip
def cs1:Code:=cA (cB nJ)
def csX:Code:=cA (cB (cB nJ))
def csY:Code:=cB (cB (cB nJ))
def Ts:Code:=kD (cB csX)
def Bv:Code:=cA (Pd Ts)
def Bu:Code:=cB (Pd Ts)
def BW:Code:=kD (rfB Ts)
theorem Kg:nJ=.seq (cA nJ) (.seq (.region 1 (aD cs1) false) (.seq (.seq (.region 2 (aD (cA csX)) false) (.block 0 (.rangeFunc (.tmp 18) #[19,20] (.seq (.region 3 (aD Bv) false) (.region 4 (aD Bu) false)) (.block 1 (.region 5 (aD BW) false))))) (.seq (.region 6 (aD (cA csY)) false) .ret))):=by kernel_rfl
theorem aBE:csF.ntmps=26:=by kernel_rfl
def sA (C:Nat):List At:=bP (fun _=>[.q 0]) 0 C
def xMk (C:Nat):Ext:={ Ext.none with mks:=assoc [(14,(C,sA C))],T2:=Dt,T3:=Dg,T4:=Dr,T5:=kI,T6:=Ds }
theorem Np (C:Nat) (base:Nat) (w:World):bO prog { qG prog with x:=xMk C } base w :=
 ⟨(aW _).1,iZ (fun b o l h=>h.elim) (fun w' _=>FrAt.none _ _) (fun w' _=>FsAt.none _ _)⟩
theorem aBA (wd fl pt:Nat):bE prog (qG prog) 26 (fun _=>tC T0 fun _=>none) 60 (cA nJ) (fT 0 [.v (.fl (rR wd fl pt))]) [.slot 1 (.pt 1 0),.row 1 true (rR wd fl pt)]=some ([],.nrm,[.slot 1 (.pt 1 0),.row 1 true (rR wd fl pt)]):=by kernel_rfl
theorem aBG (wd fl pt S C:Nat):eH prog { qG prog with x:=xMk C } 26 (tC T0 (assoc [(12,iI S),(13,iI C)])) ((aD cs1).extract 0 9) [.slot 1 (.pt 1 0),.row 1 true (rR wd fl pt)] [.slot 14 (.sl 14 0 C C),.row 14 true (sA C),.slot 1 (.pt 1 0),.row 1 true (rR wd fl pt)]=some ([aN .add .i64 (Int.ofNat fl) (Int.ofNat pt)=some (iI S),aN .mul .i64 (Int.ofNat wd) (Int.ofNat S)=some (iI C),∃e,∀w:World,(Instr.makeSlice 92 (iI C) (iI C)).run prog w=.ok (.slice (some ⟨w.heap.size,0,none⟩) C C) (w.alloc (.cells (aA (sA C)).toArray e))],[.slot 14 (.sl 14 0 C C),.row 14 true (sA C),.slot 1 (.pt 1 0),.row 1 true (rR wd fl pt)]):=by kernel_rfl
theorem aBF (b1 bl C:Nat):eH prog (qG prog) 26 (tC T0 fun _=>none) ((aD cs1).extract 9 11) [.slot 14 (.im (aV bl 0 C C)),.slot 1 (.im (ptV b1 0))] [.slot 3 (.pt 3 0),.row 3 true [.c (aV bl 0 C C)],.slot 1 (.im (ptV b1 0))]=some ([],[.slot 3 (.pt 3 0),.row 3 true [.c (aV bl 0 C C)],.slot 1 (.im (ptV b1 0))]):=by kernel_rfl
theorem aFy (w:World) (wd fl pt b1 b3 bl C:Nat):eH prog { qG prog with x:=xO w (fun _=>none) (assoc [(15,rR wd fl pt)]) (assoc [(16,aV bl 0 C C)]) } 26 (tC T0 fun _=>none) ((aD (cA csX)).extract 0 3) [.slot 1 (.im (ptV b1 0)),.slot 3 (.im (ptV b3 0))] [.slot 15 (.fl (rR wd fl pt)),.slot 17 (.im (iI C)),.slot 3 (.im (ptV b3 0))]=some ([oldOf w b1 0 (rR wd fl pt),dD (rR wd fl pt)=3,oldOf w b3 0 [.c (aV bl 0 C C)]],[.slot 15 (.fl (rR wd fl pt)),.slot 17 (.im (iI C)),.slot 3 (.im (ptV b3 0))]):=by kernel_rfl
theorem aBD (i x b3:Nat):bE prog (qG prog) 26 (fun _=>tC T0 fun _=>none) 1 (.region 3 (aD Bv) false) [.slot 19 (.im (iI i)),.slot 20 (.fl [.q x]),.slot 3 (.im (ptV b3 0))] [.slot 4 (.im (iI i)),.slot 20 (.fl [.q x]),.slot 3 (.im (ptV b3 0))]=some ([],.nrm,[.slot 4 (.im (iI i)),.slot 20 (.fl [.q x]),.slot 3 (.im (ptV b3 0))]):=by kernel_rfl
theorem aBC (i x b3:Nat):bE prog (qG prog) 26 (fun _=>tC T0 fun _=>none) 1 (.region 4 (aD Bu) false) [.slot 4 (.im (iI i)),.slot 20 (.fl [.q x]),.slot 3 (.im (ptV b3 0))] [.slot 4 (.im (iI i)),.slot 5 (.pt 5 0),.row 5 true [.q x],.slot 3 (.im (ptV b3 0))]=some ([],.nrm,[.slot 4 (.im (iI i)),.slot 5 (.pt 5 0),.row 5 true [.q x],.slot 3 (.im (ptV b3 0))]):=by kernel_rfl
theorem aBB (w:World) (i x b3 b5 bl C:Nat):eH prog { qG prog with x:=xO w (assoc [(24,i)]) (assoc [(23,[.q x])]) (assoc [(21,aV bl 0 C C)]) } 26 (tC T0 fun _=>none) ((aD BW).extract 0 4) [.slot 4 (.im (iI i)),.slot 5 (.im (ptV b5 0)),.slot 3 (.im (ptV b3 0))] [.slot 24 (.im (ptV bl (0+i*4))),.slot 23 (.fl [.q x]),.slot 3 (.im (ptV b3 0))]=some ([oldOf w b3 0 [.c (aV bl 0 C C)],oldOf w b5 0 [.q x],dD [.q x]=4,Int.ofNat i=Int.ofNat i,i<C],[.slot 24 (.im (ptV bl (0+i*4))),.slot 23 (.fl [.q x]),.slot 3 (.im (ptV b3 0))]):=by kernel_rfl
theorem aBz (W:World) (b3 bl C:Nat):bE prog { qG prog with x:=xO W (fun _=>none) (fun _=>none) (assoc [(25,aV bl 0 C C)]) } 26 (fun _=>tC T0 fun _=>none) 1 (.region 6 (aD (cA csY)) false) [.slot 3 (.im (ptV b3 0))] [.slot 2 (.im (aV bl 0 C C))]=some ([oldOf W b3 0 [.c (aV bl 0 C C)]],.nrm,[.slot 2 (.im (aV bl 0 C C))]):=by kernel_rfl
theorem Own.putO {w:World} {b l:Nat} {row:List At} {r:Loop} {o:Obj} (h:Own w b row) (hl:w.heap[l]?=some (.loop r)) (hne:b≠l):Own (w.putObj l o) b row :=
 ⟨by rw[World.putObj_size]; exact h.lt,kQ hl hne h.row,fun j=>(kR hl (p:=⟨b,j,none⟩) hne).2.trans (h.free j)⟩
theorem Dbj.putO {w:World} {l:Nat} {r:Loop} {o:Obj} (h:Dbj w) (hl:w.heap[l]?=some (.loop r)) (hne:2≠l):Dbj (w.putObj l o):=fun j hj=>((kR hl (p:=⟨2,j,none⟩) hne).1).trans (h j hj)
theorem Oh:(prog.info? 27).map (·.size)=some 4:=by kernel_rfl
structure CJ (n0:Nat) (w0:World) (b3 bl C D:Nat) (xs:Nat→Nat) (rec:Loop) (r i:Nat) (W:World):Prop where
 below:Below n0 w0 W
 lst:Own W bl (mL (el xs) [.q 0] C i)
 box:Own W b3 [.c (aV bl 0 C C)]
 dj:Dbj W
 gl:2<n0
 n3:b3≠r
 nb:bl≠r
 n3b:b3≠bl
 d3:b3<D
 db:bl<D
 lb:n0≤bl
 hD:W.heap[D]?=some (.deferred (some []))
 hl:W.heap[D+1]?=some (.loop rec)
section
variable {n0:Nat} {w0:World} {b3 bl C D:Nat} {xs:Nat→Nat} {rec:Loop} {r i:Nat} {W W':World}
theorem CJ.wrc (h:CJ n0 w0 b3 bl C D xs rec r i W) (hn:n0≤r) (hW:WrC W W' r):CJ n0 w0 b3 bl C D xs rec r i W' :=
 ⟨h.below.trans (hW.below.mono hn),h.lst.wr hW h.nb,h.box.wr hW h.n3,h.dj.on (Nat.lt_of_lt_of_le h.gl hn) hW.below,h.gl,h.n3,h.nb,h.n3b,h.d3,h.db,h.lb,hW.shape.2.same _ _ h.hD rfl,hW.shape.2.same _ _ h.hl rfl⟩
theorem CJ.on (h:CJ n0 w0 b3 bl C D xs rec r i W) (hW:Below W.heap.size W W'):CJ n0 w0 b3 bl C D xs rec r i W' :=
 have hn:n0≤W.heap.size:=Nat.le_of_lt (Nat.lt_of_le_of_lt h.lb h.lst.lt)
 ⟨h.below.trans (hW.mono hn),h.lst.on hW,h.box.on hW,h.dj.on (Nat.lt_of_lt_of_le h.gl hn) hW,h.gl,h.n3,h.nb,h.n3b,h.d3,h.db,h.lb,(Shape.below hW).2.same _ _ h.hD rfl,(Shape.below hW).2.same _ _ h.hl rfl⟩
theorem Ks {row:List At} {a0:Act} (hJ:CJ n0 w0 b3 bl C D xs rec r i W) (hO:Own W r row) (hrD:D+1<r) (hi:i<C)
  (hr:rec.state=.ready) (hp:rec.pending=none) (hps:rec.params = #[19,20]) (ht:rec.tmps=a0.tmps) (hsz:a0.tmps.size=26) (h3:a0.tmps[3]?=some (ptV b3 0)) (has:rec.assign=.seq (.region 3 (aD Bv) false) (.region 4 (aD Bu) false)) (hbo:rec.body=.block 1 (.region 5 (aD BW) false)) :
  RoundIn Fence.wide 0 prog (D+1) rec.fn ((rec.params.zip (Vn i (xs i))).foldl (fun t (p,v)=>t.setIfInBounds p v) rec.tmps) rec.assign rec.body W fun e W'=>e=.returned (.bool true)∧CJ n0 w0 b3 bl C D xs rec r (i+1) W'∧Own W' r row:=by
 have htm:(rec.params.zip (Vn i (xs i))).foldl (fun t (p,v)=>t.setIfInBounds p v) rec.tmps=((a0.put (some 19) (iI i)).put (some 20) (.agg (aA [At.q (xs i)]).toArray)).tmps:=by
  rw[hps,ht]; simp[Act.put,Vn]
 rw[htm,has,hbo];have hH:Holds 26 W.heap.size W [.slot 19 (.im (iI i)),.slot 20 (.fl [.q (xs i)]),.slot 3 (.im (ptV b3 0))] { tmps:=((a0.put (some 19) (iI i)).put (some 20) (.agg (aA [At.q (xs i)]).toArray)).tmps,defers:=[] } W :=
  qE (ts:=[(19,.im (iI i)),(20,.fl [.q (xs i)]),(3,.im (ptV b3 0))]) rfl (by show ((a0.put (some 19) _).put (some 20) _).tmps.size=26; rw[aG,aG,hsz]) (fun x hx=>by
   simp only[List.mem_cons,List.not_mem_nil,or_false]at hx
   rcases hx with rfl|rfl|rfl
   ·exact aS (aY _ _ _ (by rw[hsz]; decide)) (by simp)
   ·exact aY _ _ _ (by rw[aG,hsz]; decide)
   ·exact aS (aS h3 (by simp)) (by simp))
 have hT:∀base w,∀d:Nat,TabOkW prog T0 base w:=fun _ _ _=>(bT _).w _ _
 have hG:∀base w,bO prog (qG prog) base w:=fun _ _=>(aW _).w _ _
 refine DN (K0:=fun a w=>Holds 26 W.heap.size W [.slot 4 (.im (iI i)),.slot 5 (.pt 5 0),.row 5 true [.q (xs i)],.slot 3 (.im (ptV b3 0))] a w)
  (wpIn_seq (JT (c:=tC T0 _) aI (hT _ _) (hG _ _) (aBD i (xs i) b3) trivial (by kernel_rfl) hH fun a w hA=>JT (c:=tC T0 _) aI (hT _ _) (hG _ _) (aBC i (xs i) b3) trivial (by kernel_rfl) hA fun a w hA=>⟨rfl,hA⟩)) fun a1 w1 hA1 => ?_
 obtain⟨b5,hA1⟩:=hA1.at (k:=5) (l:=[.q (xs i)]) (by simp);have hb1:=hA1.below;have hJ1:=hJ.on hb1;have hO1:=hO.on hb1;have h5:oldOf w1 b5 0 [.q (xs i)]:=hA1.old (k:=5) (by simp) (by simp);have h5g:W.heap.size≤b5:=hA1.geq (k:=5) (l:=[.q (xs i)]) (by simp) (by simp);have hDW:D+1<W.heap.size:=(Array.getElem?_eq_some_iff.1 hJ.hl).1;refine⟨rec,hJ1.hl,hr,?_⟩;have hl1:=hJ1.hl;have hlt1:D+1<w1.heap.size:=(Array.getElem?_eq_some_iff.1 hl1).1;have hgD:2≠D+1:=fun e=>by have:=hJ.gl; have:=hJ.lb; have:=hJ.db; omega
 have hbD:bl≠D+1:=fun e=>by have:=hJ.db; omega
 have h3D:b3≠D+1:=fun e=>by have:=hJ.d3; omega
 have hrD':r≠D+1:=fun e=>by omega
 have hn0:n0≤D+1:=by have:=hJ.lb; have:=hJ.db; omega
 generalize hw2:w1.putObj (D+1) (.loop { rec with state:=.busy })=w2;have hl2:w2.heap[D+1]?=some (.loop { rec with state:=.busy }):=by rw[←hw2]; exact World.putObj_heap_same hlt1
 have hE2:Own w2 bl (mL (el xs) [.q 0] C i):=by rw[←hw2]; exact hJ1.lst.putO hl1 hbD
 have hX2:Own w2 b3 [.c (aV bl 0 C C)]:=by rw[←hw2]; exact hJ1.box.putO hl1 h3D
 have hO2:Own w2 r row:=by rw[←hw2]; exact hO1.putO hl1 hrD'
 have hG2:Dbj w2:=by rw[←hw2]; exact hJ1.dj.putO hl1 hgD
 have hB2:Below n0 w0 w2:=by rw[←hw2]; exact fZ hJ1.below hn0 _
 have hD2:w2.heap[D]?=some (.deferred (some [])):=by rw[←hw2]; exact (World.putObj_heap_other (by omega)).trans hJ1.hD
 have h52:oldOf w2 b5 0 [.q (xs i)]:=by rw[←hw2]; exact⟨by rw[World.putObj_size]; exact h5.1,kQ hl1 (by omega) h5.2⟩
 have hS2:=bB (nt:=26) (w:=w2) (a:=a1) (ts:=[(4,iI i),(5,ptV b5 0),(3,ptV b3 0)]) hA1.defers hA1.size (fun x hx=>by
  simp only[List.mem_cons,List.not_mem_nil,or_false]at hx
  rcases hx with rfl|rfl|rfl
  ·exact hA1.slot (by simp)
  ·exact hA1.ptS (s:=5) (k:=5) (o:=0) (by simp) (by simp)
  ·exact hA1.slot (by simp))
 clear hA1 hw2;refine wpIn_block (wpIn_region ?_);rw[show List.range (aD BW).size=List.range' 0 ((aD BW).extract 0 4).size++(4::[]) by kernel_rfl];refine qO (c:=tC T0 _) (hT _ _) (eK w2 _ _ _) (aBB w2 i (xs i) b3 b5 bl C) ⟨hX2.old rfl,h52,rfl,rfl,hi,trivial⟩ (by kernel_rfl) (by kernel_rfl) hS2 fun a3 w3 hA3 => ?_
 have hb3:=hA3.below;have hE3:=hE2.on hb3;have hX3:=hX2.on hb3;have hO3:=hO2.on hb3;have hn2:n0≤w2.heap.size:=Nat.le_of_lt (Nat.lt_of_le_of_lt hJ.lb hE2.lt);have hG3:=hG2.on (Nat.lt_of_lt_of_le hJ.gl hn2) hb3;have hB3:=hB2.trans (hb3.mono hn2);have hl3:=(Shape.below hb3).2.same _ _ hl2 rfl;have hD3:=(Shape.below hb3).2.same _ _ hD2 rfl;obtain⟨o4,ho4,hop4,hd4,hg4⟩:∃x,(aD BW)[4]?=some x∧x.op=.store 27 (.tmp 24) (.tmp 23)∧x.dst=none∧x.guard=none:=⟨_,rfl,rfl,rfl,rfl⟩
 have hput:put (mL (el xs) [.q 0] C i) (0+i*4) [.q (xs i)]=some (mL (el xs) [.q 0] C (i+1)):=EB (f:=el xs) (c:=4) (fun _=>rfl) rfl hi (Nat.zero_add _);obtain⟨hE4,hW4⟩:=hE3.set hput;have hfs:dD (mL (el xs) [.q 0] C i)=C*4:=by
  unfold mL;rw[lY,fJ (c:=4) (fun _=>rfl),fJ (c:=4) (fun _=>rfl),←Nat.add_mul,show i+(C-i)=C by omega]
 refine AS ho4 hg4 (KH (Q:=fun _ _ _=>False) (K:=fun a w=>wpOpsIn (rF (some (D+1))) 0 prog (aD BW) _ [] a w) (fun c e=>by rw[hop4]at e; cases e) (fun _ _ h=>h) (fun⟨_,_,h⟩=>h) (fun _ _ _ _ h=>h.elim)
  (eT (v:=.agg (aA [At.q (xs i)]).toArray) (vs:=aA [At.q (xs i)]) hop4 hd4 (hA3.imV (s:=24) (v:=ptV bl (0+i*4)) (by simp)) (cU (hA3.slotF (s:=23) (by simp))) rfl (by simp[aA,At.cells,w4,Value.oneCell']) Oh (hE3.there (o:=0+i*4) (n:=4) (by rw[hfs]; omega)) ?_))
 generalize w3.setCells bl (0+i*4) (aA [At.q (xs i)])=w4 at *;have hl4:=hW4.shape.2.same _ _ hl3 rfl;have hlt4:D+1<w4.heap.size:=(Array.getElem?_eq_some_iff.1 hl4).1;refine⟨rfl,_,hl4,rfl,⟨fZ (hB3.trans (hW4.below.mono hJ.lb)) hn0 _,hE4.putO hl4 hbD,(hX3.wr hW4 hJ.n3b).putO hl4 h3D,(hG3.on (Nat.lt_of_lt_of_le hJ.gl hJ.lb) hW4.below).putO hl4 hgD,hJ.gl,hJ.n3,hJ.nb,hJ.n3b,hJ.d3,hJ.db,hJ.lb,?_,?_⟩,(hO3.wr hW4 hJ.nb.symm).putO hl4 hrD'⟩
 ·exact (World.putObj_heap_other (by omega)).trans (hW4.shape.2.same _ _ hD3 rfl)
 ·rw[World.putObj_heap_same hlt4];obtain⟨s,pe,fn,tm,pa,sg,bo,de⟩:=rec;cases hr; cases hp;rfl
end
theorem KL {a b:Nat} (h:a*b<4611686018427387904):aN .mul .i64 (Int.ofNat a) (Int.ofNat b)=some (iI (a*b)):=by
 show some (Value.int .i64 (IntKind.i64.wrap ((a:Int)*(b:Int))))=_;rw[←Int.natCast_mul,jZ (by omega)];rfl
theorem sO {a b:Nat} (h:a+b<4611686018427387904):aN .add .i64 (Int.ofNat a) (Int.ofNat b)=some (iI (a+b)):=by
 show some (Value.int .i64 (IntKind.i64.wrap ((a:Int)+(b:Int))))=_;rw[←Int.natCast_add,jZ (by omega)];rfl
theorem uD:xB (aA [At.q 0]) (.int .u64 0):=by unfold xB; kernel_rfl
theorem Bt {w0:World} {wd fl pt:Nat} {xs:Nat→Nat} {fu:Nat} {sq:Nat→St} (b1:wd<4611686018427387904) (b2:fl<4611686018427387904) (b3':pt<4611686018427387904) (hC:wd*(fl+pt)≤131072) (hs:fl+pt≤131072)
  (h0:sq 0=IW wd fl pt) (hx:∀i,i<wd*(fl+pt)→xV fu (sq i)=some (xs i,sq (i+1))) (hDj:Dbj w0) :
  Calls prog 108 [.agg (aA (rR wd fl pt)).toArray].toArray w0 (fun e w'=>FR.ok ⟨bP (el xs) 0 (wd*(fl+pt)),wd*(fl+pt),wd*(fl+pt),[]⟩ w0 e w'):=by
 obtain⟨C,hCe⟩:∃C,wd*(fl+pt)=C:=⟨_,rfl⟩
 have hG:∀base w,bO prog (qG prog) base w:=fun _ _=>(aW _).w _ _
 have hT:∀base w,∀n d:Nat,TabOkW prog T0 base w:=fun _ _ _ _=>(bT _).w _ _
 have hnt:=aBE;refine (callsIn_wide (n:=0)).1 (callsIn_of_wp_marks (F:=Fence.wide) func108 (c:=nJ) rfl trivial ?_);refine wpIn_wide.2 ?_;have hA:Holds csF.ntmps w0.heap.size w0 (fT 0 [.v (.fl (rR wd fl pt))]) _ w0:=jU (nt:=csF.ntmps) (cs:=[.v (.fl (rR wd fl pt))]) (args:=[.agg (aA (rR wd fl pt)).toArray]) (w:=w0) ⟨rfl,trivial⟩ (Nat.le_of_ble_eq_true (by kernel_rfl));rw[hnt]at hA;generalize ha0:({ tmps:=[Value.agg (aA (rR wd fl pt)).toArray].toArray++Array.replicate (26-[Value.agg (aA (rR wd fl pt)).toArray].toArray.size) undef,defers:=[] }:Act)=a0 at hA;show nJ.wp prog _ { tmps:=[Value.agg (aA (rR wd fl pt)).toArray].toArray++Array.replicate (csF.ntmps-[Value.agg (aA (rR wd fl pt)).toArray].toArray.size) undef,defers:=[] } w0;rw[hnt,ha0,Kg];clear ha0;refine wp_seq (aB aI (hT _ _) (hG _ _) (aBA wd fl pt) trivial hA fun a w hA => ?_);refine wp_seq (bQ (l:=List.range' 0 ((aD cs1).extract 0 9).size++(List.range' 9 ((aD cs1).extract 9 11).size++[])) (by kernel_rfl) ?_);refine aU (c:=tC T0 _) (hT _ _ 0) (Np C _ _) (aBG wd fl pt (fl+pt) C) ⟨sO (by omega),by rw[←hCe]; exact KL (by omega),PA (t:=92) (e:=27) (z:=[.q 0]) (v:=.int .u64 0) (n:=4) (by8:=32) (by kernel_rfl) (by kernel_rfl) rfl uD (by omega) (by omega) (by omega),trivial⟩ (by kernel_rfl) hA fun a w hA => ?_
 obtain⟨bl,hA⟩:=hA.at (k:=14) (l:=sA C) (by simp);obtain⟨b1,hA⟩:=hA.at (k:=1) (l:=rR wd fl pt) (by simp);have m1:oldOf w b1 0 (rR wd fl pt):=hA.old (k:=1) (by simp) (by simp);have ml:Own w bl (sA C):=hA.own (k:=14) (by simp) (by simp);have hlb:w0.heap.size≤bl:=hA.geq (k:=14) (l:=sA C) (by simp) (by simp);have hbl:=hA.below;have hS:=bB (nt:=26) (w:=w) (a:=a) (ts:=[(14,aV bl 0 C C),(1,ptV b1 0)]) hA.defers hA.size (fun x hx=>by
  simp only[List.mem_cons,List.not_mem_nil,or_false]at hx
  rcases hx with rfl|rfl
  ·exact (hA.im (s:=14) (k:=14) (o:=0) (n:=C) (m:=C) (b:=bl) (by simp) (by simp)).slot (by simp)
  ·exact hA.ptS (s:=1) (k:=1) (o:=0) (by simp) (by simp))
 clear hA;refine aU (c:=tC T0 _) (hT _ _ 0) (hG _ _) (aBF b1 bl C) trivial (by kernel_rfl) hS fun a w2 hA => ?_
 obtain⟨b3,hA⟩:=hA.at (k:=3) (l:=[.c (aV bl 0 C C)]) (by simp);have hb3:w.heap.size≤b3:=hA.geq (k:=3) (l:=[.c (aV bl 0 C C)]) (by simp) (by simp);have hl3:bl<b3:=Nat.lt_of_lt_of_le ml.lt hb3;have m3:Own w2 b3 [.c (aV bl 0 C C)]:=hA.own (k:=3) (by simp) (by simp);have m1:=m1.on hA.below;have ml:=ml.on hA.below;have hbl:=hbl.trans (hA.below.mono hbl.size);have hS:=bB (nt:=26) (w:=w2) (a:=a) (ts:=[(1,ptV b1 0),(3,ptV b3 0)]) hA.defers hA.size (fun x hx=>by
  simp only[List.mem_cons,List.not_mem_nil,or_false]at hx
  rcases hx with rfl|rfl
  ·exact hA.slot (by simp)
  ·exact hA.ptS (s:=3) (k:=3) (o:=0) (by simp) (by simp))
 clear hA;show (Code.seq _ _).wp _ _ _ _;refine wp_seq (wp_seq (bQ (l:=List.range' 0 ((aD (cA csX)).extract 0 3).size++(3::[])) (by kernel_rfl) ?_));refine aU (c:=tC T0 _) (hT _ _ 0) (eK w2 _ _ _) (aFy w2 wd fl pt b1 b3 bl C) ⟨m1,rfl,m3.old rfl,trivial⟩ (by kernel_rfl) hS fun a4 w4 hA4 => ?_
 clear hS;obtain⟨o1,ho1,⟨ts1,hop1⟩,hd1,hg1⟩:∃x,(aD (cA csX))[3]?=some x∧(∃ts,x.op=.call ⟨.value (.func 122),#[.tmp 15,.tmp 17],ts⟩)∧x.dst=some 18∧x.guard=none:=⟨_,rfl,⟨_,rfl⟩,rfl,rfl⟩
 refine bM ho1 hg1 (dI hop1 (vs:=[.agg (aA (rR wd fl pt)).toArray,iI C]) (List.cons_eq_cons.2 ⟨cU (hA4.slotF (s:=15) (by simp)),List.cons_eq_cons.2 ⟨cU (hA4.slot (s:=17) (by simp)),rfl⟩⟩) (fun args=>bR func122 (by kernel_rfl) (by kernel_rfl) args _) (TJ w4 wd fl pt C) fun e w5 hr => ?_);obtain⟨bb,cb,rfl,hb5,hbox,hcb⟩:=hr;refine⟨_,rfl,?_⟩;rw[hd1];have hb4:=hA4.below;have ml5:=(ml.on hb4).on hb5;have m35:=(m3.on hb4).on hb5;have hB5:Below w0.heap.size w0 w5:=(hbl.trans (hb4.mono hbl.size)).trans (hb5.mono (Nat.le_trans hbl.size hb4.size));have h35:=aS (d:=18) (u:=Dp bb cb) (hA4.slot (s:=3) (v:=ptV b3 0) (by simp)) (by decide);have h18:=aY a4 18 (Dp bb cb) (by rw[hA4.size]; decide);have hd5:(a4.put (some 18) (Dp bb cb)).defers=[]:=hA4.defers;have hsz5:(a4.put (some 18) (Dp bb cb)).tmps.size=26:=by rw[aG]; exact hA4.size
 generalize a4.put (some 18) (Dp bb cb)=a5 at *;clear hA4 m1 ml m3;show (Code.block 0 _).wp _ _ _ _;refine wp_block ?_;have hn5:w0.heap.size≤w5.heap.size:=hB5.size;have hgl:2<w0.heap.size:=hDj.lt;have hD5:Dbj w5:=hDj.on hgl hB5;refine xX (gf:=138) (lb:=#[ptV bb 0,ptV cb 0]) (cU h18) (fun args w=>bR func138 (by kernel_rfl) (by kernel_rfl) args w) fun fn => ?_
 generalize hrec:({ state:=.ready,pending:=none,fn,tmps:=a5.tmps,params:=#[19,20],assign:=.seq (.region 3 (aD Bv) false) (.region 4 (aD Bu) false),body:=.block 1 (.region 5 (aD BW) false),defers:=w5.heap.size }:Loop)=rec;have r1:rec.state=.ready:=by rw[←hrec]
 have r2:rec.pending=none:=by rw[←hrec]
 have r3:rec.params = #[19,20]:=by rw[←hrec]
 have r4:rec.tmps=a5.tmps:=by rw[←hrec]
 have r5:rec.assign=.seq (.region 3 (aD Bv) false) (.region 4 (aD Bu) false):=by rw[←hrec]
 have r6:rec.body=.block 1 (.region 5 (aD BW) false):=by rw[←hrec]
 clear hrec;obtain⟨W1,hW1⟩:∃W1,(w5.alloc (.deferred (some []))).alloc (.loop rec)=W1:=⟨_,rfl⟩
 rw[hW1];have hb6:Below w5.heap.size w5 W1:=by rw[←hW1]; exact ((Below.refl _ w5).alloc (Nat.le_refl _) _).alloc (by simp) _
 have hD1:W1.heap[w5.heap.size]?=some (.deferred (some [])):=by
  rw[←hW1]; exact (Below.heap_alloc _ _ _ (by simp)).trans (World.alloc_heap_new w5 _)
 have hL1:W1.heap[w5.heap.size+1]?=some (.loop rec):=by
  rw[←hW1]; have:=World.alloc_heap_new (w5.alloc (.deferred (some []))) (.loop rec); rwa [World.size_alloc]at this
 have hz1:W1.heap.size=w5.heap.size+2:=by rw[←hW1]; simp
 clear hW1;have hlst:Own W1 bl (mL (el xs) [.q 0] C 0):=by rw[ZG]; exact ml5.on hb6
 have hJ1:∀r,W1.heap.size≤r→CJ w0.heap.size w0 b3 bl C w5.heap.size xs rec r 0 W1:=fun r hr =>
  ⟨hB5.trans (hb6.mono hn5),hlst,m35.on hb6,hD5.on (Nat.lt_of_lt_of_le hgl hn5) hb6,hgl,by have:=m35.lt; omega,by have:=ml5.lt; omega,by omega,m35.lt,ml5.lt,hlb,hD1,hL1⟩
 refine Calls.mono (Bz (l:=w5.heap.size+1) (bb:=bb) (cb:=cb) (W1:=W1) (C:=C) (xs:=xs) (sq:=sq) (oldOf.go hb6 (Nat.le_refl _) hbox) (oldOf.go hb6 (Nat.le_refl _) hcb) ‹_› b2 b3' (by omega) (by rw[hz1]; exact Nat.lt_of_lt_of_le hgl (Nat.le_trans hn5 (Nat.le_add_right _ _))) h0 (by rw[←hCe]; exact hx) (fun r i W=>CJ w0.heap.size w0 b3 bl C w5.heap.size xs rec r i W)
  (fun r i W h=>h.dj) (fun r W h1 h2 _ _=>(hJ1 r h1).on h2) (fun r i W W' h1 h2 h3=>h2.wrc (by omega) h3) (fun r i W h1 h2 h3 h4=>⟨rec,h3.hl,by rw[r3]; rfl,Ks (a0:=a5) h3 h4 (by omega) h2 r1 r2 r3 r4 hsz5 h35 r5 r6⟩)) ?_
 rintro e W' ⟨⟨u,rfl⟩,r,hJ⟩
 refine⟨u,rec,rfl,hJ.hl,by rw[r1]; simp,r2,?_⟩;generalize hrx:({ rec with state:=.exhausted }:Loop)=rx;have hlt:w5.heap.size+1<W'.heap.size:=(Array.getElem?_eq_some_iff.1 hJ.hl).1;have hB7:=fZ (o:=.loop rx) hJ.below (l:=w5.heap.size+1) (by omega);have hE7:=hJ.lst.putO (o:=.loop rx) hJ.hl (by have:=hJ.db; omega);have hX7:=hJ.box.putO (o:=.loop rx) hJ.hl (by have:=hJ.d3; omega);have hD7:(W'.putObj (w5.heap.size+1) (.loop rx)).heap[w5.heap.size]?=some (.deferred (some [])):=(World.putObj_heap_other (by omega)).trans hJ.hD;have hdb:=hJ.db;generalize W'.putObj (w5.heap.size+1) (.loop rx)=w7 at *;show (Code.seq _ _).wp _ _ _ _;rw[hd5];have hA7:Holds 26 w7.heap.size w7 [.slot 3 (.im (ptV b3 0))] a5 w7:=bB (ts:=[(3,ptV b3 0)]) hd5 hsz5 (fun x hx=>by
  simp only[List.mem_cons,List.not_mem_nil,or_false]at hx
  rcases hx with rfl
  exact h35)
 refine wp_seq (WR (c:=tC T0 _) aI (hT _ _ 0) (eK w7 _ _ _) (aBz w7 b3 bl C) ⟨hX7.old rfl,trivial⟩ (by kernel_rfl) hA7 fun a8 w8 hA8 => ?_);refine wp_ret ?_;have hb8:=hA8.below;have hE8:=hE7.on hb8;have hD8:=(Shape.below hb8).2.same _ _ hD7 rfl;have hB8:Below w0.heap.size w0 w8:=hB7.trans (hb8.mono hB7.size);refine⟨by simp,.inl ⟨w5.heap.size,_,rfl,run_takeDeferred hD8,?_⟩⟩;have hbD:bl≠w5.heap.size:=by omega
 rw[ZF]at hE8;rw[hCe];refine⟨_,qI (s:=2) (by kernel_rfl) (hA8.slot (s:=2) (v:=aV bl 0 C C) (by simp)),bl,rfl,fZ hB8 (by omega) _,hlb,by rw[World.putObj_size]; exact hE8.lt,fun j v hj => ?_,fun j => ?_⟩
 ·exact (World.cell?_of_block (World.putObj_heap_other hbD)).trans (hE8.row j v hj)
 ·exact (World.frozen?_of_block (World.putObj_heap_other hbD)).trans (hE8.free j)
end Go.Proofs.YtpbljiejmfahcaaGreatDoor.Ex
namespace Go.Proofs.YtpbljiejmfahcaaGreatDoor
open Go.Proofs.Tryz
open Go.ChangeShapes Go.WideShapes Go.ChangeAt Go.RowKit
def LAt (w:World) (g off len:Nat) (A:Nat→Nat→Nat):Prop:=∀k,k<len →
 w.cell? ⟨g,off+k*4,none⟩=some (.int .u64 (A k 0))∧w.cell? ⟨g,off+k*4+1,none⟩=some (.int .u64 (A k 1)) ∧
 w.cell? ⟨g,off+k*4+2,none⟩=some (.int .u64 (A k 2))∧w.cell? ⟨g,off+k*4+3,none⟩=some (.int .u64 (A k 3))
def LOk (len:Nat) (A:Nat→Nat→Nat):Prop:=∀k,k<len→cC (A k 0) (A k 1) (A k 2) (A k 3)
theorem LAt.same {w w':World} {g off len:Nat} {A:Nat→Nat→Nat} {B:Nat} (h:LAt w g off len A) (hg:0<len→g<B) (hb:Below B w w'):LAt w' g off len A :=
 fun k hk=>have hg:=hg (Nat.lt_of_le_of_lt (Nat.zero_le _) hk); ⟨(hb.cell (p:=⟨g,off+k*4,none⟩) hg).trans (h k hk).1,(hb.cell (p:=⟨g,off+k*4+1,none⟩) hg).trans (h k hk).2.1,
  (hb.cell (p:=⟨g,off+k*4+2,none⟩) hg).trans (h k hk).2.2.1,(hb.cell (p:=⟨g,off+k*4+3,none⟩) hg).trans (h k hk).2.2.2⟩
set_option maxHeartbeats 1000000 in
theorem rG (F:FC) (hF:F.Ok) (b g off len cap:Nat) (A:Nat→Nat→Nat) (hA:LOk len A) (hm:len≤9223372036854775807) (w:World) (hk:KIs w b F) (hg:0<len→g<w.heap.size) (hl:LAt w g off len A) :
  Calls prog 141 #[.pointer (some ⟨b,0,none⟩),.slice (some ⟨g,off,none⟩) len cap] w fun e w'=>(∃t:Bool,e=.returned (.bool t)∧(t=true↔∀k,k<len→aC (A k 0) (A k 1) (A k 2) (A k 3)<F.M))∧Below w.heap.size w w':=by
 have HK:=Lib.hid hk;have HL:=Lib.hid hl;have HG:=Lib.hid hg;clear hg;have HA:=Lib.hid hA;have HF:=Lib.hid hF;clear hk hl hA hF
 go_enter func141,ntmps141
 go_wp2_with fail
 go_loopw [9] (fun t wr=>∃k:Nat,k≤len∧t=.int .i64 k∧Hid (∀j,j<k→aC (A j 0) (A j 1) (A j 2) (A j 3)<F.M)∧Below w.heap.size w wr) (fun t _=>len-(intOf t).toNat)
 case atStart=>exact⟨0,Nat.zero_le _,rfl,Lib.hid (fun j h=>absurd h (by omega)),Below.refl _ _⟩
 case round =>
  obtain⟨k,hk,rfl,ha,hbl⟩:=hrel
  by_cases hlt:k<len
  ·obtain⟨a0,a1,a2,a3,e0,e1,e2,e3⟩:∃a0 a1 a2 a3:Nat,a0=A k 0∧a1=A k 1∧a2=A k 2∧a3=A k 3:=⟨_,_,_,_,rfl,rfl,rfl,rfl⟩
   have hc:=(HL.out.same HG.out hbl) k hlt;have hok:=HA.out k hlt;rw[←e0,←e1,←e2,←e3]at hc hok;have c0:=hc.1; have c1:=hc.2.1; have c2:=hc.2.2.1; have c3:=hc.2.2.2;clear hc;have HB:=Lib.hid hbl;have HR:=Lib.hid (HK.out.same hbl);clear hbl;have HE:=Lib.hid (And.intro e0 (And.intro e1 (And.intro e2 e3)));have HO:=Lib.hid hok;clear e0 e1 e2 e3 hok;have hsz:w.heap.size≤wr.heap.size:=HB.out.size;go_wp2_with fail;refine (eP F HF.out b a0 a1 a2 a3 HO.out _ (HR.out.same ((Below.refl _ _).alloc (Nat.le_refl _) _))).mono ?_
   rintro e w2 ⟨rfl,hb2⟩
   have HW:=Lib.hid ((HB.out.alloc hsz (.cells #[.int .u64 a0,.int .u64 a1,.int .u64 a2,.int .u64 a3] 27)).trans (hb2.mono (by simp; omega)));clear hb2 c0 c1 c2 c3
   by_cases hv:aC a0 a1 a2 a3<F.M
   ·rw[show LC (aC a0 a1 a2 a3) F.M=true from decide_eq_true hv];have HN:=Lib.hid (show ∀j,j<k+1→aC (A j 0) (A j 1) (A j 2) (A j 3)<F.M from fun j h=>by
     by_cases e:j=k
     ·subst e; rw[←HE.out.1,←HE.out.2.1,←HE.out.2.2.1,←HE.out.2.2.2]; exact hv
     ·exact ha.out j (by omega))
    clear hv;go_wp2_with fail
    go_round
    case rel=>exact⟨k+1,by omega,by go_num,HN,HW.out⟩
    case measure=>simp[intOf]; omega
   ·rw[show LC (aC a0 a1 a2 a3) F.M=false from decide_eq_false hv];have HN:=Lib.hid (show ¬ ∀j,j<len→aC (A j 0) (A j 1) (A j 2) (A j 3)<F.M from fun h=>hv (by
     have:=h k hlt
     rwa [←HE.out.1,←HE.out.2.1,←HE.out.2.2.1,←HE.out.2.2.2]at this))
    clear hv;go_wp2_with fail;go_ret;exact⟨⟨false,rfl,⟨fun h=>(by cases h),fun h=>absurd h HN.out⟩⟩,HW.out⟩
  ·obtain rfl:k=len:=by omega
   have HB:=Lib.hid hbl;clear hbl;go_wp2_with fail;go_ret;exact⟨⟨true,rfl,⟨fun _=>ha.out,fun _=>rfl⟩⟩,HB.out⟩
open Go.RowKit
theorem xR (n q:Nat) (h:q<n):(madeCells #[.int .u64 0,.int .u64 0,.int .u64 0,.int .u64 0] n)[q]?=some (.int .u64 0):=by
 simp only[madeCells,Array.getElem?_map,Array.getElem?_range,h,if_true,Option.map_some];have:q%4<4:=Nat.mod_lt _ (by omega);obtain⟨r,hr⟩:∃r,r=q%4:=⟨_,rfl⟩
 simp only[List.size_toArray,List.length_cons,List.length_nil,Nat.zero_add,Nat.reduceAdd,←hr];rw[←hr]at this
 rcases (show r=0∨r=1∨r=2∨r=3 by omega)with rfl|rfl|rfl|rfl<;>rfl
theorem SA:∃i:TypeInfo,prog.info? 104=some i∧i.zero=some (.agg #[.int .u64 0,.int .u64 0,.int .u64 0,.int .u64 0])∧i.size=4∧i.bytes=32:=by
 have h:(prog.info? 104).map (fun i=>(i.zero,i.size,i.bytes))=some (some (.agg #[.int .u64 0,.int .u64 0,.int .u64 0,.int .u64 0]),4,32):=by kernel_rfl
 match hi:prog.info? 104 with
 | none=>rw[hi]at h; cases h
 | some i =>
  rw[hi]at h;simp only[Option.map_some,Option.some.injEq,Prod.mk.injEq]at h;exact⟨i,rfl,h.1,h.2.1,h.2.2⟩
theorem Jp:∃i:TypeInfo,prog.info? 27=some i∧i.zero=some (.agg #[.int .u64 0,.int .u64 0,.int .u64 0,.int .u64 0])∧i.size=4∧i.bytes=32:=by
 have h:(prog.info? 27).map (fun i=>(i.zero,i.size,i.bytes))=some (some (.agg #[.int .u64 0,.int .u64 0,.int .u64 0,.int .u64 0]),4,32):=by kernel_rfl
 match hi:prog.info? 27 with
 | none=>rw[hi]at h; cases h
 | some i =>
  rw[hi]at h;simp only[Option.map_some,Option.some.injEq,Prod.mk.injEq]at h;exact⟨i,rfl,h.1,h.2.1,h.2.2⟩
theorem FT (n:Nat) (t:TypeId) (w:World) (b:Nat) (hb:b=w.heap.size):RowIs (w.alloc (.cells (madeCells #[.int .u64 0,.int .u64 0,.int .u64 0,.int .u64 0] n) t)) b n (fun _=>0):=fun k hk=>by
 subst hb;refine⟨?_,World.frozen?_alloc_new _ _ _ _⟩;rw[World.cell?_alloc_new];exact xR n k hk
theorem Zf (n:Nat) (hn:n≤65536):∃o:Obj,(∀w,(Instr.makeSlice 192 (.int .i64 n) (.int .i64 n)).run prog w=.ok (.slice (some ⟨w.heap.size,0,none⟩) n n) (w.alloc o))∧(∀(w:World) (b:Nat),b=w.heap.size→RowIs (w.alloc o) b (n*4) (fun _=>0)):=by
 obtain⟨i,hi,hz,hs,hb⟩:=SA;refine⟨.cells (madeCells #[.int .u64 0,.int .u64 0,.int .u64 0,.int .u64 0] (n*4)) 104,fun w => ?_,fun w b hb=>FT _ _ w b hb⟩;have h:=run_make (P:=prog) w 192 104 i _ (by kernel_rfl) hi hz .i64 .i64 n n (by omega) (Int.le_refl _) (by rw[hb]; omega) (by omega);rw[hs]at h;simpa only[Int.toNat_natCast,Value.cells]using h
theorem Zg (n:Nat) (hn:n≤65536):∃o:Obj,(∀w,(Instr.makeSlice 92 (.int .i64 n) (.int .i64 n)).run prog w=.ok (.slice (some ⟨w.heap.size,0,none⟩) n n) (w.alloc o))∧(∀(w:World) (b:Nat),b=w.heap.size→RowIs (w.alloc o) b (n*4) (fun _=>0)):=by
 obtain⟨i,hi,hz,hs,hb⟩:=Jp;refine⟨.cells (madeCells #[.int .u64 0,.int .u64 0,.int .u64 0,.int .u64 0] (n*4)) 27,fun w => ?_,fun w b hb=>FT _ _ w b hb⟩;have h:=run_make (P:=prog) w 92 27 i _ (by kernel_rfl) hi hz .i64 .i64 n n (by omega) (Int.le_refl _) (by rw[hb]; omega) (by omega);rw[hs]at h;simpa only[Int.toNat_natCast,Value.cells]using h
def pU (M:Nat) (A:Nat→Nat):Nat→Nat
 | 0=>1
 | k+1=>if A k=0 then pU M A k else pU M A k*A k%M
theorem KC {M g:Nat} (hr:Root M g) (h2:2≤M) {E:Nat→Nat}:∀{j:Nat},(∀k,k<j→E k<M)→0<pU M E j∧pU M E j<M
 | 0,_=>⟨by show 0<1; omega,by show 1<M; omega⟩
 | j+1,hE=>by
  have ih:=KC hr h2 (E:=E) (j:=j) (fun k h=>hE k (by omega));have e:=hE j (by omega);show 0<(if E j=0 then pU M E j else pU M E j*E j%M)∧(if E j=0 then pU M E j else pU M E j*E j%M)<M
  by_cases hz:E j=0
  ·rw[if_pos hz]; exact ih
  ·rw[if_neg hz]; exact⟨mul_ne hr h2 ih.1 ih.2 (by omega) e,Nat.mod_lt _ (by omega)⟩
theorem GE {M g p a:Nat} (hr:Root M g) (h2:2≤M) (hp0:0<p) (hp:p<M) (ha0:0<a) (ha:a<M) :
  (p*a%M)^(M-2)*a%M=p^(M-2)%M:=by
 have hne:=mul_ne hr h2 hp0 hp ha0 ha;have hlt:p*a%M<M:=Nat.mod_lt _ (by omega);have i1:=uH hr h2 hne hlt;have i2:=uH hr h2 hp0 hp;refine (fun e => ?_) (IE hr h2 hp0 hp (b:=(p*a%M)^(M-2)*a) (c:=p^(M-2)) ?_)
 ·exact e
 ·rw[←oI p (p^(M-2)),i2,←i1,oI,oJ];congr 1;rw[Nat.mul_comm ((p*a%M)^(M-2)) a,←Nat.mul_assoc]
theorem KIs.set4 {w:World} {b d:Nat} {F:FC} (h:KIs w b F) (hd:d≠b) (d0 d1 d2 d3:Nat):KIs (Go.Proofs.YtpbljiejmfahcaaGreatDoor.set4 w d d0 d1 d2 d3) b F:=(((h.other hd _).other hd _).other hd _).other hd _
theorem SS {a0 a1 a2 a3 b0 b1 b2 b3:Nat} (h:¬LX a0 a1 a2 a3 b0 b1 b2 b3=true):LX a0 a1 a2 a3 b0 b1 b2 b3=false:=by cases q:LX a0 a1 a2 a3 b0 b1 b2 b3 with|false=>rfl|true=>exact absurd q h
section
variable {M g:Nat}
end
theorem Jt {s0 s1 s2 s3 t0 t1 t2 t3:Nat} (hs:cC s0 s1 s2 s3) (ht:cC t0 t1 t2 t3) (h:aC s0 s1 s2 s3=aC t0 t1 t2 t3) (w:World):(Op.equalIn 10000 27 (.agg #[.int .u64 s0,.int .u64 s1,.int .u64 s2,.int .u64 s3]) (.agg #[.int .u64 t0,.int .u64 t1,.int .u64 t2,.int .u64 t3])).run prog w=.ok true w:=by
 have h':=wJ 9998 s0 s1 s2 s3 t0 t1 t2 t3 w;rw[(rQ hs ht).2 h]at h';exact h'
theorem Ta {s0 s1 s2 s3 t0 t1 t2 t3:Nat} (hs:cC s0 s1 s2 s3) (ht:cC t0 t1 t2 t3) (h:aC s0 s1 s2 s3≠aC t0 t1 t2 t3) (w:World):(Op.equalIn 10000 27 (.agg #[.int .u64 s0,.int .u64 s1,.int .u64 s2,.int .u64 s3]) (.agg #[.int .u64 t0,.int .u64 t1,.int .u64 t2,.int .u64 t3])).run prog w=.ok false w:=by
 have h':=wJ 9998 s0 s1 s2 s3 t0 t1 t2 t3 w;rw[SS (fun q=>h ((rQ hs ht).1 q))]at h';exact h'
theorem GO {s0 s1 s2 s3:Nat} (hs:cC s0 s1 s2 s3) (h:aC s0 s1 s2 s3=0) (w:World):(Op.equalIn 10000 27 (.agg #[.int .u64 s0,.int .u64 s1,.int .u64 s2,.int .u64 s3]) (.agg #[.int .u64 0,.int .u64 0,.int .u64 0,.int .u64 0])).run prog w=.ok true w:=Jt hs Vt (h.trans rfl) w
theorem Ay {s0 s1 s2 s3:Nat} (hs:cC s0 s1 s2 s3) (h:aC s0 s1 s2 s3≠0) (w:World):(Op.equalIn 10000 27 (.agg #[.int .u64 s0,.int .u64 s1,.int .u64 s2,.int .u64 s3]) (.agg #[.int .u64 0,.int .u64 0,.int .u64 0,.int .u64 0])).run prog w=.ok false w:=Ta hs Vt (fun q=>h (q.trans rfl)) w
theorem Bad1.ne {f c:Int} {A:Nat} (h:Bad1 f A c):c≠0:=by rcases h with⟨_,_,h⟩|⟨_,_,_,h⟩<;>omega
theorem Bad2.ne {f c:Int} {A B:Nat} (h:Bad2 f A B c):c≠0:=by
 rcases h with h|⟨_,_,_,_,h⟩
 ·exact h.ne
 ·omega
theorem FieldIs.uniq {f:Int} {F G:FC} (h:FieldIs f F) (k:FieldIs f G):F=G:=by
 rcases h with⟨h,rfl⟩|⟨h,rfl⟩<;>rcases k with⟨k,rfl⟩|⟨k,rfl⟩<;>first|rfl|omega
end Go.Proofs.YtpbljiejmfahcaaGreatDoor
