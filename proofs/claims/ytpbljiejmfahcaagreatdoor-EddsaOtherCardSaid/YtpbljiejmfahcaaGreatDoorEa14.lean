/- Ea14 -/
import Derived.ArgAppend
import Derived.LoopTactic
import Derived.Laws.IdiomCopy
import Derived.Test.YtpbljiejmfahcaaGreatDoorEa13
import Derived.Test.YtpbljiejmfahcaaGreatDoorProg
set_option maxRecDepth 100000
set_option linter.unusedVariables false
set_option linter.unusedSimpArgs false
set_option linter.unnecessarySimpa false
noncomputable section
namespace Go.Proofs.YtpbljiejmfahcaaGreatDoor.Ex
open Go.Proofs.Tryz
open Go.RowKit
theorem lN {P:Program} {t:Nat} {l:List At} (h:CO P t=some l) (a:Act) {o:Oper} (ho:o.op=.alloc t) (w:World):(execOp a.eval o).run P w=.ok (.value (.pointer (some ⟨w.heap.size,0,none⟩))) (w.alloc (.cells (aA l).toArray t)):=by
 unfold CO at h;split at h
 ·rename_i i hi;split at h
  ·rename_i z hz;cases h;simp[execOp,ho,Instr.alloc,zeroValue,typeInfo,hi,hz,newVar,newRow,AT]
  ·cases h
 ·cases h
theorem vI (w:World) (l:List At) (t:Nat):Own (w.alloc (.cells (aA l).toArray t)) w.heap.size l∧Below w.heap.size w (w.alloc (.cells (aA l).toArray t)):=by
 have hB:Below w.heap.size w (w.alloc (.cells (aA l).toArray t)):=(Below.refl _ w).alloc (Nat.le_refl _) _;have h0:(w.alloc (.cells (aA l).toArray t)).heap[w.heap.size]?=some (.cells (aA l).toArray t):=World.alloc_heap_new _ _;refine⟨⟨by rw[World.size_alloc]; exact Nat.lt_succ_self _,fun q v hq => ?_,fun q => ?_⟩,hB⟩
 ·rw[cell_of_row _ _ (0+q) _ t (0,0) h0,Nat.zero_add];simpa using hq
 ·unfold World.frozen?;simp only[h0];simp
theorem Eo:(prog.info? 24).map (·.size)=some 4:=by kernel_rfl
theorem aDS:∃d,prog.underlying 24=some d∧d.isRow=true:=⟨_,underlying24,rfl⟩
theorem Dv:CO prog 24=some zC:=by kernel_rfl
section
variable {ops:Array Oper} {o:Oper} {a:Act} {s:Nat} {S:World→Prop}
theorem Nl {b:Nat} (hop:o.op=.slice 68 (.tmp s) none (some (.const (iI 4))) none) (hg:o.guard=none) (h:a.tmps[s]?=some (ptV b 0)):YieldsIf prog ops S o (.slice (some ⟨b,0,none⟩) 4 8) a :=
 Or.inl ⟨by simp[Region.wanted,hg],fun wx hw=>by
  have hs:cL prog 22=some 1:=by kernel_rfl
  have h':a.tmps[s]?=some (.pointer (some ⟨b,0,none⟩)):=h;simp[execOp,hop,iI,Instr.sliceAt,Instr.sureAddr,run_underlying underlying68,Instr.sliceBounds,Instr.sliceBound,asIntOf,bA hs,Addr.add_mid,Act.eval,h']⟩
theorem Nm {b:Nat} (hop:o.op=.slice 68 (.tmp s) (some (.const (iI 4))) none none) (hg:o.guard=none) (h:a.tmps[s]?=some (ptV b 0)):YieldsIf prog ops S o (.slice (some ⟨b,4,none⟩) 4 4) a :=
 Or.inl ⟨by simp[Region.wanted,hg],fun wx hw=>by
  have hs:cL prog 22=some 1:=by kernel_rfl
  have h':a.tmps[s]?=some (.pointer (some ⟨b,0,none⟩)):=h;simp[execOp,hop,iI,Instr.sliceAt,Instr.sureAddr,run_underlying underlying68,Instr.sliceBounds,Instr.sliceBound,asIntOf,bA hs,Addr.add_mid,Act.eval,h']⟩
theorem UW {b of c:Nat} (hop:o.op=.sliceToArrayPointer 24 (.tmp s)) (hg:o.guard=none) (h:a.tmps[s]?=some (.slice (some ⟨b,of,none⟩) 4 c)):YieldsIf prog ops S o (ptV b of) a :=
 Or.inl ⟨by simp[Region.wanted,hg],fun wx hw=>by simp[execOp,hop,cU h,ptV,DM]⟩
end
def jW:Code:=(f36.body).getD .skip
def IQ:Code:=cA (cB jW)
def re3:Code:=cA (cB (cB (cB jW)))
theorem Gd:jW=.seq (cA jW) (.seq (.region 1 (aD IQ) true) (.seq (cA (cB (cB jW))) (.seq (.region 3 (aD re3) false) .ret))):=by kernel_rfl
theorem Xg:f36.ntmps=21:=by kernel_rfl
theorem Lx {K:Act→World→Prop} {S:World→Prop} {got:Array Bool} {a:Act} {w:World} {p q lo hi:Nat} (hr8:Region.ready .any (aD IQ) got=[8]) (hr9:Region.ready .any (aD IQ) (got.setIfInBounds 8 true)=[9]) (hrE:Region.ready .any (aD IQ) ((got.setIfInBounds 8 true).setIfInBounds 9 true)=[])
  (h3:a.tmps[3]?=some (ptV p 0)) (h4:a.tmps[4]?=some (ptV q 0)) (h9:a.tmps[9]?=some (.agg (aA [At.q lo]).toArray)) (h12:a.tmps[12]?=some (.agg (aA [At.q hi]).toArray)) (hp:Own w p zC) (hq:Own w q zC) (hne:p≠q)
  (hS:∀w':World,WrC w w' p→S w')
  (hK:∀w':World,Own w' p [.q lo]→Own w' q [.q hi]→Below (min p q) w w'→K a w'):dC prog .any (aD IQ) (gL K) S 9 2 got a w:=by
 obtain⟨o8,ho8,hop8,hd8,hg8⟩:∃x,(aD IQ)[8]?=some x∧x.op=.store 24 (.tmp 3) (.tmp 9)∧x.dst=none∧x.guard=none:=⟨_,rfl,rfl,rfl,rfl⟩
 obtain⟨o9,ho9,hop9,hd9,hg9⟩:∃x,(aD IQ)[9]?=some x∧x.op=.store 24 (.tmp 4) (.tmp 12)∧x.dst=none∧x.guard=none:=⟨_,rfl,rfl,rfl,rfl⟩
 refine aM hr8 ho8 fun K8 hK8 => ?_
 rw[if_pos (by simp[Region.wanted,hg8])];obtain⟨hp2,hW⟩:=hp.set (o:=0) (p:=[.q lo]) (l':=[.q lo]) rfl;refine eT (vs:=aA [.q lo]) hop8 hd8 (cU h3) (cU h9) rfl (pH _) Eo (hp.there (o:=0) (n:=4) (Nat.le_of_ble_eq_true rfl)) ?_;have hq2:=hq.wr hW (Ne.symm hne);have hS2:=hS _ hW;generalize w.setCells p 0 (aA [.q lo])=w2 at *;refine hK8.out _ _ (Or.inr hS2) fun _ => ?_
 clear hK8;refine aM hr9 ho9 fun K9 hK9 => ?_
 rw[if_pos (by simp[Region.wanted,hg9])];obtain⟨hq3,hW3⟩:=hq2.set (o:=0) (p:=[.q hi]) (l':=[.q hi]) rfl;refine eT (vs:=aA [.q hi]) hop9 hd9 (cU h4) (cU h12) rfl (pH _) Eo (hq2.there (o:=0) (n:=4) (Nat.le_of_ble_eq_true rfl)) ?_;have hp3:=hp2.wr hW3 hne;refine hK9.out _ _ (Or.inl rfl) fun _ => ?_
 exact cK hrE ⟨rfl,hK _ hp3 hq3 ((hW.below.mono (Nat.min_le_left _ _)).trans (hW3.below.mono (Nat.min_le_right _ _)))⟩
theorem Pf {w:World} {a:Act} {pb rb lo hi:Nat} {Q:Exit→Act→World→Prop} (hm:oldOf w pb 0 [.q lo,.q hi]) (h1:a.tmps[1]?=some (ptV pb 0)) (h2:a.tmps[2]?=some (ptV rb 0)) (hdf:a.defers=[]) (hsz:a.tmps.size=21)
  (hQ:∀a' w' p q,a'.defers=[]→a'.tmps.size=21→a'.tmps[2]?=some (ptV rb 0)→a'.tmps[3]?=some (ptV p 0)→a'.tmps[4]?=some (ptV q 0)→Own w' p [.q lo]→Own w' q [.q hi]→Below w.heap.size w w'→Q .normal a' w'):(Code.region 1 (aD IQ) true).wp prog Q a w:=by
 have hd:Below w.heap.size w w.drew:=(Below.refl _ w).drew;obtain⟨dW,huW,hdW⟩:=aDS;refine Code.wp_mono (Q:=gL fun a' w'=>∃p q,a'.defers=[]∧a'.tmps.size=21∧a'.tmps[2]?=some (ptV rb 0)∧a'.tmps[3]?=some (ptV p 0)∧a'.tmps[4]?=some (ptV q 0)∧Own w' p [.q lo]∧Own w' q [.q hi]∧Below w.heap.size w w') (fun e a3 w3 h => ?_) (cF (fun wx=>wx.rangeAt pb 0 (aA [.q lo,.q hi])) 9 aI ?_)
 ·obtain⟨rfl,p,q,e1,e2,e3,e4,e5,e6,e7,e8⟩:=h;exact hQ _ _ _ _ e1 e2 e3 e4 e5 e6 e7 e8
 have hS:w.drew.rangeAt pb 0 (aA [.q lo,.q hi]):=(hm.on hd).2;have S0:∀wx:World,wx.rangeAt pb 0 (aA [.q lo,.q hi])→wx.rangeAt pb 0 (aA [At.q lo]):=fun wx h j v hj=>h j v (by
  have e:aA [At.q lo,.q hi]=aA [At.q lo]++aA [.q hi]:=by rw[←aJ]; rfl
  rw[e];have hl:j<(aA [At.q lo]).length:=by
   rcases Nat.lt_or_ge j (aA [At.q lo]).length with h|h
   ·exact h
   ·rw[List.getElem?_eq_none h]at hj; cases hj
  rw[List.getElem?_append_left hl];exact hj)
 have S4:∀wx:World,wx.rangeAt pb 0 (aA [.q lo,.q hi])→wx.rangeAt pb 4 (aA [At.q hi]):=fun wx h j v hj=>by
  have e:aA [At.q lo,.q hi]=aA [At.q lo]++aA [.q hi]:=by rw[←aJ]; rfl
  have:=h (4+j) v (by
   rw[e,List.getElem?_append_right (show (aA [At.q lo]).length≤4+j from Nat.le_add_right 4 j)];have:4+j-(aA [At.q lo]).length=j:=Nat.add_sub_cancel_left 4 j;rw[this];exact hj)
  rwa [Nat.zero_add]at this
 obtain⟨o0,ho0,hop0,hd0,hg0⟩:∃x,(aD IQ)[0]?=some x∧x.op=.slice 68 (.tmp 1) none (some (.const (iI 4))) none∧x.dst=some 7∧x.guard=none:=⟨_,rfl,rfl,rfl,rfl⟩
 refine aE (i:=0) (v:=.slice (some ⟨pb,0,none⟩) 4 8) ho0 (by kernel_rfl) (by kernel_rfl) (by kernel_rfl) (by kernel_rfl) (fun _ _ _ h=>gQ h) hS (Nl hop0 hg0 h1) ?_;rw[hd0];obtain⟨o1,ho1,hop1,hd1,hg1⟩:∃x,(aD IQ)[1]?=some x∧x.op=.sliceToArrayPointer 24 (.tmp 7)∧x.dst=some 8∧x.guard=none:=⟨_,rfl,rfl,rfl,rfl⟩
 refine aE (i:=1) (v:=ptV pb 0) ho1 (by kernel_rfl) (by kernel_rfl) (by kernel_rfl) (by kernel_rfl) (fun _ _ _ h=>gQ h) hS (UW hop1 hg1 (aY _ _ _ (by rw[hsz]; decide))) ?_;rw[hd1];obtain⟨o2,ho2,hop2,hd2,hg2⟩:∃x,(aD IQ)[2]?=some x∧x.op=.load 24 (.tmp 8)∧x.dst=some 9∧x.guard=none:=⟨_,rfl,rfl,rfl,rfl⟩
 refine aE (i:=2) (v:=.agg (aA [At.q lo]).toArray) ho2 (by kernel_rfl) (by kernel_rfl) (by kernel_rfl) (by kernel_rfl) (fun _ _ _ h=>gQ h) hS (pV hop2 hg2 (aY _ _ _ (by simp only[aG,hsz]; decide)) huW hdW Eo S0) ?_;rw[hd2];have k1:(((a.put (some 7) (.slice (some ⟨pb,0,none⟩) 4 8)).put (some 8) (ptV pb 0)).put (some 9) (.agg (aA [At.q lo]).toArray)).tmps[1]?=some (ptV pb 0):=aS (aS (aS h1 (by decide)) (by decide)) (by decide);have k2:(((a.put (some 7) (.slice (some ⟨pb,0,none⟩) 4 8)).put (some 8) (ptV pb 0)).put (some 9) (.agg (aA [At.q lo]).toArray)).tmps[2]?=some (ptV rb 0):=aS (aS (aS h2 (by decide)) (by decide)) (by decide);have k9:(((a.put (some 7) (.slice (some ⟨pb,0,none⟩) 4 8)).put (some 8) (ptV pb 0)).put (some 9) (.agg (aA [At.q lo]).toArray)).tmps[9]?=some (.agg (aA [At.q lo]).toArray):=aY _ _ _ (by simp only[aG,hsz]; decide);have kz:(((a.put (some 7) (.slice (some ⟨pb,0,none⟩) 4 8)).put (some 8) (ptV pb 0)).put (some 9) (.agg (aA [At.q lo]).toArray)).tmps.size=21:=by simp only[aG,hsz]
 have kd:(((a.put (some 7) (.slice (some ⟨pb,0,none⟩) 4 8)).put (some 8) (ptV pb 0)).put (some 9) (.agg (aA [At.q lo]).toArray)).defers=[]:=hdf;generalize ((a.put (some 7) (.slice (some ⟨pb,0,none⟩) 4 8)).put (some 8) (ptV pb 0)).put (some 9) (.agg (aA [At.q lo]).toArray)=a at *;obtain⟨o3,ho3,hop3,hd3,hg3⟩:∃x,(aD IQ)[3]?=some x∧x.op=.slice 68 (.tmp 1) (some (.const (iI 4))) none none∧x.dst=some 10∧x.guard=none:=⟨_,rfl,rfl,rfl,rfl⟩
 refine aE (i:=3) (v:=.slice (some ⟨pb,4,none⟩) 4 4) ho3 (by kernel_rfl) (by kernel_rfl) (by kernel_rfl) (by kernel_rfl) (fun _ _ _ h=>gQ h) hS (Nm hop3 hg3 k1) ?_;rw[hd3];obtain⟨o4,ho4,hop4,hd4,hg4⟩:∃x,(aD IQ)[4]?=some x∧x.op=.sliceToArrayPointer 24 (.tmp 10)∧x.dst=some 11∧x.guard=none:=⟨_,rfl,rfl,rfl,rfl⟩
 refine aE (i:=4) (v:=ptV pb 4) ho4 (by kernel_rfl) (by kernel_rfl) (by kernel_rfl) (by kernel_rfl) (fun _ _ _ h=>gQ h) hS (UW hop4 hg4 (aY _ _ _ (by rw[kz]; decide))) ?_;rw[hd4];obtain⟨o5,ho5,hop5,hd5,hg5⟩:∃x,(aD IQ)[5]?=some x∧x.op=.load 24 (.tmp 11)∧x.dst=some 12∧x.guard=none:=⟨_,rfl,rfl,rfl,rfl⟩
 refine aE (i:=5) (v:=.agg (aA [At.q hi]).toArray) ho5 (by kernel_rfl) (by kernel_rfl) (by kernel_rfl) (by kernel_rfl) (fun _ _ _ h=>gQ h) hS (pV hop5 hg5 (aY _ _ _ (by simp only[aG,kz]; decide)) huW hdW Eo S4) ?_;rw[hd5];have m2:(((a.put (some 10) (.slice (some ⟨pb,4,none⟩) 4 4)).put (some 11) (ptV pb 4)).put (some 12) (.agg (aA [At.q hi]).toArray)).tmps[2]?=some (ptV rb 0):=aS (aS (aS k2 (by decide)) (by decide)) (by decide);have m9:(((a.put (some 10) (.slice (some ⟨pb,4,none⟩) 4 4)).put (some 11) (ptV pb 4)).put (some 12) (.agg (aA [At.q hi]).toArray)).tmps[9]?=some (.agg (aA [At.q lo]).toArray):=aS (aS (aS k9 (by decide)) (by decide)) (by decide);have Vf:(((a.put (some 10) (.slice (some ⟨pb,4,none⟩) 4 4)).put (some 11) (ptV pb 4)).put (some 12) (.agg (aA [At.q hi]).toArray)).tmps[12]?=some (.agg (aA [At.q hi]).toArray):=aY _ _ _ (by simp only[aG,kz]; decide);have mz:(((a.put (some 10) (.slice (some ⟨pb,4,none⟩) 4 4)).put (some 11) (ptV pb 4)).put (some 12) (.agg (aA [At.q hi]).toArray)).tmps.size=21:=by simp only[aG,kz]
 have md:(((a.put (some 10) (.slice (some ⟨pb,4,none⟩) 4 4)).put (some 11) (ptV pb 4)).put (some 12) (.agg (aA [At.q hi]).toArray)).defers=[]:=kd;generalize ((a.put (some 10) (.slice (some ⟨pb,4,none⟩) 4 4)).put (some 11) (ptV pb 4)).put (some 12) (.agg (aA [At.q hi]).toArray)=b at *;obtain⟨o6,ho6,hop6,hd6,hg6⟩:∃x,(aD IQ)[6]?=some x∧x.op=.alloc 24∧x.dst=some 3∧x.guard=none:=⟨_,rfl,rfl,rfl,rfl⟩
 obtain⟨o7,ho7,hop7,hd7,hg7⟩:∃x,(aD IQ)[7]?=some x∧x.op=.alloc 24∧x.dst=some 4∧x.guard=none:=⟨_,rfl,rfl,rfl,rfl⟩
 have hmd:=hm.on hd;obtain⟨hO,hB⟩:=vI w.drew zC 24;obtain⟨hO2,hB2⟩:=vI (w.drew.alloc (.cells (aA zC).toArray 24)) zC 24;have hsz1:(w.drew.alloc (.cells (aA zC).toArray 24)).heap.size=w.drew.heap.size+1:=World.size_alloc _ _;have hm1:=hmd.on hB;have hm2:=hm1.on hB2;have hO1:=hO.on hB2;have hge:w.heap.size≤w.drew.heap.size:=hd.size;have hlt:=hm.1;have hB12:Below w.heap.size w ((w.drew.alloc (.cells (aA zC).toArray 24)).alloc (.cells (aA zC).toArray 24)):=(hd.trans (hB.mono hge)).trans (hB2.mono (by omega));refine uP (i:=6) (j:=7) (by kernel_rfl) ho6 ho7 (fun K hK => ?_) (fun K hK => ?_)
 ·rw[if_pos (by simp[Region.wanted,hg6])];refine cO (lN Dv _ hop6 w.drew) ?_;rw[hd6];refine hK.out _ _ (Or.inr hm1.2) fun _ => ?_
  clear hK;refine aM (i:=7) (by kernel_rfl) ho7 fun K7 hK7 => ?_
  rw[if_pos (by simp[Region.wanted,hg7])];refine cO (lN Dv _ hop7 _) ?_;rw[hd7];refine hK7.out _ _ (Or.inr hm2.2) fun _ => ?_
  clear hK7;refine Lx (by kernel_rfl) (by kernel_rfl) (by kernel_rfl) (aS (aY _ _ _ (by rw[mz]; decide)) (by decide)) (aY _ _ _ (by simp only[aG,mz]; decide)) (aS (aS m9 (by decide)) (by decide)) (aS (aS Vf (by decide)) (by decide)) hO1 hO2 (by omega) (fun w' hW=>(hm2.wr hW (by omega)).2) fun w' e1 e2 e3=>⟨_,_,md,by simp only[aG,mz],aS (aS m2 (by decide)) (by decide),aS (aY _ _ _ (by rw[mz]; decide)) (by decide),aY _ _ _ (by simp only[aG,mz]; decide),e1,e2,hB12.trans (e3.mono (by omega))⟩
 ·rw[if_pos (by simp[Region.wanted,hg7])];refine cO (lN Dv _ hop7 w.drew) ?_;rw[hd7];refine hK.out _ _ (Or.inr hm1.2) fun _ => ?_
  clear hK;refine aM (i:=6) (by kernel_rfl) ho6 fun K6 hK6 => ?_
  rw[if_pos (by simp[Region.wanted,hg6])];refine cO (lN Dv _ hop6 _) ?_;rw[hd6];refine hK6.out _ _ (Or.inr hm2.2) fun _ => ?_
  clear hK6;refine Lx (by kernel_rfl) (by kernel_rfl) (by kernel_rfl) (aY _ _ _ (by simp only[aG,mz]; decide)) (aS (aY _ _ _ (by rw[mz]; decide)) (by decide)) (aS (aS m9 (by decide)) (by decide)) (aS (aS Vf (by decide)) (by decide)) hO2 hO1 (by omega) (fun w' hW=>(hm2.wr hW (by omega)).2) fun w' e1 e2 e3=>⟨_,_,md,by simp only[aG,mz],aS (aS m2 (by decide)) (by decide),aY _ _ _ (by simp only[aG,mz]; decide),aS (aY _ _ _ (by rw[mz]; decide)) (by decide),e1,e2,hB12.trans (e3.mono (by omega))⟩
def Sc (h l m r:Nat):gE
 | [.v (.fl a),.v (.fl b),.v (.fl c)]=>some ([aA a=aA [At.q h],aA b=aA [At.q l],aA c=aA [At.q m]],.many [.fl [.q r],.im (.int .i64 0)])
 | _=>none
theorem Jd {h l m:Nat} (hh:h<aF) (hl:l<aF) (hm:m<aF) (h0:0<m):∀cs pre r,Sc h l m ((h*aF+l)%m) cs=some (pre,r)→aT pre→∀(args:List Value) (w:World),cD w cs args→bD prog 58 r args w:=by
 intro cs pre r hg hp args w ha;unfold Sc at hg;split at hg
 ·rename_i a b c;cases hg;obtain⟨p1,p2,p3,_⟩:=hp
  match args,ha with
  | [x,y,z],ha =>
   have e1:x=.agg (aA a).toArray:=ha.1;have e2:y=.agg (aA b).toArray:=ha.2.1;have e3:z=.agg (aA c).toArray:=ha.2.2.1;subst e1; subst e2; subst e3;rw[p1,p2,p3];have:=RX (fw h 0) (fw h 1) (fw h 2) (fw h 3) (fw l 0) (fw l 1) (fw l 2) (fw l 3) (fw m 0) (fw m 1) (fw m 2) (fw m 3) (fH h) (fH l) (fH m) w;rw[fA hh,fA hl,fA hm]at this;refine this.mono fun e w' ⟨s0,s1,s2,s3,c,he,hs,hv,hb⟩ => ?_
   rcases hv with⟨hz,_⟩|⟨_,hv,hc⟩
   ·omega
   ·obtain⟨q0,q1,q2,q3⟩:=jN hs (Nat.lt_trans (Nat.mod_lt _ h0) hm) hv;subst q0; subst q1; subst q2; subst q3; subst hc;exact⟨he,hb⟩
  | [],ha=>exact ha.elim
  | [_],ha=>exact ha.2.elim
  | [_,_],ha=>exact ha.2.2.elim
  | _::_::_::_::_,ha=>exact ha.2.2.2.elim
 ·cases hg
def aDb (h l r:Nat):Tab:=(T0.add 44 (g0 (.one (.fl [.q lJ])))).add 58 (Sc h l lJ r)
theorem BA:0<lJ:=by decide
theorem Yr {h l:Nat} (hh:h<aF) (hl:l<aF):TabOk prog (aDb h l ((h*aF+l)%lJ)):=((bT _).add func44 (by kernel_rfl) (by kernel_rfl) (wC pK)).add func58 (by kernel_rfl) (by kernel_rfl) (Jd hh hl FV BA)
theorem aEe (lo hi:Nat):bE prog (qG prog) 21 (fun _=>tC T0 fun _=>none) 60 (cA jW) (fT 0 [.v (.fl [.q lo,.q hi])]) [.slot 1 (.pt 1 0),.row 1 true [.q lo,.q hi],.slot 2 (.pt 2 0),.row 2 true zC]=some ([],.nrm,[.slot 1 (.pt 1 0),.row 1 true [.q lo,.q hi],.slot 2 (.pt 2 0),.row 2 true zC]):=by kernel_rfl
theorem aEd (w:World) (lo hi b3 b4 r rb:Nat):bE prog { qG prog with x:=xO w (fun _=>none) (assoc [(14,[.q hi]),(15,[.q lo])]) (fun _=>none) } 21 (fun _=>tC (aDb hi lo r) fun _=>none) 60 (cA (cB (cB jW))) [.slot 3 (.im (ptV b3 0)),.slot 4 (.im (ptV b4 0)),.slot 2 (.im (ptV rb 0))] [.slot 5 (.pt 5 0),.row 5 true [.q r],.slot 2 (.im (ptV rb 0))]=some ([oldOf w b4 0 [.q hi],dD [.q hi]=4,oldOf w b3 0 [.q lo],dD [.q lo]=4,aA [At.q hi]=aA [At.q hi],aA [At.q lo]=aA [At.q lo],aA [At.q lJ]=aA [At.q lJ]],.nrm,[.slot 5 (.pt 5 0),.row 5 true [.q r],.slot 2 (.im (ptV rb 0))]):=by kernel_rfl
theorem aEc (r rb:Nat):eH prog (qG prog) 21 (tC T0 fun _=>none) ((aD re3).extract 0 1) [.slot 5 (.pt 5 0),.row 5 true [.q r],.slot 2 (.im (ptV rb 0))] [.slot 20 (.fl [.q r]),.slot 2 (.im (ptV rb 0))]=some ([],[.slot 20 (.fl [.q r]),.slot 2 (.im (ptV rb 0))]):=by kernel_rfl
theorem Og:(prog.info? 50).map (·.size)=some 4:=by kernel_rfl
theorem WS {lo hi:Nat} (hl:lo<aF) (hh:hi<aF) (w0:World):bD prog 36 (.one (.fl [.q ((hi*aF+lo)%lJ)])) [.agg (aA [.q lo,.q hi]).toArray] w0:=by
 have hG:∀base w,bO prog (qG prog) base w:=fun _ _=>(aW _).w _ _
 have hT:∀base w,∀n d:Nat,TabOkW prog T0 base w:=fun _ _ _ _=>(bT _).w _ _
 have hok:=Yr hh hl;generalize (hi*aF+lo)%lJ=r at *;have hnt:f36.ntmps=21:=Xg;refine cQ func36 (cs:=[.v (.fl [.q lo,.q hi])]) (args:=[.agg (aA [.q lo,.q hi]).toArray]) (c:=jW) rfl ⟨rfl,trivial⟩ (Nat.le_of_ble_eq_true (by kernel_rfl)) fun a w hA => ?_
 rw[hnt]at hA;rw[Gd];refine wp_seq (aB aI (hT _ _) (hG _ _) (aEe lo hi) trivial hA fun a w hA => ?_);obtain⟨b1,hA⟩:=hA.at (k:=1) (l:=[.q lo,.q hi]) (by simp);obtain⟨b2,hA⟩:=hA.at (k:=2) (l:=zC) (by simp);have m1:oldOf w b1 0 [.q lo,.q hi]:=hA.old (k:=1) (by simp) (by simp);have m2:Own w b2 zC:=hA.own (k:=2) (by simp) (by simp);have hB2:w0.heap.size≤b2:=hA.geq (k:=2) (l:=zC) (by simp) (by simp);have hbl:=hA.below;have t1:=hA.ptS (s:=1) (k:=1) (o:=0) (b:=b1) (by simp) (by simp);have t2:=hA.ptS (s:=2) (k:=2) (o:=0) (b:=b2) (by simp) (by simp);have hdf:=hA.defers;have hsz:=hA.size;clear hA;refine wp_seq (Pf m1 t1 t2 hdf hsz fun a w1 p q d1 d2 d3 d4 d5 d6 d7 hB => ?_);have hS:=bB (nt:=21) (w:=w1) (a:=a) (ts:=[(3,ptV p 0),(4,ptV q 0),(2,ptV b2 0)]) d1 d2 (fun x hx=>by
  simp only[List.mem_cons,List.not_mem_nil,or_false]at hx
  rcases hx with rfl|rfl|rfl
  ·exact d4
  ·exact d5
  ·exact d3)
 refine wp_seq (aB aI (fun _ _=>hok.w _ _) (eK w1 _ _ _) (aEd w1 lo hi p q r b2) ⟨⟨d7.lt,d7.row⟩,rfl,⟨d6.lt,d6.row⟩,rfl,rfl,rfl,rfl,trivial⟩ hS fun a w2 hA => ?_);refine wp_seq (bQ (l:=List.range' 0 ((aD re3).extract 0 1).size++(1::[])) (by kernel_rfl) ?_);refine aU (c:=tC T0 _) (hT _ _ 0) (hG _ _) (aEc r b2) trivial (by kernel_rfl) hA fun a3 w3 hA => ?_
 obtain⟨o1,ho1,hop1,hd1,hg1⟩:∃x,(aD re3)[1]?=some x∧x.op=.store 50 (.tmp 2) (.tmp 20)∧x.dst=none∧x.guard=none:=⟨_,rfl,rfl,rfl,rfl⟩
 have hb3:=hA.below;have m3:=(m2.on hB).on hb3;obtain⟨hR,hW⟩:=m3.set (o:=0) (p:=[.q r]) (l':=[.q r]) rfl;refine bM ho1 hg1 (eT (vs:=aA [.q r]) hop1 hd1 (cU (hA.slot (s:=2) (v:=ptV b2 0) (by simp))) (cU (hA.slotF (s:=20) (by simp))) rfl (pH _) Og (m3.there (o:=0) (n:=4) (Nat.le_of_ble_eq_true rfl)) ?_);have hH:=hR.holds (k:=2) (nt:=21) (a:=a3) (ts:=[]) hA.defers hA.size rfl (hA.slot (s:=2) (v:=ptV b2 0) (by simp)) (fun x hx=>by cases hx);exact wp_ret (cT (l:=[.fl [.q r]]) (r:=.one (.fl [.q r])) (by kernel_rfl) (by kernel_rfl) hH ⟨rfl,((hbl.trans (hB.mono hbl.size)).trans (hb3.mono (Nat.le_trans hbl.size hB.size))).trans (hW.below.mono hB2)⟩)
def Iv (lo hi r:Nat):gE
 | [.v (.fl a)]=>some ([aA a=aA [At.q lo,.q hi]],.one (.fl [.q r]))
 | _=>none
theorem PI {lo hi:Nat} (hl:lo<aF) (hh:hi<aF):∀cs pre r,Iv lo hi ((hi*aF+lo)%lJ) cs=some (pre,r)→aT pre→∀(args:List Value) (w:World),cD w cs args→bD prog 36 r args w:=by
 intro cs pre r hg hp args w ha;unfold Iv at hg;split at hg
 ·rename_i a;cases hg
  match args,ha with
  | [x],ha =>
   have e1:x=.agg (aA a).toArray:=ha.1;subst e1;rw[hp.1];exact WS hl hh w
  | [],ha=>exact ha.elim
  | _::_::_,ha=>exact ha.2.elim
 ·cases hg
theorem Pa (n r:Nat):bZ prog (qG prog) (fun _=>tC (T0.add 36 (Iv n 0 r)) fun _=>none) f54 60 [.v (.fl [.q n])]=some ([aA (nq [.c (.int .u64 (fw n 0)),.c (.int .u64 (fw n 1)),.c (.int .u64 (fw n 2)),.c (.int .u64 (fw n 3)),.c (.int .u64 0),.c (.int .u64 0),.c (.int .u64 0),.c (.int .u64 0)])=aA [At.q n,.q 0]],.one (.fl [.q r])):=by kernel_rfl
def gRo:gE:=g1 uC fun n=>([n<aF],.one (.fl [.q (n%lJ)]))
theorem aFk:∀cs pre r,gRo cs=some (pre,r)→aT pre→∀(args:List Value) (w:World),cD w cs args→bD prog 54 r args w :=
 mH eE fun n h args w ha=>by
  have hz:(0:Nat)<aF:=by decide
  have ht:=PI h.1 hz;have e:(0*aF+n)%lJ=n%lJ:=by rw[Nat.zero_mul,Nat.zero_add]
  rw[e]at ht;exact aP aI (fun _ _=>(bT _).add func36 (by kernel_rfl) (by kernel_rfl) ht) (aW _) func54 (Pa n (n%lJ)) ⟨OV _,trivial⟩ ha
def UK (fa:Nat→Nat) (K:Nat) (fm:Nat→Nat) (N q:Nat):Nat:=if q<K then fa q else UJ fm N (q-K)
def Te (fa:Nat→Nat) (K:Nat) (fm:Nat→Nat) (N:Nat):Nat:=Vh (K+(1+(N+30)/31)) (UK fa K fm N)%lJ
theorem Bg (fa:Nat→Nat) (K:Nat) (fm:Nat→Nat) (N:Nat):Te fa K fm N<lJ:=Nat.mod_lt _ BA
theorem IC (g:Nat→List At):∀n s m,bP g s (n+m)=bP g s n++bP g (s+n) m
 | 0,s,m=>by rw[Nat.zero_add]; rfl
 | n+1,s,m=>by
  rw[Nat.succ_add];show g s++bP g (s+1) (n+m)=(g s++bP g (s+1) n)++bP g (s+(n+1)) m;rw[IC g n (s+1) m,List.append_assoc,Nat.add_right_comm];rfl
theorem wZ (f:Nat→Nat):∀m s k,bP (el f) (k+s) m=bP (el fun q=>f (k+q)) s m
 | 0,_,_=>rfl
 | m+1,s,k=>by
  show [At.q (f (k+s))]++bP (el f) (k+s+1) m=[At.q (f (k+s))]++bP (el fun q=>f (k+q)) (s+1) m;rw[←wZ f m (s+1) k,Nat.add_assoc]
theorem Td (fa:Nat→Nat) (K:Nat) (fm:Nat→Nat) (N M:Nat):aA (bP (el fa) 0 K)++aA (bP (el (UJ fm N)) 0 M)=aA (bP (el (UK fa K fm N)) 0 (K+M)):=by
 rw[IC,aJ];congr 2
 ·exact fI K 0 fun j hj=>by unfold UK; rw[if_pos (by omega)]
 ·have:=wZ (UK fa K fm N) M 0 K;rw[Nat.add_zero,←Nat.zero_add K]at this;rw[Nat.zero_add]at this ⊢;rw[this];refine fI M 0 fun j hj => ?_
  show UJ fm N (0+j)=UK fa K fm N (K+(0+j));unfold UK;rw[if_neg (by omega),Nat.add_sub_cancel_left]
theorem aAT {f:Nat→Nat} (hf:∀j,f j<256) {N:Nat} (hN:N≤4096) (i:Nat):UJ f N i<RM:=by
 unfold UJ;split
 ·exact Nat.lt_of_le_of_lt hN (by decide)
 ·exact aEO (fun j=>hf _) (Nat.min_le_right _ _)
def kC:Code:=(f32.body).getD .skip
def BF:Code:=cA (cB kC)
def Iq:Code:=cA (cB (cB kC))
theorem Ip:kC=.seq (cA kC) (.seq (.region 1 (aD BF) false) (.seq (cA (cB (cB kC))) .ret)):=by kernel_rfl
theorem ZZ:cA (cB (cB kC))=.region 2 (aD Iq) false:=by kernel_rfl
theorem aAj:f32.ntmps=18:=by kernel_rfl
theorem aEK (v u:Value):bE prog (qG prog) 18 (fun _=>tC T0 fun _=>none) 60 (cA kC) (fT 0 [.v (.im v),.v (.im u)]) [.slot 0 (.im v),.slot 1 (.im u),.slot 4 (.pt 4 0),.row 4 true zC]=some ([],.nrm,[.slot 0 (.im v),.slot 1 (.im u),.slot 4 (.pt 4 0),.row 4 true zC]):=by kernel_rfl
theorem aAm (v u:Value) (rb:Nat):eH prog (qG prog) 18 (tC T0 fun _=>none) ((aD BF).extract 0 3) [.slot 0 (.im v),.slot 1 (.im u),.slot 4 (.im (ptV rb 0))] [.slot 8 (.fl (rR 3 8 57)),.slot 9 (.im u),.slot 10 (.im v),.slot 4 (.im (ptV rb 0))]=some ([],[.slot 8 (.fl (rR 3 8 57)),.slot 9 (.im u),.slot 10 (.im v),.slot 4 (.im (ptV rb 0))]):=by kernel_rfl
theorem aAl (rb D:Nat):eH prog (qG prog) 18 (tC T0 fun _=>none) ((aD BF).extract 6 12) [.slot 13 (.tu [.fl [.q D],.im (.int .i64 0)]),.slot 4 (.im (ptV rb 0))] [.slot 5 (.pt 5 0),.row 5 true [.q D],.slot 4 (.im (ptV rb 0))]=some ([],[.slot 5 (.pt 5 0),.row 5 true [.q D],.slot 4 (.im (ptV rb 0))]):=by kernel_rfl
theorem aAk (rb D r:Nat):eH prog (qG prog) 18 (tC (T0.add 54 gRo) fun _=>none) ((aD Iq).extract 0 2) [.slot 5 (.pt 5 0),.row 5 true [.q D],.slot 4 (.im (ptV rb 0))] [.slot 17 (.fl [.q (D%lJ)]),.slot 4 (.im (ptV rb 0))]=some ([D<aF],[.slot 17 (.fl [.q (D%lJ)]),.slot 4 (.im (ptV rb 0))]):=by kernel_rfl
theorem AA {nt:Nat} {w:World} {a:Act} {ts:List (Nat×AV)} (hd:a.defers=[]) (hs:a.tmps.size=nt) (ht:∀x∈ts,∀β,a.tmps[x.1]?=some (x.2.den β)):Holds nt w.heap.size w (ts.map fun x=>.slot x.1 x.2) a w:=by
 refine⟨hd,hs,Below.refl _ _,Nat.le_refl _,fun _=>(w.heap.size,0,0),fun φ hφ => ?_,fun k k' o' l l' h1 => ?_,fun k l h1 => ?_,Nat.le_refl _,fun p h1 h2=>⟨rfl,rfl⟩,Shape.refl _⟩
 ·obtain⟨x,hx,rfl⟩:=List.mem_map.1 hφ;exact ht x hx _
 ·obtain⟨x,_,e⟩:=List.mem_map.1 h1; cases e
 ·obtain⟨x,_,e⟩:=List.mem_map.1 h1; cases e
theorem Ky {w:World} {b o K c b1 n1 cap1:Nat} {fa g:Nat→Nat} (hr:w.rangeAt b o (aA (bP (el fa) 0 K))) (hx:w.rangeAt b1 0 (aA (bP (el g) 0 n1))) (hc:c<K+n1) (hn:K+n1≤4096) (ty:TypeId) :
  ∃b2 cap2 w',(Builtin.append_ #[92,92] ty #[aV b o K c,aV b1 0 n1 cap1]).run prog w=.ok (aV b2 0 (K+n1) cap2) w'∧K+n1≤cap2∧b2<w'.heap.size∧w'.rangeAt b2 0 (aA (bP (el fa) 0 K)++aA (bP (el g) 0 n1))∧Below w.heap.size w w':=by
 obtain⟨ht,i,z,hi,hz,hsize,hby,hzs,hsz⟩:=lD SO;have h0:∀j v,(aA (bP (el fa) 0 K))[j]?=some v→w.cell? ((⟨b,o,none⟩:Addr).add j)=some v:=fun j v hj=>by rw[Addr.add_mid]; exact hr j v hj
 have h1:∀j v,(aA (bP (el g) 0 n1))[j]?=some v→w.cell? ((⟨b1,0,none⟩:Addr).add j)=some v:=fun j v hj=>by rw[Addr.add_mid]; exact hx j v hj
 obtain⟨v',w',hrun,hown,hg⟩:=run_append_arg_grows (P:=prog) (w:=w) 92 ty 27 i z 4 32 ht hi hz hsize hby hzs (by decide) ⟨b,o,none⟩ K c _ (nO fa K 0) h0 ⟨b1,0,none⟩ n1 cap1 _ (nO g n1 0) h1 hc (by simp only[maxLen]; omega) (by omega);have hv:∃b cap,v'=.slice (some ⟨b,0,none⟩) (K+n1) cap:=by
  obtain⟨_,⟨rfl,h2⟩|⟨g,c',cur,rfl,_⟩⟩:=hown
  ·omega
  ·exact⟨g,c',rfl⟩
 obtain⟨b2,cap2,rfl⟩:=hv;obtain⟨⟨_,_,a1,_,_⟩,a2,a3,a4,a5⟩:=qS hown;exact⟨b2,cap2,w',hrun,a1,a3,a4,⟨hg.os,hg.tape,hg.output,hg.size,fun k hk=>hg.block k hk (by simp)⟩⟩
theorem LH {w0:World} {v:Value} {N K b o:Nat} {fm fa:Nat→Nat} (hb:BV w0 v N fm) (hN:N≤4096) (hl:LV w0 (aV b o K K) K fa) (hK0:0<K) (hK:K≤4) (hfa:∀q,q<K→fa q<RM) (hDj:Dbj w0) :
  bD prog 32 (.one (.fl [.q (Te fa K fm N)])) [v,aV b o K K] w0:=by
 have hG:∀base w,bO prog (qG prog) base w:=fun _ _=>(aW _).w _ _
 have hT:∀base w,∀n d:Nat,TabOkW prog T0 base w:=fun _ _ _ _=>(bT _).w _ _
 obtain⟨_,m,e0,_,_,hmem⟩:=hl;cases e0;obtain⟨_,_,e0,hlt,hr⟩:=hmem hK0;cases e0;have hfm:=(hb:∃p m,_);obtain⟨_,_,_,_,hfm,_⟩:=hfm;have hnt:f32.ntmps=18:=aAj;refine cQ func32 (cs:=[.v (.im v),.v (.im (aV b o K K))]) (args:=[v,aV b o K K]) (c:=kC) rfl ⟨rfl,rfl,trivial⟩ (Nat.le_of_ble_eq_true (by kernel_rfl)) fun a w hA => ?_
 rw[hnt]at hA;rw[Ip];refine wp_seq (aB aI (hT _ _) (hG _ _) (aEK v (aV b o K K)) trivial hA fun a w1 hA => ?_);obtain⟨rb,hA⟩:=hA.at (k:=4) (l:=zC) (by simp);have hrb:Own w1 rb zC:=hA.own (k:=4) (by simp) (by simp);have hrB:w0.heap.size≤rb:=hA.geq (k:=4) (l:=zC) (by simp) (by simp);have hb1:=hb.on hA.below;have hD1:=hDj.on hDj.lt hA.below;have hr1:=cZ hA.below hlt hr;have hlt1:b<w1.heap.size:=Nat.lt_of_lt_of_le hlt hA.below.size;have hbl:=hA.below;have hS:=bB (nt:=18) (w:=w1) (a:=a) (ts:=[(0,v),(1,aV b o K K),(4,ptV rb 0)]) hA.defers hA.size (fun x hx=>by
  simp only[List.mem_cons,List.not_mem_nil,or_false]at hx
  rcases hx with rfl|rfl|rfl
  ·exact hA.slot (by simp)
  ·exact hA.slot (by simp)
  ·exact hA.ptS (s:=4) (k:=4) (o:=0) (by simp) (by simp))
 clear hA;refine wp_seq (bQ (l:=List.range' 0 ((aD BF).extract 0 3).size++(3::4::5::(List.range' 6 ((aD BF).extract 6 12).size++[]))) (by kernel_rfl) ?_);refine aU (c:=tC T0 _) (hT _ _ 0) (hG _ _) (aAm v (aV b o K K) rb) trivial (by kernel_rfl) hS fun a3 w3 hA => ?_
 have hb3:=hA.below;have h8:=hA.slotF (s:=8) (l:=rR 3 8 57) (by simp);have h9:=hA.slot (s:=9) (v:=aV b o K K) (by simp);have h10:=hA.slot (s:=10) (v:=v) (by simp);have h4:=hA.slot (s:=4) (v:=ptV rb 0) (by simp);have hdf:=hA.defers;have hsz:=hA.size;clear hA hS;obtain⟨o3,ho3,⟨ts3,hop3⟩,hd3,hg3⟩:∃x,(aD BF)[3]?=some x∧(∃ts,x.op=.call ⟨.value (.func 53),#[.tmp 10],ts⟩)∧x.dst=some 11∧x.guard=none:=⟨_,rfl,⟨_,rfl⟩,rfl,rfl⟩
 refine bM ho3 hg3 (dI hop3 (vs:=[v]) (List.cons_eq_cons.2 ⟨cU h10,rfl⟩) (fun args=>bR func53 (by kernel_rfl) (by kernel_rfl) args _) (Az (hb1.on hb3) (by omega)) fun e w4 hq => ?_);obtain⟨b4,cap4,rfl,hb4,hge4,hlt4,hr4,_,_⟩:=hq;refine⟨_,rfl,?_⟩;rw[hd3];have hr3:=cZ hb3 hlt1 hr1;have hr34:=cZ hb4 (Nat.lt_of_lt_of_le hlt1 hb3.size) hr3;obtain⟨o4,ho4,hop4,hd4,hg4⟩:∃x,(aD BF)[4]?=some x∧x.op=.call ⟨.builtin .append,#[.tmp 9,.tmp 11],#[92,92]⟩∧x.dst=some 12∧x.guard=none:=⟨_,rfl,rfl,rfl,rfl⟩
 change wpOps prog (aD BF) _ _ (a3.put (some 11) (aV b4 0 (1+(N+30)/31) cap4)) w4;have k9:=aS (d:=11) (u:=aV b4 0 (1+(N+30)/31) cap4) h9 (by decide);have k8:=aS (d:=11) (u:=aV b4 0 (1+(N+30)/31) cap4) h8 (by decide);have k4:=aS (d:=11) (u:=aV b4 0 (1+(N+30)/31) cap4) h4 (by decide);have k11:=aY a3 11 (aV b4 0 (1+(N+30)/31) cap4) (by rw[hsz]; decide);have kz:(a3.put (some 11) (aV b4 0 (1+(N+30)/31) cap4)).tmps.size=18:=by rw[aG]; exact hsz
 have kd:(a3.put (some 11) (aV b4 0 (1+(N+30)/31) cap4)).defers=[]:=hdf;generalize a3.put (some 11) (aV b4 0 (1+(N+30)/31) cap4)=a4 at *;obtain⟨b5,cap5,w5,hrun,hcap,hlt5,hr5,hB5⟩:=Ky (c:=K) (cap1:=cap4) hr34 hr4 (by omega) (by omega) o4.type;have hrun4:(execOp a4.eval o4).run prog w4=.ok (.value (aV b5 0 (K+(1+(N+30)/31)) cap5)) w5:=by
  unfold execOp;simp only[hop4,resolve,invoke,builtin,Sem.run_bind,Sem.run_pure,Result.andThen_ok,List.map_toArray,List.map_cons,List.map_nil,cU k9,cU k11,hrun]
 refine bM ho4 hg4 (cO hrun4 ?_);rw[hd4];rw[Td]at hr5;have j8:=aS (d:=12) (u:=aV b5 0 (K+(1+(N+30)/31)) cap5) k8 (by decide);have j4:=aS (d:=12) (u:=aV b5 0 (K+(1+(N+30)/31)) cap5) k4 (by decide);have j12:=aY a4 12 (aV b5 0 (K+(1+(N+30)/31)) cap5) (by rw[kz]; decide);have jz:(a4.put (some 12) (aV b5 0 (K+(1+(N+30)/31)) cap5)).tmps.size=18:=by rw[aG]; exact kz
 have jd:(a4.put (some 12) (aV b5 0 (K+(1+(N+30)/31)) cap5)).defers=[]:=kd;generalize a4.put (some 12) (aV b5 0 (K+(1+(N+30)/31)) cap5)=a5 at *;have hb15:=(hb3.trans (hb4.mono hb3.size)).trans (hB5.mono (Nat.le_trans hb3.size hb4.size));have hall:∀q,q<K+(1+(N+30)/31)→UK fa K fm N q<RM:=fun q hq=>by
  unfold UK;split
  ·exact hfa _ (by assumption)
  ·exact aAT hfm hN _
 obtain⟨o5,ho5,⟨ts5,hop5⟩,hd5,hg5⟩:∃x,(aD BF)[5]?=some x∧(∃ts,x.op=.call ⟨.value (.func 52),#[.tmp 8,.tmp 12],ts⟩)∧x.dst=some 13∧x.guard=none:=⟨_,rfl,⟨_,rfl⟩,rfl,rfl⟩
 have hL5:LV w5 (aV b5 0 (K+(1+(N+30)/31)) cap5) (K+(1+(N+30)/31)) (UK fa K fm N):=⟨_,_,rfl,hcap,fun j hj=>Nat.lt_trans (hall j hj) (by decide),fun _=>⟨_,_,rfl,hlt5,hr5⟩⟩;refine bM ho5 hg5 (dI hop5 (vs:=[.agg (aA (rR 3 8 57)).toArray,aV b5 0 (K+(1+(N+30)/31)) cap5]) (List.cons_eq_cons.2 ⟨cU j8,List.cons_eq_cons.2 ⟨cU j12,rfl⟩⟩) (fun args=>bR func52 (by kernel_rfl) (by kernel_rfl) args _) (Ae hL5 hall (by omega) (hD1.on hD1.lt hb15)) fun e w6 hq => ?_);obtain⟨rfl,hb6⟩:=hq;refine⟨_,rfl,?_⟩;rw[hd5];have hD:Vh (K+(1+(N+30)/31)) (UK fa K fm N)<RM:=Rq _ _;have hEq:Te fa K fm N=Vh (K+(1+(N+30)/31)) (UK fa K fm N)%lJ:=rfl;rw[hEq];generalize Vh (K+(1+(N+30)/31)) (UK fa K fm N)=D at *;have hb16:=hb15.trans (hb6.mono hb15.size);have hS6:=AA (nt:=18) (w:=w6) (a:=a5.put (some 13) (RV.many [.fl [.q D],.im (.int .i64 0)]).den) (ts:=[(13,.tu [.fl [.q D],.im (.int .i64 0)]),(4,.im (ptV rb 0))]) jd (by rw[aG]; exact jz) (fun x hx β=>by
  simp only[List.mem_cons,List.not_mem_nil,or_false]at hx
  rcases hx with rfl|rfl
  ·exact aY _ _ _ (by rw[jz]; decide)
  ·exact aS j4 (by simp))
 refine aU (c:=tC T0 _) (hT _ _ 0) (hG _ _) (aAl rb D) trivial (by kernel_rfl) hS6 fun a7 w7 hA => ?_
 refine wp_seq ?_;rw[ZZ];refine bQ (l:=List.range' 0 ((aD Iq).extract 0 2).size++(2::[])) (by kernel_rfl) ?_;refine aU (c:=tC _ _) (fun _=>((bT _).add func54 (by kernel_rfl) (by kernel_rfl) aFk).w _ _) (hG _ _) (aAk rb D 0) ⟨Nat.lt_trans hD (by decide),trivial⟩ (by kernel_rfl) hA fun a8 w8 hA => ?_
 obtain⟨o9,ho9,hop9,hd9,hg9⟩:∃x,(aD Iq)[2]?=some x∧x.op=.store 50 (.tmp 4) (.tmp 17)∧x.dst=none∧x.guard=none:=⟨_,rfl,rfl,rfl,rfl⟩
 have hb8:=hA.below;have m3:=(hrb.on hb16).on hb8;obtain⟨hR,hW⟩:=m3.set (o:=0) (p:=[.q (D%lJ)]) (l':=[.q (D%lJ)]) rfl;refine bM ho9 hg9 (eT (vs:=aA [.q (D%lJ)]) hop9 hd9 (cU (hA.slot (s:=4) (v:=ptV rb 0) (by simp))) (cU (hA.slotF (s:=17) (by simp))) rfl (pH _) Og (m3.there (o:=0) (n:=4) (Nat.le_of_ble_eq_true rfl)) ?_);have hH:=hR.holds (k:=4) (nt:=18) (a:=a8) (ts:=[]) hA.defers hA.size rfl (hA.slot (s:=4) (v:=ptV rb 0) (by simp)) (fun x hx=>by cases hx);exact wp_ret (cT (l:=[.fl [.q (D%lJ)]]) (r:=.one (.fl [.q (D%lJ)])) (by kernel_rfl) (by kernel_rfl) hH ⟨rfl,(hbl.trans ((hb16.trans (hb8.mono hb16.size)).mono hbl.size)).trans (hW.below.mono hrB)⟩)
def Al (K:Nat) (fa:Nat→Nat) (v:Value) (h:Nat):gE
 | [.v (.im u),.s L n m]=>some ([u=v,n=K,m=K,aA L=aA (bP (el fa) 0 K)],.one (.fl [.q h]))
 | _=>none
theorem Jg {w:World} {v:Value} {N K:Nat} {fm fa:Nat→Nat} (hb:BV w v N fm) (hN:N≤4096) (hK0:0<K) (hK:K≤4) (hfa:∀q,q<K→fa q<RM) (hDj:Dbj w):∀cs pre r,Al K fa v (Te fa K fm N) cs=some (pre,r)→aT pre→∀(args:List Value),cD w cs args→bD prog 32 r args w:=by
 intro cs pre r hg hp args ha;unfold Al at hg;split at hg
 ·cases hg;obtain⟨p1,p2,p3,p4,_⟩:=hp
  match args,ha with
  | [u,x],ha =>
   have e1:u=_:=ha.1;subst e1; subst p1; subst p2; subst p3;have hv:LV w x _ fa:=LV.ofS ha.2.1 p4 rfl (Nat.le_refl _) (fun j hj=>Nat.lt_trans (hfa j hj) (by decide));obtain⟨b',o,e2,_⟩:=ha.2.1;subst e2;exact LH hb hN hv hK0 hK hfa hDj
  | [],ha=>exact ha.elim
  | [_],ha=>exact ha.2.elim
  | _::_::_::_,ha=>exact ha.2.2.elim
 ·cases hg
theorem Ml {w:World} {v:Value} {N K:Nat} {fm fa:Nat→Nat} (hb:BV w v N fm) (hN:N≤4096) (hK0:0<K) (hK:K≤4) (hfa:∀q,q<K→fa q<RM) (hDj:Dbj w):TabOkW prog (T0.add 32 (Al K fa v (Te fa K fm N))) w.heap.size w :=
 TabOkW.add ((bT _).w _ _) func32 (by kernel_rfl) (by kernel_rfl) fun w' hw=>Jg (hb.on hw) hN hK0 hK hfa (hDj.on hDj.lt hw)
theorem Qs (s:Nat) (v:Value) (h:Nat) (fa:Nat→Nat):bZ prog (qG prog) (fun _=>tC (T0.add 32 (Al 1 fa v h)) fun _=>none) f18 60 [.v (.fl [.q s]),.v (.im v)]=some ([v=v,1=1,1=1,aA [At.q s]=aA (bP (el fa) 0 1)],.one (.fl [.q h])):=by kernel_rfl
def RT (s:Nat) (fm:Nat→Nat) (N:Nat):Nat:=Te (fun _=>s) 1 fm N
theorem FI {w:World} {v:Value} {N s:Nat} {fm:Nat→Nat} (hb:BV w v N fm) (hN:N≤4096) (hs:s<RM) (hDj:Dbj w):bD prog 18 (.one (.fl [.q (RT s fm N)])) [.agg (aA [At.q s]).toArray,v] w :=
 bC aI (fun _ _=>Ml (fa:=fun _=>s) hb hN (by decide) (by decide) (fun _ _=>hs) hDj) ((aW _).w _ _) func18 (Qs s v _ _) ⟨rfl,rfl,rfl,rfl,trivial⟩ (args:=[.agg (aA [At.q s]).toArray,v]) ⟨rfl,rfl,trivial⟩
def Sr (a b c d q:Nat):Nat:=if q=0 then a else if q=1 then b else if q=2 then c else d
theorem Tw (r k:NP) (v:Value) (h:Nat) (fa:Nat→Nat):bZ prog (qG prog) (fun _=>tC (T0.add 32 (Al 4 fa v h)) fun _=>none) f20 60 [.v (.fl [.q r.1,.q r.2]),.v (.fl [.q k.1,.q k.2]),.v (.im v)]=some ([v=v,4=4,4=4,aA [At.q r.1,.q r.2,.q k.1,.q k.2]=aA (bP (el fa) 0 4)],.one (.fl [.q h])):=by kernel_rfl
def rZ (r k:NP) (fm:Nat→Nat) (N:Nat):Nat:=Te (Sr r.1 r.2 k.1 k.2) 4 fm N
theorem MP {w:World} {v:Value} {N:Nat} {r k:NP} {fm:Nat→Nat} (hb:BV w v N fm) (hN:N≤4096) (h1:r.1<RM) (h2:r.2<RM) (h3:k.1<RM) (h4:k.2<RM) (hDj:Dbj w):bD prog 20 (.one (.fl [.q (rZ r k fm N)])) [.agg (aA [At.q r.1,.q r.2]).toArray,.agg (aA [At.q k.1,.q k.2]).toArray,v] w :=
 bC aI (fun _ _=>Ml (fa:=Sr r.1 r.2 k.1 k.2) hb hN (by decide) (by decide) (fun q _=>by
  unfold Sr;split
  ·exact h1
  ·split
   ·exact h2
   ·split
    ·exact h3
    ·exact h4) hDj) ((aW _).w _ _) func20 (Tw r k v _ _) ⟨rfl,rfl,rfl,rfl,trivial⟩ (args:=[.agg (aA [At.q r.1,.q r.2]).toArray,.agg (aA [At.q k.1,.q k.2]).toArray,v]) ⟨rfl,rfl,rfl,trivial⟩
end Go.Proofs.YtpbljiejmfahcaaGreatDoor.Ex
namespace Go.Proofs.YtpbljiejmfahcaaGreatDoor
open Go.Proofs.Tryz
open Go.RowKit
def TIe (R S p y:Nat) (C:Nat→Nat) (j o:Nat) (P:Nat→Nat):Prop:=(∀k,p+4≤k→P k=0)∧eR R P 8+o*R^(p+j)=S+y*R^p*eR R C j
theorem Wl (R p y:Nat) (C P:Nat→Nat):eR R P 8+0*R^(p+0)=eR R P 8+y*R^p*eR R C 0:=by
 show _+0*_=_+_*0;rw[Nat.zero_mul,Nat.mul_zero]
theorem VM {R S p y j o d o':Nat} {C P:Nat→Nat} (hp:p<4) (hj:j<4) (h:TIe R S p y C j o P) (he:d+R*o'=y*C j+P (p+j)+o):TIe R S p y C (j+1) o' (iG P (p+j) d):=by
 refine⟨fun k hk=>by unfold iG; rw[if_neg (by omega)]; exact h.1 k hk,?_⟩;have e:y*C j*R^(p+j)=y*R^p*(C j*R^j):=by
  rw[Nat.pow_add,Nat.mul_assoc,Nat.mul_assoc,Nat.mul_left_comm (C j)]
 have:=uR (P:=P) (k:=p+j) (n:=8) (by omega) he h.2;rw[show p+(j+1)=p+j+1 by omega,this,cP,e,Nat.mul_add,Nat.add_assoc]
theorem Ej {R S p y o:Nat} {C P:Nat→Nat} (hp:p<4) (h:TIe R S p y C 4 o P):(∀k,p+1+4≤k→iG P (p+4) o k=0)∧eR R (iG P (p+4) o) 8=S+y*R^p*eR R C 4:=by
 refine⟨fun k hk=>by unfold iG; rw[if_neg (by omega)]; exact h.1 k (by omega),?_⟩;have h1:=pZ R P (p+4) o 8 (by omega);rw[h.1 (p+4) (Nat.le_refl _),Nat.zero_mul,Nat.add_zero]at h1;rw[h1,h.2]
structure TWe (w wr:World) (b:Nat) (P:Nat→Nat):Prop where
 below:Below b w wr
 size:w.heap.size+1≤wr.heap.size
 row:RowIs wr b 8 P
 lt:∀k,P k<18446744073709551616
 others:∀p:Addr,p.block<w.heap.size→p.block≠b→wr.cell? p=w.cell? p∧wr.frozen? p=w.frozen? p
 shape:Ex.Shape w wr
 free:(∀q,w.frozen? ⟨b,q,none⟩=false)→∀q,wr.frozen? ⟨b,q,none⟩=false
theorem TWe.set {w wr:World} {b:Nat} {P:Nat→Nat} (h:TWe w wr b P) {k d:Nat} (hk:k<8) (hd:d<18446744073709551616):TWe w (wr.setCell ⟨b,k,none⟩ (.int .u64 (d:Nat))) b (iG P k d) :=
 ⟨h.below.setCell (p:=⟨b,k,none⟩) (Nat.le_refl _) _,by rw[World.size_setCell]; exact h.size,h.row.set hk,fun x=>by unfold iG; split; exact hd; exact h.lt x,fun p h1 h2=>by
  refine⟨?_,by rw[World.frozen?_setCell]; exact (h.others p h1 h2).2⟩;rw[World.cell?_setCell_other (h:=fun he=>h2 (by simpa using (congrArg Addr.block he).symm)) ..];exact (h.others p h1 h2).1,h.shape.trans (Ex.oW _ _ _),fun hf q=>by rw[World.frozen?_setCell]; exact h.free hf q⟩
theorem aAO {x y:Nat} {p o:Nat} (hx:x<18446744073709551616) (hy:y<18446744073709551616) (hp:p<18446744073709551616) (ho:o<18446744073709551616):∃h l l' c c' g d o':Nat,(∀w,Calls prog 56 #[.int .u64 x,.int .u64 y] w fun e w'=>e=.returned (.tuple #[.int .u64 (h:Nat),.int .u64 (l:Nat)])∧w'=w) ∧
  (∀w,(callFunc 57 #[.int .u64 (l:Int),.int .u64 (o:Int),.int .u64 0]).run prog w=.ok (.value (.tuple #[.int .u64 (l':Int),.int .u64 (c:Int)])) w) ∧
  (∀w,(callFunc 57 #[.int .u64 (p:Int),.int .u64 (l':Int),.int .u64 0]).run prog w=.ok (.value (.tuple #[.int .u64 (d:Int),.int .u64 (c':Int)])) w) ∧
  ((h:Int)+(c:Int)=(g:Int))∧((g:Int)+(c':Int)=(o':Int)) ∧
  h≤18446744073709551614∧c≤1∧c'≤1∧g<18446744073709551616∧d<18446744073709551616∧o'<18446744073709551616∧Hid (d+18446744073709551616*o'=x*y+p+o):=by
 obtain⟨h,l,r,hh,hl,e⟩:=wG hx hy;obtain⟨l',c,r1,hl',hc,e1⟩:=gY hl ho;obtain⟨d,c',r2,hd,hc',e2⟩:=gY hp hl';have e':=e.out; have e1':=e1.out; have e2':=e2.out;have hxy:=mX (show x≤18446744073709551615 by omega) (show y≤18446744073709551615 by omega);have hb:h+c+c'<18446744073709551616:=by omega
 exact⟨h,l,l',c,c',h+c,d,h+c+c',r,r1,r2,by omega,by omega,hh,hc,hc',by omega,hd,hb,Lib.hid (by omega)⟩
theorem En (c0 c1 c2 c3:Nat):∀j:Nat,j<4→∀w:World,(Instr.index 50 (.agg #[.int .u64 c0,.int .u64 c1,.int .u64 c2,.int .u64 c3]) (.int .i64 j)).run prog w=.ok (.int .u64 (dL [c0,c1,c2,c3] j:Nat)) w:=by
 intro j hj w;have hs:Ex.cL prog 22=some 1:=by kernel_rfl
 have hsc:Ex.iQ prog 22=true:=by kernel_rfl
 match j,hj with
 | 0,_|1,_|2,_|3,_=>simp[Instr.index,asIntOf,run_underlying underlying50,Ex.bA hs,part,dL]
theorem TWe.drew {w wr:World} {b:Nat} {P:Nat→Nat} (h:TWe w wr b P):TWe w wr.drew b P:=⟨h.below.drew,h.size,h.row,h.lt,h.others,h.shape.trans (Ex.Shape.drew _),h.free⟩
set_option maxHeartbeats 1000000 in
theorem JD (w:World) (b p y c0 c1 c2 c3:Nat) (P0:Nat→Nat) (hp:p<4) (hy:y<18446744073709551616) (hc:cC c0 c1 c2 c3) (hb:b<w.heap.size) (hr:RowIs w b 8 P0) (hl:∀k,P0 k<18446744073709551616) (h0:∀k,p+4≤k→P0 k=0) :
  Calls prog 35 #[.pointer (some ⟨b,0,none⟩),.int .i64 (p:Nat),.int .u64 (y:Nat),.agg #[.int .u64 c0,.int .u64 c1,.int .u64 c2,.int .u64 c3]] w fun e w'=>∃P,e=.returned (.tuple #[])∧TWe w w' b P∧(∀k,p+1+4≤k→P k=0)∧eR 18446744073709551616 P 8=eR 18446744073709551616 P0 8+y*18446744073709551616^p*eR 18446744073709551616 (dL [c0,c1,c2,c3]) 4:=by
 have lC:=GI hc;obtain⟨C,eC⟩:∃C,C=dL [c0,c1,c2,c3]:=⟨_,rfl⟩
 have hix:∀j:Nat,j<4→∀w:World,(Instr.index 50 (.agg #[.int .u64 c0,.int .u64 c1,.int .u64 c2,.int .u64 c3]) (.int .i64 j)).run prog w=.ok (.int .u64 (C j:Nat)) w:=by
  rw[eC]; exact En c0 c1 c2 c3
 rw[←eC]at lC;rw[←eC];have HlC:=Lib.hid lC;have HC:=Lib.hid eC;clear eC lC;have HlP:=Lib.hid hl;have Hb:=Lib.hid hb
 go_enter func35,ntmps35
 go_wp2_with fail
 go_loopw [8,15] (fun ov jj wr=>∃(j o:Nat) (P:Nat→Nat),j≤4∧o<18446744073709551616∧jj=.int .i64 j∧ov=.int .u64 o∧TWe w wr b P∧Hid (TIe 18446744073709551616 (eR 18446744073709551616 P0 8) p y C j o P)) (fun _ j _=>4-(intOf j).toNat)
 case atStart =>
  refine⟨0,0,P0,by omega,by omega,rfl,rfl,?_,Lib.hid ⟨h0,Wl _ _ _ _ _⟩⟩;have hB:Below w.heap.size w (w.alloc (.cells #[.int .u64 c0,.int .u64 c1,.int .u64 c2,.int .u64 c3] 50)):=(Below.refl _ w).alloc (Nat.le_refl _) _;exact⟨hB.mono (Nat.le_of_lt Hb.out),by rw[World.size_alloc]; exact Nat.le_refl _,hr.below hB Hb.out,HlP.out,fun q h1 _=>⟨hB.cell h1,hB.frozen h1⟩,Ex.Shape.alloc _ _,fun hf q=>(hB.frozen (p:=⟨b,q,none⟩) Hb.out).trans (hf q)⟩
 case round =>
  obtain⟨j,o,P,hj,ho,rfl,rfl,m,mi⟩:=hrel
  by_cases hlt':j<4
  ·have cp:=m.row.cell (show p+j<8 by omega);have fp:=m.row.free (show p+j<8 by omega);have by':=HlC.out j
   have bp:=m.lt (p+j);have hixj:=hix j hlt';obtain⟨h,l,l',c,c',g,d,o',rm,r1,r2,q,q',bh,bc,bc',bg,bd,bo,e⟩:=aAO hy by' bp ho
   have M:=Lib.hid m;clear m by' bp
   go_wp2_with fail;refine (rm _).mono ?_
   rintro _ _ ⟨rfl,rfl⟩
   go_wp2_with fail
   go_region
   go_wp2_with fail
   go_roundw
   case rel=>exact⟨j+1,o',iG P (p+j) d,by omega,bo,by go_num,rfl,(M.out.set (by omega) bd).drew,Lib.hid (VM hp hlt' mi.out e.out)⟩
   case measure=>simp[intOf]; omega
  ·obtain rfl:j=4:=by omega
   have cp:=m.row.cell (show p+4<8 by omega);have fp:=m.row.free (show p+4<8 by omega);have M:=Lib.hid m;clear m;go_wp2_with fail;obtain⟨e1,e2⟩:=Ej hp mi.out;refine bodyPost_end (v:=.tuple #[]) (by simp[results,show f35.results = #[] by kernel_rfl]) rfl ⟨iG P (p+4) o,rfl,M.out.set (by omega) ho,e1,e2⟩
theorem TWe.wrc {w wr:World} {b:Nat} {P:Nat→Nat} (h:TWe w wr b P) (hf:∀q,w.frozen? ⟨b,q,none⟩=false) (hb:b<w.heap.size):Ex.WrC w wr b :=
 ⟨h.below,h.others,h.shape,h.free hf⟩
end Go.Proofs.YtpbljiejmfahcaaGreatDoor
namespace Go.Proofs.YtpbljiejmfahcaaGreatDoor.Ex
open Go.Proofs.Tryz
open Go.RowKit
def UG (a b c:Nat):Nat→Nat
 | 0=>a
 | p+1=>UG a b c p+fw b p*dU^p*c
def tkL (a b c p:Nat):List At:=[.q (UG a b c p%aF),.q (UG a b c p/aF)]
theorem IZ {a b c:Nat} (ha:a<aF) (hc:c<aF):∀p,UG a b c p<aF*dU^p
 | 0=>by rw[Nat.pow_zero,Nat.mul_one]; exact ha
 | p+1=>by
  have h:=IZ ha hc p (b:=b);have hy:fw b p≤dU-1:=Nat.le_sub_one_of_lt (Nat.mod_lt _ (by decide));have h1:fw b p*dU^p*c≤(dU-1)*dU^p*aF:=Nat.mul_le_mul (Nat.mul_le_mul_right _ hy) (Nat.le_of_lt hc);have h2:(dU-1)*dU^p*aF=(dU-1)*(aF*dU^p):=by rw[Nat.mul_assoc,Nat.mul_comm (dU^p)]
  have h3:aF*dU^(p+1)=dU*(aF*dU^p):=by rw[Nat.pow_succ,←Nat.mul_assoc,Nat.mul_comm]
  show UG a b c p+fw b p*dU^p*c<_;rw[h3];rw[h2]at h1;generalize aF*dU^p=X at *;generalize fw b p*dU^p*c=Y at *;rw[Nat.sub_one_mul]at h1;have h4:X≤dU*X:=Nat.le_mul_of_pos_left X (by decide);generalize dU*X=Z at *;omega
theorem Wk {a b c:Nat} (hb:b<aF):UG a b c 4=a+b*c:=by
 have h:=fA hb;unfold aC at h;show a+fw b 0*dU^0*c+fw b 1*dU^1*c+fw b 2*dU^2*c+fw b 3*dU^3*c=a+b*c;rw[Nat.add_assoc,Nat.add_assoc,Nat.add_assoc,←Nat.add_mul,←Nat.add_mul,←Nat.add_mul];congr 2;refine Eq.trans ?_ h;have e0:dU^0=1:=rfl;have e1:dU^1=18446744073709551616:=by decide
 have e2:dU^2=340282366920938463463374607431768211456:=by decide
 have e3:dU^3=6277101735386680763835789423207666416102355444464034512896:=by decide
 rw[e0,e1,e2,e3];omega
def IT (lo hi k:Nat):Nat:=if k<4 then fw lo k else fw hi (k-4)
theorem Th (lo hi k:Nat):IT lo hi k<18446744073709551616:=by
 unfold IT;split<;>exact Nat.mod_lt _ (by decide)
theorem Bh {lo hi p k:Nat} (h:hi<dU^p) (hk:p+4≤k):IT lo hi k=0:=by
 unfold IT;rw[if_neg (by omega)];unfold fw;rw[Nat.div_eq_of_lt (Nat.lt_of_lt_of_le h (Nat.pow_le_pow_right (by decide) (by omega)))]
theorem Jz {w:World} {b lo hi:Nat} (hr:w.rangeAt b 0 (aA [.q lo,.q hi])) (hf:∀q,w.frozen? ⟨b,q,none⟩=false):Go.Proofs.YtpbljiejmfahcaaGreatDoor.RowIs w b 8 (IT lo hi):=by
 intro k hk;refine⟨?_,hf k⟩;have h:∀v,(aA [At.q lo,.q hi])[k]?=some v→w.cell? ⟨b,k,none⟩=some v:=fun v hv=>by
  have:=hr k v hv
  rwa [Nat.zero_add]at this
 match k,hk with
 | 0,_|1,_|2,_|3,_|4,_|5,_|6,_|7,_=>exact h _ rfl
theorem Jy {lo hi:Nat} (hl:lo<aF) (hh:hi<aF):Go.Proofs.YtpbljiejmfahcaaGreatDoor.eR 18446744073709551616 (IT lo hi) 8=lo+aF*hi:=by
 have h:=Go.Proofs.YtpbljiejmfahcaaGreatDoor.jB 18446744073709551616 (IT lo hi) 4 4;rw[←Go.Proofs.YtpbljiejmfahcaaGreatDoor.iF,←Go.Proofs.YtpbljiejmfahcaaGreatDoor.iF]at h;have h1:aC (IT lo hi 0) (IT lo hi 1) (IT lo hi 2) (IT lo hi 3)=lo:=fA hl;have h2:aC (IT lo hi (4+0)) (IT lo hi (4+1)) (IT lo hi (4+2)) (IT lo hi (4+3))=hi:=fA hh;have e4:18446744073709551616^4=aF:=by decide
 rw[e4,h1,h2]at h;exact h
theorem ME {w:World} {b n:Nat} {P:Nat→Nat} (hr:Go.Proofs.YtpbljiejmfahcaaGreatDoor.RowIs w b 8 P) (hl:∀k,P k<18446744073709551616) (hn:Go.Proofs.YtpbljiejmfahcaaGreatDoor.eR 18446744073709551616 P 8=n):w.rangeAt b 0 (aA [.q (n%aF),.q (n/aF)]):=by
 have h:=Go.Proofs.YtpbljiejmfahcaaGreatDoor.jB 18446744073709551616 P 4 4;have hn':Go.Proofs.YtpbljiejmfahcaaGreatDoor.eR 18446744073709551616 P (4+4)=n:=hn;rw[hn',←Go.Proofs.YtpbljiejmfahcaaGreatDoor.iF,←Go.Proofs.YtpbljiejmfahcaaGreatDoor.iF]at h;have e4:18446744073709551616^4=aF:=by decide
 rw[e4]at h;have o1:cC (P 0) (P 1) (P 2) (P 3):=⟨hl 0,hl 1,hl 2,hl 3⟩;have o2:cC (P 4) (P 5) (P 6) (P 7):=⟨hl 4,hl 5,hl 6,hl 7⟩;have b1:aC (P 0) (P 1) (P 2) (P 3)<aF:=by unfold aC; obtain⟨_,_,_,_⟩:=o1; omega
 have b2:aC (P 4) (P 5) (P 6) (P 7)<aF:=by unfold aC; obtain⟨_,_,_,_⟩:=o2; omega
 have h':n=aC (P 0) (P 1) (P 2) (P 3)+aF*aC (P 4) (P 5) (P 6) (P 7):=h;have q1:aC (P 0) (P 1) (P 2) (P 3)=n%aF:=by rw[h',Nat.add_mul_mod_self_left,Nat.mod_eq_of_lt b1]
 have q2:aC (P 4) (P 5) (P 6) (P 7)=n/aF:=by rw[h',Nat.add_mul_div_left _ _ (by decide),Nat.div_eq_of_lt b1,Nat.zero_add]
 obtain⟨a0,a1,a2,a3⟩:=jN o1 (q1▸b1) q1;obtain⟨a4,a5,a6,a7⟩:=jN o2 (q2▸b2) q2;intro j v hv;rw[Nat.zero_add];have hj:j<8:=by
  rcases Nat.lt_or_ge j 8 with h|h
  ·exact h
  ·rw[List.getElem?_eq_none (show (aA [At.q (n%aF),.q (n/aF)]).length≤j from h)]at hv; cases hv
 have hc:=(hr j hj).1;rw[hc,←hv]
 match j,hj with
 | 0,_=>rw[a0]; rfl
 | 1,_=>rw[a1]; rfl
 | 2,_=>rw[a2]; rfl
 | 3,_=>rw[a3]; rfl
 | 4,_=>rw[a4]; rfl
 | 5,_=>rw[a5]; rfl
 | 6,_=>rw[a6]; rfl
 | 7,_=>rw[a7]; rfl
def gTk (Ls:Nat→List At) (ys:Nat→Nat) (c:Nat):List CA→Option (List Prop×Nat×RV×List At)
 | [.p l 0,.v (.im (.int .i64 (.ofNat p))),.v (.im u),.v (.fl m)]=>some ([p<4,aA l=aA (Ls p),u=u6 (ys p),aA m=aA [At.q c]],0,.many [],Ls (p+1))
 | _=>none
def T5k (Ls:Nat→List At) (ys:Nat→Nat) (c:Nat):Tab5:=kI.add 35 (gTk Ls ys c)
theorem Rv {a b c:Nat} (ha:a<aF) (hc:c<aF):∀cs pre j r l,gTk (tkL a b c) (fw b) c cs=some (pre,j,r,l)→aT pre→∀(args:List Value) (w:World),cD w cs args→∀b' o,args[j]?=some (.pointer (some ⟨b',o,none⟩))→(∀q,w.frozen? ⟨b',q,none⟩=false) →
  Calls prog 35 args.toArray w (fun e w'=>e=.returned r.den∧WrC w w' b'∧w'.rangeAt b' 0 (aA l)):=by
 intro cs pre j r l hg hp args w hA b' o hj hz;unfold gTk at hg;split at hg
 ·rename_i l' p u m;cases hg;obtain⟨p1,p2,p3,p4,_⟩:=hp
  match args,hA with
  | [x0,x1,x2,x3],hA =>
   obtain⟨b1,e0,h1,h2⟩:=hA.1;have e1:x1=.int .i64 (Int.ofNat p):=hA.2.1;have e2:x2=u:=hA.2.2.1;have e3:x3=.agg (aA m).toArray:=hA.2.2.2.1;subst e0; subst e1; subst e2; subst e3; subst p3;cases hj;rw[p4];rw[p2]at h2;have hn:=IZ ha hc p (b:=b);have hlo:UG a b c p%aF<aF:=Nat.mod_lt _ (by decide);have hhi:UG a b c p/aF<dU^p:=Nat.div_lt_of_lt_mul hn;have hhi2:UG a b c p/aF<aF:=Nat.lt_of_lt_of_le hhi (Nat.le_trans (Nat.pow_le_pow_right (by decide) (show p≤4 by omega)) (by decide));refine (Go.Proofs.YtpbljiejmfahcaaGreatDoor.JD w _ p (fw b p) (fw c 0) (fw c 1) (fw c 2) (fw c 3) (IT (UG a b c p%aF) (UG a b c p/aF)) p1 (Nat.mod_lt _ (by decide)) (fH c) h1 (Jz h2 hz) (Th _ _) (fun k hk=>Bh hhi hk)).mono ?_
   rintro e w' ⟨P,rfl,hT,_,hN⟩
   refine⟨rfl,hT.wrc hz h1,ME hT.row hT.lt ?_⟩;rw[hN,Jy hlo hhi2,←Go.Proofs.YtpbljiejmfahcaaGreatDoor.iF,Nat.mod_add_div];show _+_*_*aC (fw c 0) (fw c 1) (fw c 2) (fw c 3)=_;rw[fA hc];rfl
  | [],ha=>exact ha.elim
  | [_],ha=>exact ha.2.elim
  | [_,_],ha=>exact ha.2.2.elim
  | [_,_,_],ha=>exact ha.2.2.2.elim
  | _::_::_::_::_::_,ha=>exact ha.2.2.2.2.elim
 ·cases hg
def Di:Code:=(f21.body).getD .skip
def Xn:Code:=cA (cB (cB Di))
def pp8:Code:=cA (cB (cB (cB (cB Di))))
def Ni:List At:=[.f ⟨0,cS⟩,.f ⟨0,cS⟩]
theorem Gv:Di=.seq (cA Di) (.seq (cA (cB Di)) (.seq (.region 2 (aD Xn) true) (.seq (cA (cB (cB (cB Di)))) (.seq (.region 8 (aD pp8) false) .ret)))):=by kernel_rfl
theorem Xl:f21.ntmps=25:=by kernel_rfl
def ppF (a b c:Nat):List Fact:=[.slot 3 (.pt 3 0),.row 3 true [.q a],.slot 4 (.pt 4 0),.row 4 true [.q b],.slot 5 (.pt 5 0),.row 5 true [.q c],.slot 6 (.pt 6 0),.row 6 true zC]
theorem aEl (a b c:Nat):bE prog (qG prog) 25 (fun _=>tC T0 fun _=>none) 60 (cA Di) (fT 0 [.v (.fl [.q a]),.v (.fl [.q b]),.v (.fl [.q c])]) (ppF a b c)=some ([],.nrm,ppF a b c):=by kernel_rfl
theorem aEk (v3 v4 v5 v6:Value):bE prog (qG prog) 25 (fun _=>tC T0 fun _=>none) 60 (cA (cB Di)) [.slot 3 (.im v3),.slot 4 (.im v4),.slot 5 (.im v5),.slot 6 (.im v6)] [.slot 7 (.pt 7 0),.row 7 true Ni,.slot 3 (.im v3),.slot 4 (.im v4),.slot 5 (.im v5),.slot 6 (.im v6)]=some ([],.nrm,[.slot 7 (.pt 7 0),.row 7 true Ni,.slot 3 (.im v3),.slot 4 (.im v4),.slot 5 (.im v5),.slot 6 (.im v6)]):=by kernel_rfl
def xOq (base:Nat) (w:World) (ld:Nat→Option (List At)) (T5:Tab5):Ext:={ Ext.none with ld:=ld,old:=fun b o l=>b<base∧w.rangeAt b o (aA l),T2:=Dt,T3:=Dg,T4:=Dr,T5:=T5,T6:=Ds }
theorem No (base:Nat) (w:World) (ld:Nat→Option (List At)) {T5:Tab5} (h5:PtOk prog T5):bO prog { qG prog with x:=xOq base w ld T5 } base w :=
 ⟨(aW _).1,iZ (fun b o l h=>h) (fun w' _=>FrAt.none _ _) (fun w' _=>FsAt.none _ _) (Cw _) h5 (Dd _)⟩
theorem aEj (base n0:Nat) (W:World) (b c b4 b5 b6:Nat) (Ls:Nat→List At) (ys:Nat→Nat):bE prog { qG prog with x:=xOq base W (assoc [(13,[.q b]),(20,[.q c])]) (T5k Ls ys c) } 25 (fun _=>tC T0 fun _=>none) 80 (cA (cB (cB (cB Di)))) [.slot 7 (.pt 7 0),.row 7 true (Ls 0),.at 7 base,.at 25 n0,.slot 4 (.im (ptV b4 0)),.slot 5 (.im (ptV b5 0)),.slot 6 (.im (ptV b6 0))] [.slot 7 (.pt 7 0),.row 7 true (Ls 4),.slot 6 (.im (ptV b6 0))]=some ([b4<base∧W.rangeAt b4 0 (aA [At.q b]),dD [At.q b]=4,b5<base∧W.rangeAt b5 0 (aA [At.q c]),dD [At.q c]=4,0<4,aA (Ls 0)=aA (Ls 0),u6 (fw b 0)=u6 (ys 0),aA [At.q c]=aA [At.q c],b5<base∧W.rangeAt b5 0 (aA [At.q c]),dD [At.q c]=4,1<4,aA (Ls 1)=aA (Ls 1),u6 (fw b 1)=u6 (ys 1),aA [At.q c]=aA [At.q c],b5<base∧W.rangeAt b5 0 (aA [At.q c]),dD [At.q c]=4,2<4,aA (Ls 2)=aA (Ls 2),u6 (fw b 2)=u6 (ys 2),aA [At.q c]=aA [At.q c],b5<base∧W.rangeAt b5 0 (aA [At.q c]),dD [At.q c]=4,3<4,aA (Ls 3)=aA (Ls 3),u6 (fw b 3)=u6 (ys 3),aA [At.q c]=aA [At.q c]],.nrm,[.slot 7 (.pt 7 0),.row 7 true (Ls 4),.slot 6 (.im (ptV b6 0))]):=by kernel_rfl
theorem aEi (lo hi r b6:Nat):eH prog (qG prog) 25 (tC (T0.add 36 (Iv lo hi r)) fun _=>none) ((aD pp8).extract 0 2) [.slot 7 (.pt 7 0),.row 7 true [.q lo,.q hi],.slot 6 (.im (ptV b6 0))] [.slot 24 (.fl [.q r]),.slot 6 (.im (ptV b6 0))]=some ([aA [At.q lo,.q hi]=aA [At.q lo,.q hi]],[.slot 24 (.fl [.q r]),.slot 6 (.im (ptV b6 0))]):=by kernel_rfl
section
variable {ops:Array Oper} {o:Oper} {a:Act} {s:Nat} {S:World→Prop}
theorem Nj {b:Nat} (hop:o.op=.slice 68 (.tmp s) none none none) (hg:o.guard=none) (h:a.tmps[s]?=some (ptV b 0)):YieldsIf prog ops S o (.slice (some ⟨b,0,none⟩) 8 8) a :=
 Or.inl ⟨by simp[Region.wanted,hg],fun wx hw=>by
  have hs:cL prog 22=some 1:=by kernel_rfl
  have h':a.tmps[s]?=some (.pointer (some ⟨b,0,none⟩)):=h;simp[execOp,hop,Instr.sliceAt,Instr.sureAddr,run_underlying underlying68,Instr.sliceBounds,Instr.sliceBound,asIntOf,bA hs,Addr.add_mid,Act.eval,h']⟩
theorem Nk {b:Nat} (hop:o.op=.slice 50 (.tmp s) none none none) (hg:o.guard=none) (h:a.tmps[s]?=some (ptV b 0)):YieldsIf prog ops S o (.slice (some ⟨b,0,none⟩) 4 4) a :=
 Or.inl ⟨by simp[Region.wanted,hg],fun wx hw=>by
  have hs:cL prog 22=some 1:=by kernel_rfl
  have h':a.tmps[s]?=some (.pointer (some ⟨b,0,none⟩)):=h;simp[execOp,hop,Instr.sliceAt,Instr.sureAddr,run_underlying underlying50,Instr.sliceBounds,Instr.sliceBound,asIntOf,bA hs,Addr.add_mid,Act.eval,h']⟩
end
theorem Xm {w:World} {a:Act} {b3 b7 x:Nat} {Q:Exit→Act→World→Prop} (hm:oldOf w b3 0 [.q x]) (hO:Own w b7 Ni) (hne:b3≠b7) (h3:a.tmps[3]?=some (ptV b3 0)) (h7:a.tmps[7]?=some (ptV b7 0)) (hdf:a.defers=[]) (hsz:a.tmps.size=25)
  (hQ:∀a' w',a'.defers=[]→a'.tmps.size=25→(∀q,q<10→a'.tmps[q]?=a.tmps[q]?)→Own w' b7 [.q x,.f ⟨0,cS⟩]→Below b7 w w'→Q .normal a' w'):(Code.region 2 (aD Xn) true).wp prog Q a w:=by
 have hd:Below w.heap.size w w.drew:=(Below.refl _ w).drew;refine Code.wp_mono (Q:=gL fun a' w'=>a'.defers=[]∧a'.tmps.size=25∧(∀q,q<10→a'.tmps[q]?=a.tmps[q]?)∧Own w' b7 [.q x,.f ⟨0,cS⟩]∧Below b7 w w') (fun e a3 w3 h => ?_) (cF (fun wx=>True) 2 aI ?_)
 ·obtain⟨rfl,e1,e2,e3,e4,e5⟩:=h;exact hQ _ _ e1 e2 e3 e4 e5
 obtain⟨o0,ho0,hop0,hd0,hg0⟩:∃x,(aD Xn)[0]?=some x∧x.op=.slice 68 (.tmp 7) none none none∧x.dst=some 10∧x.guard=none:=⟨_,rfl,rfl,rfl,rfl⟩
 refine aE (i:=0) (v:=.slice (some ⟨b7,0,none⟩) 8 8) ho0 (by kernel_rfl) (by kernel_rfl) (by kernel_rfl) (by kernel_rfl) (fun _ _ _ h=>gQ h) trivial (Nj hop0 hg0 h7) ?_;rw[hd0];obtain⟨o1,ho1,hop1,hd1,hg1⟩:∃x,(aD Xn)[1]?=some x∧x.op=.slice 50 (.tmp 3) none none none∧x.dst=some 11∧x.guard=none:=⟨_,rfl,rfl,rfl,rfl⟩
 refine aE (i:=1) (v:=.slice (some ⟨b3,0,none⟩) 4 4) ho1 (by kernel_rfl) (by kernel_rfl) (by kernel_rfl) (by kernel_rfl) (fun _ _ _ h=>gQ h) trivial (Nk hop1 hg1 (aS h3 (by decide))) ?_;rw[hd1];obtain⟨o2,ho2,hop2,hd2,hg2⟩:∃x,(aD Xn)[2]?=some x∧x.op=.call ⟨.builtin .copy,#[.tmp 10,.tmp 11],#[69,69]⟩∧x.dst=some 12∧x.guard=none:=⟨_,rfl,rfl,rfl,rfl⟩
 have g10:((a.put (some 10) (.slice (some ⟨b7,0,none⟩) 8 8)).put (some 11) (.slice (some ⟨b3,0,none⟩) 4 4)).tmps[10]?=some (.slice (some ⟨b7,0,none⟩) 8 8):=aS (aY _ _ _ (by rw[hsz]; decide)) (by decide);have g11:((a.put (some 10) (.slice (some ⟨b7,0,none⟩) 8 8)).put (some 11) (.slice (some ⟨b3,0,none⟩) 4 4)).tmps[11]?=some (.slice (some ⟨b3,0,none⟩) 4 4):=aY _ _ _ (by simp only[aG,hsz]; decide);have gq:∀q,q<10→((a.put (some 10) (.slice (some ⟨b7,0,none⟩) 8 8)).put (some 11) (.slice (some ⟨b3,0,none⟩) 4 4)).tmps[q]?=a.tmps[q]?:=fun q hq=>by
  rw[fX _ _ _ _ (fun e=>absurd (Option.some.inj e) (by omega)),fX _ _ _ _ (fun e=>absurd (Option.some.inj e) (by omega))]
 have gz:((a.put (some 10) (.slice (some ⟨b7,0,none⟩) 8 8)).put (some 11) (.slice (some ⟨b3,0,none⟩) 4 4)).tmps.size=25:=by simp only[aG,hsz]
 have gd:((a.put (some 10) (.slice (some ⟨b7,0,none⟩) 8 8)).put (some 11) (.slice (some ⟨b3,0,none⟩) 4 4)).defers=[]:=hdf;generalize (a.put (some 10) (.slice (some ⟨b7,0,none⟩) 8 8)).put (some 11) (.slice (some ⟨b3,0,none⟩) 4 4)=c at *;refine aM (i:=2) (by kernel_rfl) ho2 fun K hK => ?_
 rw[if_pos (by simp[Region.wanted,hg2])];have hOd:=hO.on hd;have hmd:=hm.on hd;have hthere:=hOd.there (o:=0) (n:=4) (Nat.le_of_ble_eq_true rfl);have hcp:=run_copy_cells (P:=prog) w.drew 69 69 o2.type 22 b7 0 8 8 ⟨b3,0,none⟩ 4 4 (aA [At.q x]) underlying69 (by kernel_rfl) rfl (fun j v hj=>by rw[Addr.add_mid]; exact hmd.2 j v hj) (fun j hj=>(hthere j hj).1) (fun j hj=>(hthere j hj).2) (WT x);have hrun:(execOp c.eval o2).run prog w.drew=.ok (.value (goInt (aA [At.q x]).length)) (w.drew.setCells b7 0 (aA [At.q x])):=by
  unfold execOp;simp only[hop2,resolve,invoke,builtin,Sem.run_bind,Sem.run_pure,Result.andThen_ok,List.map_toArray,List.map_cons,List.map_nil,cU g10,cU g11,hcp]
 refine cO hrun ?_;rw[hd2];have hput:put Ni 0 [.q x]=some [.q x,.f ⟨0,cS⟩]:=rfl;obtain⟨hO2,hW⟩:=hOd.set hput;refine hK.out _ _ (Or.inl rfl) fun _ => ?_
 exact cK (by kernel_rfl) ⟨rfl,gd,by rw[aG]; exact gz,fun q hq=>by rw[fX _ _ _ _ (fun e=>absurd (Option.some.inj e) (by omega))]; exact gq q hq,hO2,(hd.mono (Nat.le_of_lt hO.lt)).trans hW.below⟩
theorem XJ {a b c:Nat} (ha:a<aF) (hb:b<aF) (hc:c<aF) (w0:World):bD prog 21 (.one (.fl [.q ((a+b*c)%lJ)])) [.agg (aA [.q a]).toArray,.agg (aA [.q b]).toArray,.agg (aA [.q c]).toArray] w0:=by
 have hG:∀base w,bO prog (qG prog) base w:=fun _ _=>(aW _).w _ _
 have hT:∀base w,∀n d:Nat,TabOkW prog T0 base w:=fun _ _ _ _=>(bT _).w _ _
 have hnt:f21.ntmps=25:=Xl;refine cQ func21 (cs:=[.v (.fl [.q a]),.v (.fl [.q b]),.v (.fl [.q c])]) (args:=[.agg (aA [.q a]).toArray,.agg (aA [.q b]).toArray,.agg (aA [.q c]).toArray]) (c:=Di) rfl ⟨rfl,rfl,rfl,trivial⟩ (Nat.le_of_ble_eq_true (by kernel_rfl)) fun x w hA => ?_
 rw[hnt]at hA;rw[Gv];refine wp_seq (aB aI (hT _ _) (hG _ _) (aEl a b c) trivial hA fun x w1 hA => ?_);unfold ppF at hA;obtain⟨b3,hA⟩:=hA.at (k:=3) (l:=[.q a]) (by simp);obtain⟨b4,hA⟩:=hA.at (k:=4) (l:=[.q b]) (by simp);obtain⟨b5,hA⟩:=hA.at (k:=5) (l:=[.q c]) (by simp);obtain⟨b6,hA⟩:=hA.at (k:=6) (l:=zC) (by simp);have m3:oldOf w1 b3 0 [.q a]:=hA.old (k:=3) (by simp) (by simp);have m4:oldOf w1 b4 0 [.q b]:=hA.old (k:=4) (by simp) (by simp);have m5:oldOf w1 b5 0 [.q c]:=hA.old (k:=5) (by simp) (by simp);have m6:Own w1 b6 zC:=hA.own (k:=6) (by simp) (by simp);have hB6:w0.heap.size≤b6:=hA.geq (k:=6) (l:=zC) (by simp) (by simp);have hbl:=hA.below;have hS:=bB (nt:=25) (w:=w1) (a:=x) (ts:=[(3,ptV b3 0),(4,ptV b4 0),(5,ptV b5 0),(6,ptV b6 0)]) hA.defers hA.size (fun z hz=>by
  simp only[List.mem_cons,List.not_mem_nil,or_false]at hz
  rcases hz with rfl|rfl|rfl|rfl
  ·exact hA.ptS (s:=3) (k:=3) (o:=0) (by simp) (by simp)
  ·exact hA.ptS (s:=4) (k:=4) (o:=0) (by simp) (by simp)
  ·exact hA.ptS (s:=5) (k:=5) (o:=0) (by simp) (by simp)
  ·exact hA.ptS (s:=6) (k:=6) (o:=0) (by simp) (by simp))
 clear hA;refine wp_seq (aB aI (hT _ _) (hG _ _) (aEk _ _ _ _) trivial hS fun x w2 hA => ?_);obtain⟨b7,hA⟩:=hA.at (k:=7) (l:=Ni) (by simp);have m7:Own w2 b7 Ni:=hA.own (k:=7) (by simp) (by simp);have hB7:w1.heap.size≤b7:=hA.geq (k:=7) (l:=Ni) (by simp) (by simp);have hb2:=hA.below;have t3:=hA.slot (s:=3) (v:=ptV b3 0) (by simp);have t4:=hA.slot (s:=4) (v:=ptV b4 0) (by simp);have t5:=hA.slot (s:=5) (v:=ptV b5 0) (by simp);have t6:=hA.slot (s:=6) (v:=ptV b6 0) (by simp);have t7:=hA.ptS (s:=7) (k:=7) (o:=0) (b:=b7) (by simp) (by simp);have hdf:=hA.defers;have hsz:=hA.size;clear hA hS;have l3:=m3.1;have l4:=m4.1;have l5:=m5.1;have l6:=m6.lt;have m32:=m3.on hb2;refine wp_seq (Xm m32 m7 (by omega) t3 t7 hdf hsz fun x' w3 d1 d2 d3 d4 hb3 => ?_);have m73:Own w3 b7 (tkL a b c 0):=d4.eq (by
  show _=aA [At.q (a%aF),.q (a/aF)];rw[Nat.mod_eq_of_lt ha,Nat.div_eq_of_lt ha];rfl)
 have hH:=m73.holds (k:=7) (nt:=25) (a:=x') (ts:=[(4,ptV b4 0),(5,ptV b5 0),(6,ptV b6 0)]) d1 d2 rfl ((d3 7 (by decide)).trans t7) (fun z hz=>by
  simp only[List.mem_cons,List.not_mem_nil,or_false]at hz
  rcases hz with rfl|rfl|rfl
  ·exact (d3 4 (by decide)).trans t4
  ·exact (d3 5 (by decide)).trans t5
  ·exact (d3 6 (by decide)).trans t6)
 have m42:=m4.on hb2;have m52:=m5.on hb2;have h4:b4<b7∧w3.rangeAt b4 0 (aA [At.q b]):=⟨by omega,(m42.below hb3 (by omega)).2⟩;have h5:b5<b7∧w3.rangeAt b5 0 (aA [At.q c]):=⟨by omega,(m52.below hb3 (by omega)).2⟩;refine wp_seq (aB aI (hT _ _) (No b7 w3 _ ((nU _).add func35 (by kernel_rfl) (by kernel_rfl) (Rv ha hc))) (aEj b7 w3.heap.size w3 b c b4 b5 b6 (tkL a b c) (fw b)) ⟨h4,rfl,h5,rfl,by decide,rfl,rfl,rfl,h5,rfl,by decide,rfl,rfl,rfl,h5,rfl,by decide,rfl,rfl,rfl,h5,rfl,by decide,rfl,rfl,rfl,trivial⟩ hH fun x w4 hA => ?_);clear hH;have hN:UG a b c 4=a+b*c:=Wk hb;have hlt:=IZ ha hc 4 (b:=b);rw[hN]at hlt;have hA':Holds 25 b7 w3 [.slot 7 (.pt 7 0),.row 7 true [.q ((a+b*c)%aF),.q ((a+b*c)/aF)],.slot 6 (.im (ptV b6 0))] x w4:=by
  rw[←hN];exact hA
 have hlo:(a+b*c)%aF<aF:=Nat.mod_lt _ (by decide);have hhi:(a+b*c)/aF<aF:=Nat.lt_of_lt_of_le (Nat.div_lt_of_lt_mul hlt) (by decide);have hz:=PI hlo hhi;have e:(a+b*c)/aF*aF+(a+b*c)%aF=a+b*c:=by rw[Nat.mul_comm]; exact Nat.div_add_mod _ _
 rw[e]at hz;generalize (a+b*c)%lJ=r at *;generalize (a+b*c)%aF=lo at *;generalize (a+b*c)/aF=hi at *;clear hA;refine wp_seq (bQ (l:=List.range' 0 ((aD pp8).extract 0 2).size++(2::[])) (by kernel_rfl) ?_);refine aU (c:=tC _ _) (fun _=>((bT _).add func36 (by kernel_rfl) (by kernel_rfl) hz).w _ _) (hG _ _) (aEi lo hi r b6) ⟨rfl,trivial⟩ (by kernel_rfl) hA' fun x5 w5 hA => ?_
 obtain⟨o2,ho2,hop2,hd2,hg2⟩:∃x,(aD pp8)[2]?=some x∧x.op=.store 50 (.tmp 6) (.tmp 24)∧x.dst=none∧x.guard=none:=⟨_,rfl,rfl,rfl,rfl⟩
 have hb5:=hA.below;have m63:=((m6.on hb2).below hb3 (by omega)).below hb5 (by omega);obtain⟨hR,hW⟩:=m63.set (o:=0) (p:=[.q r]) (l':=[.q r]) rfl;refine bM ho2 hg2 (eT (vs:=aA [.q r]) hop2 hd2 (cU (hA.slot (s:=6) (v:=ptV b6 0) (by simp))) (cU (hA.slotF (s:=24) (by simp))) rfl (pH _) Og (m63.there (o:=0) (n:=4) (Nat.le_of_ble_eq_true rfl)) ?_);have hH:=hR.holds (k:=6) (nt:=25) (a:=x5) (ts:=[]) hA.defers hA.size rfl (hA.slot (s:=6) (v:=ptV b6 0) (by simp)) (fun x hx=>by cases hx);have hs1:=hbl.size;exact wp_ret (cT (l:=[.fl [.q r]]) (r:=.one (.fl [.q r])) (by kernel_rfl) (by kernel_rfl) hH ⟨rfl,(((hbl.trans (hb2.mono hs1)).trans (hb3.mono (by omega))).trans (hb5.mono (by omega))).trans (hW.below.mono hB6)⟩)
abbrev NS:=NP×Nat
def jD (s:NS):List At:=[.q s.1.1,.q s.1.2,.q s.2]
def IU (s:NS):Int:=if fS s.1=0 then (if s.2<lJ then 0 else 4)else fS s.1
def Cy (c:Int) (z:Bool):Tab:=((((NK.add 29 (Si c)).add 28 (Sm z)).add 49 (aAG true)).add 50 (aAJ true)).add 19 gTb
theorem OT (c:Int) (z:Bool):TabOk prog (Cy c z):=((((yK.add func29 (by kernel_rfl) (by kernel_rfl) (PJ wV c)).add func28 (by kernel_rfl) (by kernel_rfl) (aBh z)).add func49 (by kernel_rfl) (by kernel_rfl) (Jb KQ true)).add func50 (by kernel_rfl) (by kernel_rfl) (Jk ND true)).add func19 (by kernel_rfl) (by kernel_rfl) aAW
theorem Ko (s:NS) (c:Int):bZ prog (qG prog) (fun _=>⟨fun _=>Cy c true,fun _=>true,assoc [(8,.bool true)]⟩) f22 60 [.v (.fl (jD s))]=some ([s.1.1<aF,s.1.2<aF,fS s.1=c,aN .neq .i64 c 0=some (.bool true)],.one (.im (.int .i64 c))):=by kernel_rfl
theorem Kn (s:NS):bZ prog (qG prog) (fun _=>⟨fun _=>Cy 0 false,fun _=>true,fun _=>none⟩) f22 60 [.v (.fl (jD s))]=some ([s.1.1<aF,s.1.2<aF,fS s.1=0,s.2<aF,decide (s.2<lJ)=false],.one (.im (.int .i64 4))):=by kernel_rfl
theorem Km (s:NS):bZ prog (qG prog) (fun _=>⟨fun _=>Cy 0 true,fun _=>true,fun _=>none⟩) f22 60 [.v (.fl (jD s))]=some ([s.1.1<aF,s.1.2<aF,fS s.1=0,s.2<aF,decide (s.2<lJ)=true],.one (.im (.int .i64 0))):=by kernel_rfl
theorem Ho {k:Int} (h:k≠0):aN .neq .i64 k 0=some (.bool true):=by
 show some (Value.bool (k != 0))=_;rw[bne_iff_ne.2 h]
theorem TE (s:NS) (h1:s.1.1<aF) (h2:s.1.2<aF) (h3:s.2<aF) (args:List Value) (w:World) (ha:cD w [.v (.fl (jD s))] args):bD prog 22 (.one (.im (.int .i64 (IU s)))) args w:=by
 unfold IU;split
 ·rename_i h0;split
  ·exact aP aI (fun _ _=>OT 0 true) (aW _) func22 (Km s) ⟨h1,h2,h0,h3,decide_eq_true (by assumption),trivial⟩ ha
  ·exact aP aI (fun _ _=>OT 0 false) (aW _) func22 (Kn s) ⟨h1,h2,h0,h3,decide_eq_false (by assumption),trivial⟩ ha
 ·exact aP aI (fun _ _=>OT _ true) (aW _) func22 (Ko s _) ⟨h1,h2,rfl,Ho (by assumption),trivial⟩ ha
def Sk (c:Int):gE
 | [.v (.fl l)]=>match FK l with
  | some [a,b,d]=>some ([a<aF,b<aF,d<aF,IU ((a,b),d)=c,aA l=aA (jD ((a,b),d))],.one (.im (.int .i64 c)))
  | _=>none
 | _=>none
theorem aBg (c:Int):∀cs pre r,Sk c cs=some (pre,r)→aT pre→∀(args:List Value) (w:World),cD w cs args→bD prog 22 r args w:=by
 intro cs pre r hg hp args w ha;unfold Sk at hg;split at hg
 ·rename_i l;split at hg
  ·rename_i a b d hn;cases hg;obtain⟨p1,p2,p3,p4,p5,_⟩:=hp;subst p4
   match args,ha with
   | [x],ha =>
    have e1:x=.agg (aA l).toArray:=ha.1;subst e1;rw[p5];exact TE ((a,b),d) p1 p2 p3 _ w ⟨rfl,trivial⟩
   | [],ha=>exact ha.elim
   | _::_::_,ha=>exact ha.2.elim
  ·cases hg
 ·cases hg
def BG (p:NP) (h s:Nat):NS:=(CG (pN s) (mY (kT p) h),s)
theorem Rs (p:NP) (h s:Nat):bZ prog (qG prog) (fun _=>⟨fun _=>Cy 0 true,fun _=>true,fun _=>none⟩) f30 60 [.v (.fl [.q p.1,.q p.2]),.v (.fl [.q h]),.v (.fl [.q s])]=some ([p.1<aF,p.2<aF,iY p.1 p.2=true,(kT p).1<aF,(kT p).2<aF,iY (kT p).1 (kT p).2=true,(pN s).1<aF,(pN s).2<aF,(mY (kT p) h).1<aF,(mY (kT p) h).2<aF,(iY (pN s).1 (pN s).2&&iY (mY (kT p) h).1 (mY (kT p) h).2)=true],.one (.fl (jD (BG p h s)))):=by kernel_rfl
theorem tY {p:NP} (h:OnJ p.1 p.2):p.1<aF∧p.2<aF:=OnJ.w h
theorem mV {p:NP} (h:OnJ p.1 p.2):OnJ (kT p).1 (kT p).2:=by rw[OZ h]; exact kH _
theorem vK {p:NP} (h:OnJ p.1 p.2) (n:Nat):OnJ (mY p n).1 (mY p n).2:=by rw[AX h]; exact kH _
theorem Ac {p:NP} (hp:OnJ p.1 p.2) (h s:Nat) (args:List Value) (w:World) (ha:cD w [.v (.fl [.q p.1,.q p.2]),.v (.fl [.q h]),.v (.fl [.q s])] args):bD prog 30 (.one (.fl (jD (BG p h s)))) args w :=
 aP aI (fun _ _=>OT 0 true) (aW _) func30 (Rs p h s) ⟨(tY hp).1,(tY hp).2,yJ hp,(tY (mV hp)).1,(tY (mV hp)).2,yJ (mV hp),(tY (qR s)).1,(tY (qR s)).2,(tY (vK (mV hp) h)).1,(tY (vK (mV hp) h)).2,by rw[yJ (qR s),yJ (vK (mV hp) h)]; rfl,trivial⟩ ha
def Ak (p:NP) (h s:Nat) (t:NS):gE
 | [.v (.fl l),.v (.fl m),.v (.fl k)]=>some ([aA l=aA [At.q p.1,.q p.2],aA m=aA [At.q h],aA k=aA [At.q s]],.one (.fl (jD t)))
 | _=>none
theorem Jf {p:NP} (hp:OnJ p.1 p.2) (h s:Nat):∀cs pre r,Ak p h s (BG p h s) cs=some (pre,r)→aT pre→∀(args:List Value) (w:World),cD w cs args→bD prog 30 r args w:=by
 intro cs pre r hg hq args w ha;unfold Ak at hg;split at hg
 ·rename_i l m k;cases hg;obtain⟨p1,p2,p3,_⟩:=hq
  match args,ha with
  | [x,y,z],ha =>
   have e1:x=.agg (aA l).toArray:=ha.1;have e2:y=.agg (aA m).toArray:=ha.2.1;have e3:z=.agg (aA k).toArray:=ha.2.2.1;subst e1; subst e2; subst e3;rw[p1,p2,p3];exact Ac hp h s _ w ⟨rfl,rfl,rfl,trivial⟩
  | [],ha=>exact ha.elim
  | [_],ha=>exact ha.2.elim
  | [_,_],ha=>exact ha.2.2.elim
  | _::_::_::_::_,ha=>exact ha.2.2.2.elim
 ·cases hg
def LN (r k:NP) (v:Value) (h:Nat):gE
 | [.v (.fl l),.v (.fl m),.v (.im u)]=>some ([aA l=aA [At.q r.1,.q r.2],aA m=aA [At.q k.1,.q k.2],u=v],.one (.fl [.q h]))
 | _=>none
theorem BK {r k:NP} {w:World} {v:Value} {N:Nat} {fm:Nat→Nat} (hb:BV w v N fm) (hN:N≤4096) (hr:OnJ r.1 r.2) (hk:OnJ k.1 k.2) (hDj:Dbj w):∀cs pre q,LN r k v (rZ r k fm N) cs=some (pre,q)→aT pre→∀(args:List Value),cD w cs args→bD prog 20 q args w:=by
 intro cs pre q hg hq args ha;unfold LN at hg;split at hg
 ·rename_i l m u;cases hg;obtain⟨p1,p2,p3,_⟩:=hq
  match args,ha with
  | [x,y,z],ha =>
   have e1:x=.agg (aA l).toArray:=ha.1;have e2:y=.agg (aA m).toArray:=ha.2.1;have e3:z=u:=ha.2.2.1;subst e1; subst e2; subst e3; subst p3;rw[p1,p2];exact MP hb hN hr.1.1 hr.1.2 hk.1.1 hk.1.2 hDj
  | [],ha=>exact ha.elim
  | [_],ha=>exact ha.2.elim
  | [_,_],ha=>exact ha.2.2.elim
  | _::_::_::_::_,ha=>exact ha.2.2.2.elim
 ·cases hg
def Sa (s:Nat) (v:Value) (h:Nat):gE
 | [.v (.fl l),.v (.im u)]=>some ([aA l=aA [At.q s],u=v],.one (.fl [.q h]))
 | _=>none
theorem Ja {s:Nat} {w:World} {v:Value} {N:Nat} {fm:Nat→Nat} (hb:BV w v N fm) (hN:N≤4096) (hs:s<RM) (hDj:Dbj w):∀cs pre q,Sa s v (RT s fm N) cs=some (pre,q)→aT pre→∀(args:List Value),cD w cs args→bD prog 18 q args w:=by
 intro cs pre q hg hq args ha;unfold Sa at hg;split at hg
 ·rename_i l u;cases hg;obtain⟨p1,p3,_⟩:=hq
  match args,ha with
  | [x,z],ha =>
   have e1:x=.agg (aA l).toArray:=ha.1;have e3:z=u:=ha.2.1;subst e1; subst e3; subst p3;rw[p1];exact FI hb hN hs hDj
  | [],ha=>exact ha.elim
  | [_],ha=>exact ha.2.elim
  | _::_::_::_,ha=>exact ha.2.2.elim
 ·cases hg
def Rx (a b c r:Nat):gE
 | [.v (.fl l),.v (.fl m),.v (.fl k)]=>some ([aA l=aA [At.q a],aA m=aA [At.q b],aA k=aA [At.q c]],.one (.fl [.q r]))
 | _=>none
theorem Iy {a b c:Nat} (h1:a<aF) (h2:b<aF) (h3:c<aF):∀cs pre r,Rx a b c ((a+b*c)%lJ) cs=some (pre,r)→aT pre→∀(args:List Value) (w:World),cD w cs args→bD prog 21 r args w:=by
 intro cs pre r hg hq args w ha;unfold Rx at hg;split at hg
 ·rename_i l m k;cases hg;obtain⟨p1,p2,p3,_⟩:=hq
  match args,ha with
  | [x,y,z],ha =>
   have e1:x=.agg (aA l).toArray:=ha.1;have e2:y=.agg (aA m).toArray:=ha.2.1;have e3:z=.agg (aA k).toArray:=ha.2.2.1;subst e1; subst e2; subst e3;rw[p1,p2,p3];exact XJ h1 h2 h3 w
  | [],ha=>exact ha.elim
  | [_],ha=>exact ha.2.elim
  | [_,_],ha=>exact ha.2.2.elim
  | _::_::_::_::_,ha=>exact ha.2.2.2.elim
 ·cases hg
def NG (c d:Int) (z:Bool) (ch ho:gE):Tab:=((((NK.add 29 (Si d)).add 22 (Sk c)).add 17 (gLo z)).add 20 ch).add 30 ho
theorem aDR (k:NP) (s:NS) (p:Option Addr) (n m:Nat):bZ prog (qG prog) (fun _=>⟨fun _=>NG 4 0 false (fun _=>none) (fun _=>none),fun _=>true,fun _=>none⟩) f12 60 [.v (.fl [.q k.1,.q k.2]),.v (.im (.slice p n m)),.v (.fl (jD s))]=some ([k.1<aF,k.2<aF,fS k=0,s.1.1<aF,s.1.2<aF,s.2<aF,IU s=4,aA (jD s)=aA (jD s)],.one (.im (.int .i64 4))):=by kernel_rfl
theorem aDQ (k:NP) (s:NS) (p:Option Addr) (n m:Nat):bZ prog (qG prog) (fun _=>⟨fun _=>NG 0 0 true (fun _=>none) (fun _=>none),fun _=>true,fun _=>none⟩) f12 60 [.v (.fl [.q k.1,.q k.2]),.v (.im (.slice p n m)),.v (.fl (jD s))]=some ([k.1<aF,k.2<aF,fS k=0,s.1.1<aF,s.1.2<aF,s.2<aF,IU s=0,aA (jD s)=aA (jD s),decide (4096<n)=true],.one (.im (.int .i64 5))):=by kernel_rfl
theorem aDP (k:NP) (s t:NS) (p:Option Addr) (n m h:Nat):bZ prog (qG prog) (fun _=>⟨fun _=>NG 0 0 false (LN s.1 k (.slice p n m) h) (Ak k h s.2 t),fun _=>true,fun _=>none⟩) f12 60 [.v (.fl [.q k.1,.q k.2]),.v (.im (.slice p n m)),.v (.fl (jD s))]=some ([k.1<aF,k.2<aF,fS k=0,s.1.1<aF,s.1.2<aF,s.2<aF,IU s=0,aA (jD s)=aA (jD s),decide (4096<n)=false,aA [At.q s.1.1,.q s.1.2]=aA [At.q s.1.1,.q s.1.2],aA [At.q k.1,.q k.2]=aA [At.q k.1,.q k.2],Value.slice p n m=Value.slice p n m,aA [At.q k.1,.q k.2]=aA [At.q k.1,.q k.2],aA [At.q h]=aA [At.q h],aA [At.q s.2]=aA [At.q s.2],aA (jD s)=aA (jD t)],.one (.im (.int .i64 0))):=by kernel_rfl
theorem aDO (k:NP) (s t:NS) (p:Option Addr) (n m h:Nat):bZ prog (qG prog) (fun _=>⟨fun _=>NG 0 0 false (LN s.1 k (.slice p n m) h) (Ak k h s.2 t),fun _=>false,fun _=>none⟩) f12 60 [.v (.fl [.q k.1,.q k.2]),.v (.im (.slice p n m)),.v (.fl (jD s))]=some ([k.1<aF,k.2<aF,fS k=0,s.1.1<aF,s.1.2<aF,s.2<aF,IU s=0,aA (jD s)=aA (jD s),decide (4096<n)=false,aA [At.q s.1.1,.q s.1.2]=aA [At.q s.1.1,.q s.1.2],aA [At.q k.1,.q k.2]=aA [At.q k.1,.q k.2],Value.slice p n m=Value.slice p n m,aA [At.q k.1,.q k.2]=aA [At.q k.1,.q k.2],aA [At.q h]=aA [At.q h],aA [At.q s.2]=aA [At.q s.2],aA (jD s)≠aA (jD t)],.one (.im (.int .i64 122))):=by kernel_rfl
theorem aFC (k r:NP) (p:Option Addr) (n m h:Nat):bZ prog (qG prog) (fun _=>⟨fun _=>NG 0 0 false (LN r k (.slice p n m) h) (fun _=>none),fun _=>true,fun _=>none⟩) f13 80 [.v (.fl [.q r.1,.q r.2]),.v (.fl [.q k.1,.q k.2]),.v (.im (.slice p n m))]=some ([r.1<aF,r.2<aF,fS r=0,k.1<aF,k.2<aF,fS k=0,decide (4096<n)=false,aA [At.q r.1,.q r.2]=aA [At.q r.1,.q r.2],aA [At.q k.1,.q k.2]=aA [At.q k.1,.q k.2],Value.slice p n m=Value.slice p n m],.many [.fl [.q h],.im (.int .i64 0)]):=by kernel_rfl
theorem aFB (k r:NP) (p:Option Addr) (n m:Nat):bZ prog (qG prog) (fun _=>⟨fun _=>NG 0 0 true (fun _=>none) (fun _=>none),fun _=>true,fun _=>none⟩) f13 80 [.v (.fl [.q r.1,.q r.2]),.v (.fl [.q k.1,.q k.2]),.v (.im (.slice p n m))]=some ([r.1<aF,r.2<aF,fS r=0,k.1<aF,k.2<aF,fS k=0,decide (4096<n)=true],.many [.fl zC,.im (.int .i64 5)]):=by kernel_rfl
def Ld (y z:Bool) (ch no pp:gE):Tab:=((((Lf y).add 17 (gLo z)).add 20 ch).add 18 no).add 21 pp
def Dw:List At:=[.f ⟨0,cS⟩,.f ⟨0,cS⟩,.f ⟨0,cS⟩]
theorem aDW (s:Nat) (p:Option Addr) (n m k h q:Nat):bZ prog (qG prog) (fun _=>⟨fun _=>Ld true false (LN (pN k) (pN s) (.slice p n m) h) (Sa s (.slice p n m) k) (Rx k h s q),fun _=>true,fun _=>none⟩) f8 60 [.v (.fl [.q s]),.v (.im (.slice p n m))]=some ([s<aF,gF s=true,decide (4096<n)=false,aA [At.q s]=aA [At.q s],Value.slice p n m=Value.slice p n m,aA [At.q (pN k).1,.q (pN k).2]=aA [At.q (pN k).1,.q (pN k).2],aA [At.q (pN s).1,.q (pN s).2]=aA [At.q (pN s).1,.q (pN s).2],Value.slice p n m=Value.slice p n m,aA [At.q k]=aA [At.q k],aA [At.q h]=aA [At.q h],aA [At.q s]=aA [At.q s]],.many [.fl (jD (pN k,q)),.im (.int .i64 0)]):=by kernel_rfl
theorem aDV (s:Nat) (p:Option Addr) (n m:Nat):bZ prog (qG prog) (fun _=>⟨fun _=>Ld true true (fun _=>none) (fun _=>none) (fun _=>none),fun _=>true,fun _=>none⟩) f8 60 [.v (.fl [.q s]),.v (.im (.slice p n m))]=some ([s<aF,gF s=true,decide (4096<n)=true],.many [.fl Dw,.im (.int .i64 5)]):=by kernel_rfl
theorem aDU (s:Nat) (p:Option Addr) (n m:Nat):bZ prog (qG prog) (fun _=>⟨fun _=>Ld false true (fun _=>none) (fun _=>none) (fun _=>none),fun _=>true,fun _=>none⟩) f8 60 [.v (.fl [.q s]),.v (.im (.slice p n m))]=some ([s<aF,gF s=false],.many [.fl Dw,.im (.int .i64 121)]):=by kernel_rfl
theorem cM {f:Nat}:∀w:World,∀cs pre r,(fun _:List CA=>(none:Option (List Prop×RV))) cs=some (pre,r)→aT pre→∀(args:List Value),cD w cs args→bD prog f r args w:=fun _ _ _ _ h=>nomatch h
theorem xY {w:World} {c d:Int} {z:Bool} {ch ho:gE} (h1:∀w',Below w.heap.size w w'→∀cs pre r,ch cs=some (pre,r)→aT pre→∀(args:List Value),cD w' cs args→bD prog 20 r args w')
  (h2:∀w',Below w.heap.size w w'→∀cs pre r,ho cs=some (pre,r)→aT pre→∀(args:List Value),cD w' cs args→bD prog 30 r args w'):TabOkW prog (NG c d z ch ho) w.heap.size w :=
 TabOkW.add (TabOkW.add ((((yK.add func29 (by kernel_rfl) (by kernel_rfl) (PJ wV d)).add func22 (by kernel_rfl) (by kernel_rfl) (aBg c)).add func17 (by kernel_rfl) (by kernel_rfl) (aBd z)).w _ _) func20 (by kernel_rfl) (by kernel_rfl) h1) func30 (by kernel_rfl) (by kernel_rfl) h2
theorem WI {w:World} {y z:Bool} {ch no pp:gE} (h1:∀w',Below w.heap.size w w'→∀cs pre r,ch cs=some (pre,r)→aT pre→∀(args:List Value),cD w' cs args→bD prog 20 r args w')
  (h2:∀w',Below w.heap.size w w'→∀cs pre r,no cs=some (pre,r)→aT pre→∀(args:List Value),cD w' cs args→bD prog 18 r args w')
  (h3:∀w',Below w.heap.size w w'→∀cs pre r,pp cs=some (pre,r)→aT pre→∀(args:List Value),cD w' cs args→bD prog 21 r args w'):TabOkW prog (Ld y z ch no pp) w.heap.size w :=
 TabOkW.add (TabOkW.add (TabOkW.add (((XZ y).add func17 (by kernel_rfl) (by kernel_rfl) (aBd z)).w _ _) func20 (by kernel_rfl) (by kernel_rfl) h1) func18 (by kernel_rfl) (by kernel_rfl) h2) func21 (by kernel_rfl) (by kernel_rfl) h3
theorem mD {p:NP} (h:fS p=0):OnJ p.1 p.2:=by
 apply Classical.byContradiction;intro hn;rw[Cc hn]at h;exact absurd h (by decide)
theorem Cb {p:NP} (h:fS p=0):p.1<aF∧p.2<aF:=tY (mD h)
theorem Ph {s t:NS} (h1:s.1.1<aF) (h2:s.1.2<aF) (h3:s.2<aF) (t1:t.1.1<aF) (t2:t.1.2<aF) (t3:t.2<aF):aA (jD s)=aA (jD t)↔s=t:=by
 constructor
 ·intro h;have h':w4 s.1.1++(w4 s.1.2++(w4 s.2++[]))=w4 t.1.1++(w4 t.1.2++(w4 t.2++[])):=h;have l:∀x y:Nat,(w4 x).length=(w4 y).length:=fun _ _=>rfl
  obtain⟨a1,h'⟩:=List.append_inj h' (l _ _);obtain⟨a2,h'⟩:=List.append_inj h' (l _ _);obtain⟨a3,_⟩:=List.append_inj h' (l _ _);have f:∀x y:Nat,w4 x=w4 y→aA [At.q x]=aA [At.q y]:=fun x y e=>by
   show w4 x++[]=w4 y++[];rw[e]
  have e1:=(nV h1 t1).1 (f _ _ a1);have e2:=(nV h2 t2).1 (f _ _ a2);have e3:=(nV h3 t3).1 (f _ _ a3);exact Prod.ext (Prod.ext e1 e2) e3
 ·rintro rfl
  rfl
theorem Rt {k:NP} (hk:OnJ k.1 k.2) (h s:Nat):OnJ (BG k h s).1.1 (BG k h s).1.2:=by
 have e:(BG k h s).1=cj (eO.grp.add (jp (qR s)) (jp (vK (mV hk) h))):=QD (p:=pN s) (q:=mY (kT k) h) (qR s) (vK (mV hk) h);rw[e];exact kH _
theorem aAn (k:NP) (h s:Nat):(BG k h s).2=s:=rfl
theorem aCg {s:NS} (hs:IU s=0):fS s.1=0:=by
 unfold IU at hs;split at hs
 ·assumption
 ·exact hs
def VC (k:NP) (fm:Nat→Nat) (N:Nat) (s:NS):Int:=if IU s=4 then 4 else if 4096<N then 5 else by classical exact if s=BG k (rZ s.1 k fm N) s.2 then 0 else 122
theorem lH {w:World} {p:Option Addr} {N m:Nat} {fm:Nat→Nat} {k:NP} {s:NS} (hb:BV w (.slice p N m) N fm) (hk:fS k=0) (h1:s.1.1<aF) (h2:s.1.2<aF) (h3:s.2<aF) (hs:IU s=4∨IU s=0) (hDj:Dbj w) :
  bD prog 12 (.one (.im (.int .i64 (VC k fm N s)))) [.agg (aA [At.q k.1,.q k.2]).toArray,.slice p N m,.agg (aA (jD s)).toArray] w:=by
 have hG:bO prog (qG prog) w.heap.size w:=(aW _).w _ _;have hkw:=Cb hk;have ha:cD w [.v (.fl [.q k.1,.q k.2]),.v (.im (.slice p N m)),.v (.fl (jD s))] [.agg (aA [At.q k.1,.q k.2]).toArray,.slice p N m,.agg (aA (jD s)).toArray]:=⟨rfl,rfl,rfl,trivial⟩;unfold VC
 rcases hs with hs|hs
 ·rw[if_pos hs];exact bC aI (fun _ _=>xY (fun w' _=>cM w') (fun w' _=>cM w')) hG func12 (aDR k s p N m) ⟨hkw.1,hkw.2,hk,h1,h2,h3,hs,rfl,trivial⟩ ha
 ·have hsr:=aCg hs;rw[if_neg (by rw[hs]; decide)];split
  ·rename_i hN;exact bC aI (fun _ _=>xY (fun w' _=>cM w') (fun w' _=>cM w')) hG func12 (aDQ k s p N m) ⟨hkw.1,hkw.2,hk,h1,h2,h3,hs,rfl,decide_eq_true hN,trivial⟩ ha
  ·rename_i hN;have hN':N≤4096:=by omega
   have hch:∀w',Below w.heap.size w w'→∀cs pre r,LN s.1 k (.slice p N m) (rZ s.1 k fm N) cs=some (pre,r)→aT pre→∀(args:List Value),cD w' cs args→bD prog 20 r args w':=fun w' hw=>BK (hb.on hw) hN' (mD hsr) (mD hk) (hDj.on hDj.lt hw)
   have hho:∀w',Below w.heap.size w w'→∀cs pre r,Ak k (rZ s.1 k fm N) s.2 (BG k (rZ s.1 k fm N) s.2) cs=some (pre,r)→aT pre→∀(args:List Value),cD w' cs args→bD prog 30 r args w':=fun w' _ cs pre r hg hp args ha=>Jf (mD hk) _ _ cs pre r hg hp args w' ha
   generalize rZ s.1 k fm N=h at *;have hon:=tY (Rt (mD hk) h s.2);have h32:(BG k h s.2).2<aF:=by rw[aAn]; exact h3
   generalize BG k h s.2=t at *;have hiff:=Ph h1 h2 h3 hon.1 hon.2 h32;split
   ·rename_i he;exact bC aI (fun _ _=>xY hch hho) hG func12 (aDP k s t p N m h) ⟨hkw.1,hkw.2,hk,h1,h2,h3,hs,rfl,decide_eq_false hN,rfl,rfl,rfl,rfl,rfl,rfl,hiff.2 he,trivial⟩ ha
   ·rename_i he;exact bC aI (fun _ _=>xY hch hho) hG func12 (aDO k s t p N m h) ⟨hkw.1,hkw.2,hk,h1,h2,h3,hs,rfl,decide_eq_false hN,rfl,rfl,rfl,rfl,rfl,rfl,fun q=>he (hiff.1 q),trivial⟩ ha
def aEa (z:Bool) (h:Nat):RV:=bif z then .many [.fl zC,.im (.int .i64 5)]else .many [.fl [.q h],.im (.int .i64 0)]
theorem iP {w:World} {p:Option Addr} {N m:Nat} {fm:Nat→Nat} {k r:NP} (hb:BV w (.slice p N m) N fm) (hk:fS k=0) (hr:fS r=0) (hDj:Dbj w) :
  bD prog 13 (aEa (decide (4096<N)) (rZ r k fm N)) [.agg (aA [At.q r.1,.q r.2]).toArray,.agg (aA [At.q k.1,.q k.2]).toArray,.slice p N m] w:=by
 have hG:bO prog (qG prog) w.heap.size w:=(aW _).w _ _;have hkw:=Cb hk;have hrw:=Cb hr;have ha:cD w [.v (.fl [.q r.1,.q r.2]),.v (.fl [.q k.1,.q k.2]),.v (.im (.slice p N m))] [.agg (aA [At.q r.1,.q r.2]).toArray,.agg (aA [At.q k.1,.q k.2]).toArray,.slice p N m]:=⟨rfl,rfl,rfl,trivial⟩
 by_cases hN:4096<N
 ·rw[decide_eq_true hN];exact bC aI (fun _ _=>xY (fun w' _=>cM w') (fun w' _=>cM w')) hG func13 (aFB k r p N m) ⟨hrw.1,hrw.2,hr,hkw.1,hkw.2,hk,decide_eq_true hN,trivial⟩ ha
 ·rw[decide_eq_false hN];exact bC aI (fun _ _=>xY (fun w' hw=>BK (hb.on hw) (by omega) (mD hr) (mD hk) (hDj.on hDj.lt hw)) (fun w' _=>cM w')) hG func13 (aFC k r p N m _) ⟨hrw.1,hrw.2,hr,hkw.1,hkw.2,hk,decide_eq_false hN,rfl,rfl,rfl,trivial⟩ ha
def fU (s:Nat) (fm:Nat→Nat) (N:Nat):NS:=(pN (RT s fm N),(RT s fm N+rZ (pN (RT s fm N)) (pN s) fm N*s)%lJ)
theorem KO (s:Nat) (fm:Nat→Nat) (N:Nat):RT s fm N<lJ:=Bg _ _ _ _
theorem sY (r k:NP) (fm:Nat→Nat) (N:Nat):rZ r k fm N<lJ:=Bg _ _ _ _
def Fd (s N:Nat):Int:=if gF s=true then (if 4096<N then 5 else 0)else 121
theorem pD {w:World} {p:Option Addr} {N m s:Nat} {fm:Nat→Nat} (hb:BV w (.slice p N m) N fm) (hs:s<aF) (hDj:Dbj w) :
  bD prog 8 (if Fd s N=0 then .many [.fl (jD (fU s fm N)),.im (.int .i64 0)]else .many [.fl Dw,.im (.int .i64 (Fd s N))]) [.agg (aA [At.q s]).toArray,.slice p N m] w:=by
 have hG:bO prog (qG prog) w.heap.size w:=(aW _).w _ _;have ha:cD w [.v (.fl [.q s]),.v (.im (.slice p N m))] [.agg (aA [At.q s]).toArray,.slice p N m]:=⟨rfl,rfl,trivial⟩;unfold Fd
 by_cases hz:gF s=true
 ·have hsl:s<lJ:=(of_decide_eq_true hz).2;simp only[if_pos hz]
  by_cases hN:4096<N
  ·simp only[if_pos hN];rw[if_neg (by decide)];exact bC aI (fun _ _=>WI (fun w' _=>cM w') (fun w' _=>cM w') (fun w' _=>cM w')) hG func8 (aDV s p N m) ⟨hs,hz,decide_eq_true hN,trivial⟩ ha
  ·simp only[if_neg hN,if_true];have hN':N≤4096:=by omega
   exact bC aI (fun _ _=>WI (fun w' hw=>BK (hb.on hw) hN' (qR _) (qR _) (hDj.on hDj.lt hw)) (fun w' hw=>Ja (hb.on hw) hN' (Nat.lt_trans hsl (by decide)) (hDj.on hDj.lt hw)) (fun w' _ cs pre r hg hp args ha=>Iy (Nat.lt_trans (KO _ _ _) FV) (Nat.lt_trans (sY _ _ _ _) FV) hs cs pre r hg hp args w' ha)) hG func8 (aDW s p N m (RT s fm N) (rZ (pN (RT s fm N)) (pN s) fm N) _) ⟨hs,hz,decide_eq_false hN,rfl,rfl,rfl,rfl,rfl,rfl,rfl,rfl,trivial⟩ ha
 ·simp only[if_neg hz];rw[if_neg (by decide)];exact bC aI (fun _ _=>WI (fun w' _=>cM w') (fun w' _=>cM w') (fun w' _=>cM w')) hG func8 (aDU s p N m) ⟨hs,by simpa using hz,trivial⟩ ha
theorem Xk:dO lJ:=bW
theorem Mu:cj JB=(bX,bY):=Prod.ext (aED xW) (Zq xW)
theorem Zs:JB≠eO.grp.zero:=fun h=>by
 have h1:(cj JB).1=(cj eO.grp.zero).1:=by rw[h]
 rw[Mu]at h1;have h2:(cj eO.grp.zero).1=0:=by kernel_rfl
 rw[h2]at h1;exact absurd h1 (by decide)
theorem Mb {g:JP} (h0:eO.grp.ns lJ g=eO.grp.zero) (h:g≠eO.grp.zero):∀k,0<k→k<lJ→eO.grp.ns k g≠eO.grp.zero :=
 eO.grp.exact (l:=[lJ]) (Nat.mul_one lJ) (fun q hq=>by rw[List.mem_singleton.1 hq]; exact Xk) h0 fun q hq=>by
  rw[List.mem_singleton.1 hq,Nat.div_self BA,eO.grp.ns_one];exact h
theorem aCH:∀k,0<k→k<lJ→eO.grp.ns k JB≠eO.grp.zero:=Mb PY Zs
theorem OQ {n:Nat} (h:n<aF):pN n=cj (eO.grp.ns n JB):=by
 have:=XS n;rw[show wv n=n from fA h]at this;exact this
theorem aEr:pN 1=(bX,bY):=by rw[OQ (by decide),eO.grp.ns_one,Mu]
theorem Ab {s k h S:Nat} (hs:s<aF) (hk:k<aF) (hh:h<aF) (hS:S<aF):(BG (pN s) h S).1=pN k↔eO.grp.ns S JB=eO.grp.ns (k+s*h) JB:=by
 have e:(BG (pN s) h S).1=cj (eO.grp.add (eO.grp.ns S JB) (eO.grp.neg (eO.grp.ns (s*h) JB))):=by
  show CG (pN S) (mY (kT (pN s)) h)=_;rw[OQ hs,OQ hS,aEu,aEx,show wv h=h from fA hh,aCX,eO.grp.ns_neg,←eO.grp.ns_mul]
 rw[e,OQ hk,eO.grp.ns_add];constructor
 ·intro h;have h:=Ty h;rw[←h,eO.grp.assoc,eO.grp.nadd,eO.grp.addz]
 ·intro h;rw[h,eO.grp.assoc,eO.grp.addn,eO.grp.addz]
theorem OD {s:Nat} (h:gF s=true):0<s∧s<lJ:=by
 have:=of_decide_eq_true h;exact⟨Nat.pos_of_ne_zero this.1,this.2⟩
theorem Lv (s:Nat) (fm:Nat→Nat) (N:Nat):eO.grp.ns (fU s fm N).2 JB=eO.grp.ns (RT s fm N+s*rZ (fU s fm N).1 (pN s) fm N) JB:=by
 show eO.grp.ns ((RT s fm N+rZ (fU s fm N).1 (pN s) fm N*s)%lJ) JB=_;rw[eO.grp.ns_modz PY,Nat.mul_comm]
theorem OA (s:Nat) (fm:Nat→Nat) (N:Nat):(fU s fm N).2<lJ:=Nat.mod_lt _ BA
theorem Xe (s:Nat) (fm:Nat→Nat) (N:Nat):IU (fU s fm N)=0:=by
 unfold IU;rw[if_pos (show fS (fU s fm N).1=0 from lT _),if_pos (OA s fm N)]
theorem aDX (s:Nat) (fm:Nat→Nat) (N:Nat):(fU s fm N).1=pN (RT s fm N):=rfl
theorem Fc {s:Nat} {fm:Nat→Nat} {N h':Nat} (hs:gF s=true) (hh:h'<lJ):fU s fm N=BG (pN s) h' (fU s fm N).2↔rZ (fU s fm N).1 (pN s) fm N=h':=by
 obtain⟨s0,sl⟩:=OD hs;have lw:∀{x:Nat},x<lJ→x<aF:=fun h=>Nat.lt_trans h FV
 have h1:fU s fm N=BG (pN s) h' (fU s fm N).2↔(BG (pN s) h' (fU s fm N).2).1=pN (RT s fm N):=by
  rw[←aDX s fm N];constructor
  ·intro e; exact (congrArg Prod.fst e).symm
  ·intro e; exact Prod.ext e.symm rfl
 rw[h1,Ab (lw sl) (lw (KO _ _ _)) (lw hh) (lw (OA _ _ _)),Lv];have hc:=sY (fU s fm N).1 (pN s) fm N;generalize rZ (fU s fm N).1 (pN s) fm N=h at *;constructor
 ·intro e;rw[eO.grp.ns_add,eO.grp.ns_add]at e;have e:=eO.grp.cancel e;rw[eO.grp.ns_mul,eO.grp.ns_mul]at e;refine eO.grp.ns_inj (Mb ?_ (aCH s s0 sl)) hc hh e;rw[←eO.grp.ns_mul,Nat.mul_comm,eO.grp.ns_mul,PY,eO.grp.ns_zero]
 ·rintro rfl
  rfl
theorem WG {s:Nat} {fm:Nat→Nat} {N o:Nat} (hs:gF s=true) (ho:o<lJ) (hne:o≠(fU s fm N).2):((fU s fm N).1,o)≠BG (pN s) (rZ (fU s fm N).1 (pN s) fm N) o:=fun e=>by
 obtain⟨s0,sl⟩:=OD hs;have lw:∀{x:Nat},x<lJ→x<aF:=fun h=>Nat.lt_trans h FV
 have e1:(BG (pN s) (rZ (fU s fm N).1 (pN s) fm N) o).1=pN (RT s fm N):=(congrArg Prod.fst e).symm;have e2:=(Ab (lw sl) (lw (KO s fm N)) (lw (sY _ _ _ _)) (lw ho)).1 e1;rw[←Lv]at e2;exact hne (eO.grp.ns_inj aCH ho (OA s fm N) e2)
theorem Fp (v:Value):bZ prog (qG prog) (fun _=>⟨fun _=>T0,fun _=>true,fun _=>none⟩) f14 60 [.v (.im v)]=some ([],.one (.im v)):=by kernel_rfl
theorem aBc:∀cs pre r,Sb cs=some (pre,r)→aT pre→∀(args:List Value) (w:World),cD w cs args→bD prog 14 r args w:=by
 intro cs pre r hg hp args w ha;unfold Sb at hg;split at hg
 ·rename_i v;cases hg;exact aP aI (fun _ _=>bT _) (aW prog) func14 (Fp v) trivial ha
 ·cases hg
def Nd:Tab:=T0.add 51 Ry
theorem Qr:TabOk prog Nd:=(bT _).add func51 (by kernel_rfl) (by kernel_rfl) aAZ
theorem YE (s:ByteArray):bZ prog (qG prog) (fun n=>⟨fun _=>Nd,fun _=>true,fun _=>none⟩) f31 60 [.v (.im (.string s))]=some ([s.size≤maxLen],.one (.fl [.q (eJ s.data.toList).1])):=by kernel_rfl
theorem Tf:∀cs pre r,Aj cs=some (pre,r)→aT pre→∀(args:List Value) (w:World),cD w cs args→bD prog 31 r args w:=by
 intro cs pre r hg hp args w ha;unfold Aj at hg;split at hg
 ·rename_i s;cases hg;exact aP aI (fun _ _=>Qr) (aW _) func31 (YE s) hp ha
 ·cases hg
def Nb:Tab:=T0.add 31 Aj
theorem Qp:TabOk prog Nb:=(bT _).add func31 (by kernel_rfl) (by kernel_rfl) Tf
theorem JV:bZ prog (qG prog) (fun n=>⟨fun _=>Nb,fun _=>true,fun _=>none⟩) f15 60 []=some ([aBw.size≤maxLen,dgY.size≤maxLen],.one (.fl [.q bX,.q bY])):=by kernel_rfl
theorem Ge (w:World):bD prog 15 (.one (.fl [.q bX,.q bY])) [] w:=aP aI (fun _ _=>Qp) (aW _) func15 JV ⟨aBy,aBx,trivial⟩ (args:=[]) trivial
def Na (z y:Bool) (m:Nat):Nat→Tab:=fun s=>((T0.add 14 Sb).add 15 (g0 (.one (.fl [.q bX,.q bY])))).add 9 (gPu (bif Nat.blt s m then z else y))
theorem Qo (z y:Bool) (m s:Nat):TabOk prog (Na z y m s):=(((bT _).add func14 (by kernel_rfl) (by kernel_rfl) aBc).add func15 (by kernel_rfl) (by kernel_rfl) (wC Ge)).add func9 (by kernel_rfl) (by kernel_rfl) (aAY _)
theorem Nu:bZ prog (qG prog) (fun _=>⟨Na true false 8,fun _=>true,fun _=>none⟩) f7 60 []=some ([1<aF,gF 1=true,0<aF,gF 0=false,aA [At.q (pN 1).1,.q (pN 1).2]=aA [At.q bX,.q bY]],.one (.im (.bool true))):=by kernel_rfl
theorem Nt (w:World):bD prog 7 (.one (.im (.bool true))) [] w :=
 aP aI (fun _ s=>Qo true false 8 s) (aW _) func7 Nu ⟨by decide,decide_eq_true ⟨by decide,by decide⟩,by decide,decide_eq_false (fun h=>h.1 rfl),by rw[aEr],trivial⟩ (args:=[]) trivial
def rJ (s:Nat) (v:Value) (R:RV):gE
 | [.v (.fl l),.v (.im u)]=>some ([aA l=aA [At.q s],u=v],R)
 | _=>none
def xT (k:NP) (v:Value) (s:NS) (c:Int):gE
 | [.v (.fl l),.v (.im u),.v (.fl m)]=>some ([aA l=aA [At.q k.1,.q k.2],u=v,aA m=aA (jD s)],.one (.im (.int .i64 c)))
 | _=>none
def wB (r k:NP) (v:Value) (R:RV):gE
 | [.v (.fl l),.v (.fl m),.v (.im u)]=>some ([aA l=aA [At.q r.1,.q r.2],aA m=aA [At.q k.1,.q k.2],u=v],R)
 | _=>none
theorem oM {s:Nat} {v:Value} {R:RV} {w:World} (h:bD prog 8 R [.agg (aA [At.q s]).toArray,v] w):∀cs pre r,rJ s v R cs=some (pre,r)→aT pre→∀(args:List Value),cD w cs args→bD prog 8 r args w:=by
 intro cs pre r hg hp args ha;unfold rJ at hg;split at hg
 ·rename_i l u;cases hg
  match args,ha with
  | [x,z],ha =>
   have e1:x=.agg (aA l).toArray:=ha.1;have e3:z=u:=ha.2.1;rw[e1,e3,hp.1,hp.2.1];exact h
  | [],ha=>exact ha.elim
  | [_],ha=>exact ha.2.elim
  | _::_::_::_,ha=>exact ha.2.2.elim
 ·cases hg
theorem BJ {k:NP} {v:Value} {s:NS} {c:Int} {w:World} (h:bD prog 12 (.one (.im (.int .i64 c))) [.agg (aA [At.q k.1,.q k.2]).toArray,v,.agg (aA (jD s)).toArray] w):∀cs pre r,xT k v s c cs=some (pre,r)→aT pre→∀(args:List Value),cD w cs args→bD prog 12 r args w:=by
 intro cs pre r hg hp args ha;unfold xT at hg;split at hg
 ·rename_i l u m;cases hg
  match args,ha with
  | [x,y,z],ha =>
   have e1:x=.agg (aA l).toArray:=ha.1;have e2:y=u:=ha.2.1;have e3:z=.agg (aA m).toArray:=ha.2.2.1;rw[e1,e2,e3,hp.1,hp.2.1,hp.2.2.1];exact h
  | [],ha=>exact ha.elim
  | [_],ha=>exact ha.2.elim
  | [_,_],ha=>exact ha.2.2.elim
  | _::_::_::_::_,ha=>exact ha.2.2.2.elim
 ·cases hg
theorem BL {r' k:NP} {v:Value} {R:RV} {w:World} (h:bD prog 13 R [.agg (aA [At.q r'.1,.q r'.2]).toArray,.agg (aA [At.q k.1,.q k.2]).toArray,v] w):∀cs pre r,wB r' k v R cs=some (pre,r)→aT pre→∀(args:List Value),cD w cs args→bD prog 13 r args w:=by
 intro cs pre r hg hp args ha;unfold wB at hg;split at hg
 ·rename_i l m u;cases hg
  match args,ha with
  | [x,y,z],ha =>
   have e1:x=.agg (aA l).toArray:=ha.1;have e2:y=.agg (aA m).toArray:=ha.2.1;have e3:z=u:=ha.2.2.1;rw[e1,e2,e3,hp.1,hp.2.1,hp.2.2.1];exact h
  | [],ha=>exact ha.elim
  | [_],ha=>exact ha.2.elim
  | [_,_],ha=>exact ha.2.2.elim
  | _::_::_::_::_,ha=>exact ha.2.2.2.elim
 ·cases hg
def NH (z:Bool) (sg vf:gE):Tab:=(((T0.add 7 (g0 (.one (.im (.bool true))))).add 9 (gPu z)).add 8 sg).add 12 vf
theorem yN {w:World} {z:Bool} {sg vf:gE} (h1:∀w',Below w.heap.size w w'→∀cs pre r,sg cs=some (pre,r)→aT pre→∀(args:List Value),cD w' cs args→bD prog 8 r args w')
  (h2:∀w',Below w.heap.size w w'→∀cs pre r,vf cs=some (pre,r)→aT pre→∀(args:List Value),cD w' cs args→bD prog 12 r args w'):TabOkW prog (NH z sg vf) w.heap.size w :=
 TabOkW.add (TabOkW.add ((((bT _).add func7 (by kernel_rfl) (by kernel_rfl) (wC Nt)).add func9 (by kernel_rfl) (by kernel_rfl) (aAY z)).w _ _) func8 (by kernel_rfl) (by kernel_rfl) h1) func12 (by kernel_rfl) (by kernel_rfl) h2
theorem Yn (s o:Nat) (v:Value):bZ prog (qG prog) (fun _=>⟨fun _=>NH true (rJ s v (.many [.fl Dw,.im (.int .i64 5)])) (fun _=>none),fun _=>true,fun _=>none⟩) f4 60 [.v (.fl [.q s]),.v (.im v),.v (.fl [.q o])]=some ([aA [At.q s]=aA [At.q s],v=v,s<aF,gF s=true],.one (.im (.bool true))):=by kernel_rfl
theorem Ym (s o:Nat) (v:Value):bZ prog (qG prog) (fun _=>⟨fun _=>NH false (rJ s v (.many [.fl Dw,.im (.int .i64 121)])) (fun _=>none),fun _=>true,fun _=>none⟩) f4 60 [.v (.fl [.q s]),.v (.im v),.v (.fl [.q o])]=some ([aA [At.q s]=aA [At.q s],v=v,s<aF,gF s=false],.one (.im (.bool true))):=by kernel_rfl
theorem Yl (s o:Nat) (v:Value) (t:NS):bZ prog (qG prog) (fun _=>⟨fun _=>NH true (rJ s v (.many [.fl (jD t),.im (.int .i64 0)])) (fun _=>none),fun _=>true,fun _=>none⟩) f4 60 [.v (.fl [.q s]),.v (.im v),.v (.fl [.q o])]=some ([aA [At.q s]=aA [At.q s],v=v,s<aF,gF s=true,aA [At.q o]=aA [At.q t.2]],.one (.im (.bool true))):=by kernel_rfl
theorem Yk (s o:Nat) (v:Value) (t:NS):bZ prog (qG prog) (fun _=>⟨fun _=>NH true (rJ s v (.many [.fl (jD t),.im (.int .i64 0)])) (xT (pN s) v (t.1,o) 122),fun _=>false,fun _=>none⟩) f4 60 [.v (.fl [.q s]),.v (.im v),.v (.fl [.q o])]=some ([aA [At.q s]=aA [At.q s],v=v,s<aF,gF s=true,aA [At.q o]≠aA [At.q t.2],aA [At.q (pN s).1,.q (pN s).2]=aA [At.q (pN s).1,.q (pN s).2],v=v,aA (jD (t.1,o))=aA (jD (t.1,o))],.one (.im (.bool true))):=by kernel_rfl
theorem Yj (s o:Nat) (v:Value) (t:NS):bZ prog (qG prog) (fun _=>⟨fun _=>NH true (rJ s v (.many [.fl (jD t),.im (.int .i64 0)])) (xT (pN s) v (t.1,o) 4),fun _=>false,fun _=>none⟩) f4 60 [.v (.fl [.q s]),.v (.im v),.v (.fl [.q o])]=some ([aA [At.q s]=aA [At.q s],v=v,s<aF,gF s=true,aA [At.q o]≠aA [At.q t.2],aA [At.q (pN s).1,.q (pN s).2]=aA [At.q (pN s).1,.q (pN s).2],v=v,aA (jD (t.1,o))=aA (jD (t.1,o))],.one (.im (.bool true))):=by kernel_rfl
def TZ (z:Bool) (sg vf cg dg:gE) (b:Nat):Nat→Tab:=fun s=>(NH z sg vf).add 13 (bif Nat.blt s b then cg else dg)
theorem Yi (s:Nat) (v u:Value):bZ prog (qG prog) (fun _=>⟨TZ true (rJ s v (.many [.fl Dw,.im (.int .i64 5)])) (fun _=>none) (fun _=>none) (fun _=>none) 0,fun _=>true,fun _=>none⟩) f5 60 [.v (.fl [.q s]),.v (.im v),.v (.im u)]=some ([aA [At.q s]=aA [At.q s],v=v,s<aF,gF s=true],.one (.im (.bool true))):=by kernel_rfl
theorem Yh (s:Nat) (v u:Value):bZ prog (qG prog) (fun _=>⟨TZ false (rJ s v (.many [.fl Dw,.im (.int .i64 121)])) (fun _=>none) (fun _=>none) (fun _=>none) 0,fun _=>true,fun _=>none⟩) f5 60 [.v (.fl [.q s]),.v (.im v),.v (.im u)]=some ([aA [At.q s]=aA [At.q s],v=v,s<aF,gF s=false],.one (.im (.bool true))):=by kernel_rfl
def Qg (s:Nat) (v u:Value) (t:NS):List Prop:=[aA [At.q s]=aA [At.q s],v=v,s<aF,gF s=true,aA [At.q t.1.1,.q t.1.2]=aA [At.q t.1.1,.q t.1.2],aA [At.q (pN s).1,.q (pN s).2]=aA [At.q (pN s).1,.q (pN s).2],v=v,aA [At.q t.1.1,.q t.1.2]=aA [At.q t.1.1,.q t.1.2],aA [At.q (pN s).1,.q (pN s).2]=aA [At.q (pN s).1,.q (pN s).2],u=u,aA [At.q (pN s).1,.q (pN s).2]=aA [At.q (pN s).1,.q (pN s).2],u=u,aA (jD t)=aA (jD t)]
theorem Yg (s h:Nat) (v u:Value) (t:NS):bZ prog (qG prog) (fun _=>⟨TZ true (rJ s v (.many [.fl (jD t),.im (.int .i64 0)])) (xT (pN s) u t 5) (wB t.1 (pN s) v (.many [.fl [.q h],.im (.int .i64 0)])) (wB t.1 (pN s) u (.many [.fl zC,.im (.int .i64 5)])) 44,fun _=>false,fun _=>none⟩) f5 60 [.v (.fl [.q s]),.v (.im v),.v (.im u)]=some (Qg s v u t,.one (.im (.bool true))):=by kernel_rfl
theorem Yf (s h:Nat) (v u:Value) (t:NS):bZ prog (qG prog) (fun _=>⟨TZ true (rJ s v (.many [.fl (jD t),.im (.int .i64 0)])) (xT (pN s) u t 0) (wB t.1 (pN s) v (.many [.fl [.q h],.im (.int .i64 0)])) (wB t.1 (pN s) u (.many [.fl [.q h],.im (.int .i64 0)])) 44,fun _=>true,fun _=>none⟩) f5 60 [.v (.fl [.q s]),.v (.im v),.v (.im u)]=some (Qg s v u t++[aA [At.q h]=aA [At.q h]],.one (.im (.bool true))):=by kernel_rfl
theorem Ye (s h h':Nat) (v u:Value) (t:NS):bZ prog (qG prog) (fun _=>⟨TZ true (rJ s v (.many [.fl (jD t),.im (.int .i64 0)])) (xT (pN s) u t 122) (wB t.1 (pN s) v (.many [.fl [.q h],.im (.int .i64 0)])) (wB t.1 (pN s) u (.many [.fl [.q h'],.im (.int .i64 0)])) 44,fun _=>false,fun _=>none⟩) f5 60 [.v (.fl [.q s]),.v (.im v),.v (.im u)]=some (Qg s v u t++[aA [At.q h]≠aA [At.q h']],.one (.im (.bool true))):=by kernel_rfl
end Go.Proofs.YtpbljiejmfahcaaGreatDoor.Ex
