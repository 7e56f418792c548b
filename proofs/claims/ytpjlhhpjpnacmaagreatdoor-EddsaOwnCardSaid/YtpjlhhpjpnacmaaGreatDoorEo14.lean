/- Eo14 -/
import Derived.ArgAppend
import Derived.LoopTactic
import Derived.Laws.IdiomCopy
import Derived.Test.YtpjlhhpjpnacmaaGreatDoorEo13
import Derived.Test.YtpjlhhpjpnacmaaGreatDoorProg
set_option maxRecDepth 100000
set_option linter.unusedVariables false
set_option linter.unusedSimpArgs false
set_option linter.unnecessarySimpa false
noncomputable section
namespace Go.Proofs.YtpjlhhpjpnacmaaGreatDoor.Ex
open Go.Proofs.Tryz
open Go.RowKit
theorem kY {P:Program} {t:Nat} {l:List At} (h:BT P t=some l) (a:Act) {o:Oper} (ho:o.op=.alloc t) (w:World):(execOp a.eval o).run P w=.ok (.value (.pointer (some ⟨w.heap.size,0,none⟩))) (w.alloc (.cells (aA l).toArray t)):=by
 unfold BT at h;split at h
 ·rename_i i hi;split at h
  ·rename_i z hz;cases h;simp[execOp,ho,Instr.alloc,zeroValue,typeInfo,hi,hz,newVar,newRow,AI]
  ·cases h
 ·cases h
theorem uW (w:World) (l:List At) (t:Nat):Own (w.alloc (.cells (aA l).toArray t)) w.heap.size l∧Below w.heap.size w (w.alloc (.cells (aA l).toArray t)):=by
 have hB:Below w.heap.size w (w.alloc (.cells (aA l).toArray t)):=(Below.refl _ w).alloc (Nat.le_refl _) _;have h0:(w.alloc (.cells (aA l).toArray t)).heap[w.heap.size]?=some (.cells (aA l).toArray t):=World.alloc_heap_new _ _;refine⟨⟨by rw[World.size_alloc]; exact Nat.lt_succ_self _,fun q v hq => ?_,fun q => ?_⟩,hB⟩
 ·rw[cell_of_row _ _ (0+q) _ t (0,0) h0,Nat.zero_add];simpa using hq
 ·unfold World.frozen?;simp only[h0];simp
theorem Ei:(prog.info? 24).map (·.size)=some 4:=by kernel_rfl
theorem aFl:∃d,prog.underlying 24=some d∧d.isRow=true:=⟨_,underlying24,rfl⟩
theorem Dr:BT prog 24=some zC:=by kernel_rfl
section
variable {ops:Array Oper} {o:Oper} {a:Act} {s:Nat} {S:World→Prop}
theorem Pg {b:Nat} (hop:o.op=.slice 113 (.tmp s) none (some (.const (iI 4))) none) (hg:o.guard=none) (h:a.tmps[s]?=some (ptV b 0)):YieldsIf prog ops S o (.slice (some ⟨b,0,none⟩) 4 8) a :=
 Or.inl ⟨by simp[Region.wanted,hg],fun wx hw=>by
  have hs:cV prog 22=some 1:=by kernel_rfl
  have h':a.tmps[s]?=some (.pointer (some ⟨b,0,none⟩)):=h;simp[execOp,hop,iI,Instr.sliceAt,Instr.sureAddr,run_underlying underlying113,Instr.sliceBounds,Instr.sliceBound,asIntOf,bD hs,Addr.add_mid,Act.eval,h']⟩
theorem Ph {b:Nat} (hop:o.op=.slice 113 (.tmp s) (some (.const (iI 4))) none none) (hg:o.guard=none) (h:a.tmps[s]?=some (ptV b 0)):YieldsIf prog ops S o (.slice (some ⟨b,4,none⟩) 4 4) a :=
 Or.inl ⟨by simp[Region.wanted,hg],fun wx hw=>by
  have hs:cV prog 22=some 1:=by kernel_rfl
  have h':a.tmps[s]?=some (.pointer (some ⟨b,0,none⟩)):=h;simp[execOp,hop,iI,Instr.sliceAt,Instr.sureAddr,run_underlying underlying113,Instr.sliceBounds,Instr.sliceBound,asIntOf,bD hs,Addr.add_mid,Act.eval,h']⟩
theorem UJ {b of c:Nat} (hop:o.op=.sliceToArrayPointer 24 (.tmp s)) (hg:o.guard=none) (h:a.tmps[s]?=some (.slice (some ⟨b,of,none⟩) 4 c)):YieldsIf prog ops S o (ptV b of) a :=
 Or.inl ⟨by simp[Region.wanted,hg],fun wx hw=>by simp[execOp,hop,cL h,ptV,CV]⟩
end
def jR:Code:=(f64.body).getD .skip
def GS:Code:=cA (cB jR)
def re3:Code:=cA (cB (cB (cB jR)))
theorem Ga:jR=.seq (cA jR) (.seq (.region 1 (aD GS) true) (.seq (cA (cB (cB jR))) (.seq (.region 3 (aD re3) false) .ret))):=by kernel_rfl
theorem Zv:f64.ntmps=21:=by kernel_rfl
theorem Ng {K:Act→World→Prop} {S:World→Prop} {got:Array Bool} {a:Act} {w:World} {p q lo hi:Nat} (hr8:Region.ready .any (aD GS) got=[8]) (hr9:Region.ready .any (aD GS) (got.setIfInBounds 8 true)=[9]) (hrE:Region.ready .any (aD GS) ((got.setIfInBounds 8 true).setIfInBounds 9 true)=[])
  (h3:a.tmps[3]?=some (ptV p 0)) (h4:a.tmps[4]?=some (ptV q 0)) (h9:a.tmps[9]?=some (.agg (aA [At.q lo]).toArray)) (h12:a.tmps[12]?=some (.agg (aA [At.q hi]).toArray)) (hp:Own w p zC) (hq:Own w q zC) (hne:p≠q)
  (hS:∀w':World,WrC w w' p→S w')
  (hK:∀w':World,Own w' p [.q lo]→Own w' q [.q hi]→Below (min p q) w w'→K a w'):dM prog .any (aD GS) (gJ K) S 9 2 got a w:=by
 obtain⟨o8,ho8,hop8,hd8,hg8⟩:∃x,(aD GS)[8]?=some x∧x.op=.store 24 (.tmp 3) (.tmp 9)∧x.dst=none∧x.guard=none:=⟨_,rfl,rfl,rfl,rfl⟩
 obtain⟨o9,ho9,hop9,hd9,hg9⟩:∃x,(aD GS)[9]?=some x∧x.op=.store 24 (.tmp 4) (.tmp 12)∧x.dst=none∧x.guard=none:=⟨_,rfl,rfl,rfl,rfl⟩
 refine aQ hr8 ho8 fun K8 hK8 => ?_
 rw[if_pos (by simp[Region.wanted,hg8])];obtain⟨hp2,hW⟩:=hp.set (o:=0) (p:=[.q lo]) (l':=[.q lo]) rfl;refine eV (vs:=aA [.q lo]) hop8 hd8 (cL h3) (cL h9) rfl (oT _) Ei (hp.there (o:=0) (n:=4) (Nat.le_of_ble_eq_true rfl)) ?_;have hq2:=hq.wr hW (Ne.symm hne);have hS2:=hS _ hW;generalize w.setCells p 0 (aA [.q lo])=w2 at *;refine hK8.out _ _ (Or.inr hS2) fun _ => ?_
 clear hK8;refine aQ hr9 ho9 fun K9 hK9 => ?_
 rw[if_pos (by simp[Region.wanted,hg9])];obtain⟨hq3,hW3⟩:=hq2.set (o:=0) (p:=[.q hi]) (l':=[.q hi]) rfl;refine eV (vs:=aA [.q hi]) hop9 hd9 (cL h4) (cL h12) rfl (oT _) Ei (hq2.there (o:=0) (n:=4) (Nat.le_of_ble_eq_true rfl)) ?_;have hp3:=hp2.wr hW3 hne;refine hK9.out _ _ (Or.inl rfl) fun _ => ?_
 exact cU hrE ⟨rfl,hK _ hp3 hq3 ((hW.below.mono (Nat.min_le_left _ _)).trans (hW3.below.mono (Nat.min_le_right _ _)))⟩
theorem Qu {w:World} {a:Act} {pb rb lo hi:Nat} {Q:Exit→Act→World→Prop} (hm:oldOf w pb 0 [.q lo,.q hi]) (h1:a.tmps[1]?=some (ptV pb 0)) (h2:a.tmps[2]?=some (ptV rb 0)) (hdf:a.defers=[]) (hsz:a.tmps.size=21)
  (hQ:∀a' w' p q,a'.defers=[]→a'.tmps.size=21→a'.tmps[2]?=some (ptV rb 0)→a'.tmps[3]?=some (ptV p 0)→a'.tmps[4]?=some (ptV q 0)→Own w' p [.q lo]→Own w' q [.q hi]→Below w.heap.size w w'→Q .normal a' w'):(Code.region 1 (aD GS) true).wp prog Q a w:=by
 have hd:Below w.heap.size w w.drew:=(Below.refl _ w).drew;obtain⟨dW,huW,hdW⟩:=aFl;refine Code.wp_mono (Q:=gJ fun a' w'=>∃p q,a'.defers=[]∧a'.tmps.size=21∧a'.tmps[2]?=some (ptV rb 0)∧a'.tmps[3]?=some (ptV p 0)∧a'.tmps[4]?=some (ptV q 0)∧Own w' p [.q lo]∧Own w' q [.q hi]∧Below w.heap.size w w') (fun e a3 w3 h => ?_) (cM (fun wx=>wx.rangeAt pb 0 (aA [.q lo,.q hi])) 9 aI ?_)
 ·obtain⟨rfl,p,q,e1,e2,e3,e4,e5,e6,e7,e8⟩:=h;exact hQ _ _ _ _ e1 e2 e3 e4 e5 e6 e7 e8
 have hS:w.drew.rangeAt pb 0 (aA [.q lo,.q hi]):=(hm.on hd).2;have S0:∀wx:World,wx.rangeAt pb 0 (aA [.q lo,.q hi])→wx.rangeAt pb 0 (aA [At.q lo]):=fun wx h j v hj=>h j v (by
  have e:aA [At.q lo,.q hi]=aA [At.q lo]++aA [.q hi]:=by rw[←aM]; rfl
  rw[e];have hl:j<(aA [At.q lo]).length:=by
   rcases Nat.lt_or_ge j (aA [At.q lo]).length with h|h
   ·exact h
   ·rw[List.getElem?_eq_none h]at hj; cases hj
  rw[List.getElem?_append_left hl];exact hj)
 have S4:∀wx:World,wx.rangeAt pb 0 (aA [.q lo,.q hi])→wx.rangeAt pb 4 (aA [At.q hi]):=fun wx h j v hj=>by
  have e:aA [At.q lo,.q hi]=aA [At.q lo]++aA [.q hi]:=by rw[←aM]; rfl
  have:=h (4+j) v (by
   rw[e,List.getElem?_append_right (show (aA [At.q lo]).length≤4+j from Nat.le_add_right 4 j)];have:4+j-(aA [At.q lo]).length=j:=Nat.add_sub_cancel_left 4 j;rw[this];exact hj)
  rwa [Nat.zero_add]at this
 obtain⟨o0,ho0,hop0,hd0,hg0⟩:∃x,(aD GS)[0]?=some x∧x.op=.slice 113 (.tmp 1) none (some (.const (iI 4))) none∧x.dst=some 7∧x.guard=none:=⟨_,rfl,rfl,rfl,rfl⟩
 refine aE (i:=0) (v:=.slice (some ⟨pb,0,none⟩) 4 8) ho0 (by kernel_rfl) (by kernel_rfl) (by kernel_rfl) (by kernel_rfl) (fun _ _ _ h=>gO h) hS (Pg hop0 hg0 h1) ?_;rw[hd0];obtain⟨o1,ho1,hop1,hd1,hg1⟩:∃x,(aD GS)[1]?=some x∧x.op=.sliceToArrayPointer 24 (.tmp 7)∧x.dst=some 8∧x.guard=none:=⟨_,rfl,rfl,rfl,rfl⟩
 refine aE (i:=1) (v:=ptV pb 0) ho1 (by kernel_rfl) (by kernel_rfl) (by kernel_rfl) (by kernel_rfl) (fun _ _ _ h=>gO h) hS (UJ hop1 hg1 (aT _ _ _ (by rw[hsz]; decide))) ?_;rw[hd1];obtain⟨o2,ho2,hop2,hd2,hg2⟩:∃x,(aD GS)[2]?=some x∧x.op=.load 24 (.tmp 8)∧x.dst=some 9∧x.guard=none:=⟨_,rfl,rfl,rfl,rfl⟩
 refine aE (i:=2) (v:=.agg (aA [At.q lo]).toArray) ho2 (by kernel_rfl) (by kernel_rfl) (by kernel_rfl) (by kernel_rfl) (fun _ _ _ h=>gO h) hS (pJ hop2 hg2 (aT _ _ _ (by simp only[aF,hsz]; decide)) huW hdW Ei S0) ?_;rw[hd2];have k1:(((a.put (some 7) (.slice (some ⟨pb,0,none⟩) 4 8)).put (some 8) (ptV pb 0)).put (some 9) (.agg (aA [At.q lo]).toArray)).tmps[1]?=some (ptV pb 0):=aS (aS (aS h1 (by decide)) (by decide)) (by decide);have k2:(((a.put (some 7) (.slice (some ⟨pb,0,none⟩) 4 8)).put (some 8) (ptV pb 0)).put (some 9) (.agg (aA [At.q lo]).toArray)).tmps[2]?=some (ptV rb 0):=aS (aS (aS h2 (by decide)) (by decide)) (by decide);have k9:(((a.put (some 7) (.slice (some ⟨pb,0,none⟩) 4 8)).put (some 8) (ptV pb 0)).put (some 9) (.agg (aA [At.q lo]).toArray)).tmps[9]?=some (.agg (aA [At.q lo]).toArray):=aT _ _ _ (by simp only[aF,hsz]; decide);have kz:(((a.put (some 7) (.slice (some ⟨pb,0,none⟩) 4 8)).put (some 8) (ptV pb 0)).put (some 9) (.agg (aA [At.q lo]).toArray)).tmps.size=21:=by simp only[aF,hsz]
 have kd:(((a.put (some 7) (.slice (some ⟨pb,0,none⟩) 4 8)).put (some 8) (ptV pb 0)).put (some 9) (.agg (aA [At.q lo]).toArray)).defers=[]:=hdf;generalize ((a.put (some 7) (.slice (some ⟨pb,0,none⟩) 4 8)).put (some 8) (ptV pb 0)).put (some 9) (.agg (aA [At.q lo]).toArray)=a at *;obtain⟨o3,ho3,hop3,hd3,hg3⟩:∃x,(aD GS)[3]?=some x∧x.op=.slice 113 (.tmp 1) (some (.const (iI 4))) none none∧x.dst=some 10∧x.guard=none:=⟨_,rfl,rfl,rfl,rfl⟩
 refine aE (i:=3) (v:=.slice (some ⟨pb,4,none⟩) 4 4) ho3 (by kernel_rfl) (by kernel_rfl) (by kernel_rfl) (by kernel_rfl) (fun _ _ _ h=>gO h) hS (Ph hop3 hg3 k1) ?_;rw[hd3];obtain⟨o4,ho4,hop4,hd4,hg4⟩:∃x,(aD GS)[4]?=some x∧x.op=.sliceToArrayPointer 24 (.tmp 10)∧x.dst=some 11∧x.guard=none:=⟨_,rfl,rfl,rfl,rfl⟩
 refine aE (i:=4) (v:=ptV pb 4) ho4 (by kernel_rfl) (by kernel_rfl) (by kernel_rfl) (by kernel_rfl) (fun _ _ _ h=>gO h) hS (UJ hop4 hg4 (aT _ _ _ (by rw[kz]; decide))) ?_;rw[hd4];obtain⟨o5,ho5,hop5,hd5,hg5⟩:∃x,(aD GS)[5]?=some x∧x.op=.load 24 (.tmp 11)∧x.dst=some 12∧x.guard=none:=⟨_,rfl,rfl,rfl,rfl⟩
 refine aE (i:=5) (v:=.agg (aA [At.q hi]).toArray) ho5 (by kernel_rfl) (by kernel_rfl) (by kernel_rfl) (by kernel_rfl) (fun _ _ _ h=>gO h) hS (pJ hop5 hg5 (aT _ _ _ (by simp only[aF,kz]; decide)) huW hdW Ei S4) ?_;rw[hd5];have m2:(((a.put (some 10) (.slice (some ⟨pb,4,none⟩) 4 4)).put (some 11) (ptV pb 4)).put (some 12) (.agg (aA [At.q hi]).toArray)).tmps[2]?=some (ptV rb 0):=aS (aS (aS k2 (by decide)) (by decide)) (by decide);have m9:(((a.put (some 10) (.slice (some ⟨pb,4,none⟩) 4 4)).put (some 11) (ptV pb 4)).put (some 12) (.agg (aA [At.q hi]).toArray)).tmps[9]?=some (.agg (aA [At.q lo]).toArray):=aS (aS (aS k9 (by decide)) (by decide)) (by decide);have Nt:(((a.put (some 10) (.slice (some ⟨pb,4,none⟩) 4 4)).put (some 11) (ptV pb 4)).put (some 12) (.agg (aA [At.q hi]).toArray)).tmps[12]?=some (.agg (aA [At.q hi]).toArray):=aT _ _ _ (by simp only[aF,kz]; decide);have mz:(((a.put (some 10) (.slice (some ⟨pb,4,none⟩) 4 4)).put (some 11) (ptV pb 4)).put (some 12) (.agg (aA [At.q hi]).toArray)).tmps.size=21:=by simp only[aF,kz]
 have md:(((a.put (some 10) (.slice (some ⟨pb,4,none⟩) 4 4)).put (some 11) (ptV pb 4)).put (some 12) (.agg (aA [At.q hi]).toArray)).defers=[]:=kd;generalize ((a.put (some 10) (.slice (some ⟨pb,4,none⟩) 4 4)).put (some 11) (ptV pb 4)).put (some 12) (.agg (aA [At.q hi]).toArray)=b at *;obtain⟨o6,ho6,hop6,hd6,hg6⟩:∃x,(aD GS)[6]?=some x∧x.op=.alloc 24∧x.dst=some 3∧x.guard=none:=⟨_,rfl,rfl,rfl,rfl⟩
 obtain⟨o7,ho7,hop7,hd7,hg7⟩:∃x,(aD GS)[7]?=some x∧x.op=.alloc 24∧x.dst=some 4∧x.guard=none:=⟨_,rfl,rfl,rfl,rfl⟩
 have hmd:=hm.on hd;obtain⟨hO,hB⟩:=uW w.drew zC 24;obtain⟨hO2,hB2⟩:=uW (w.drew.alloc (.cells (aA zC).toArray 24)) zC 24;have hsz1:(w.drew.alloc (.cells (aA zC).toArray 24)).heap.size=w.drew.heap.size+1:=World.size_alloc _ _;have hm1:=hmd.on hB;have hm2:=hm1.on hB2;have hO1:=hO.on hB2;have hge:w.heap.size≤w.drew.heap.size:=hd.size;have hlt:=hm.1;have hB12:Below w.heap.size w ((w.drew.alloc (.cells (aA zC).toArray 24)).alloc (.cells (aA zC).toArray 24)):=(hd.trans (hB.mono hge)).trans (hB2.mono (by omega));refine uG (i:=6) (j:=7) (by kernel_rfl) ho6 ho7 (fun K hK => ?_) (fun K hK => ?_)
 ·rw[if_pos (by simp[Region.wanted,hg6])];refine bZ (kY Dr _ hop6 w.drew) ?_;rw[hd6];refine hK.out _ _ (Or.inr hm1.2) fun _ => ?_
  clear hK;refine aQ (i:=7) (by kernel_rfl) ho7 fun K7 hK7 => ?_
  rw[if_pos (by simp[Region.wanted,hg7])];refine bZ (kY Dr _ hop7 _) ?_;rw[hd7];refine hK7.out _ _ (Or.inr hm2.2) fun _ => ?_
  clear hK7;refine Ng (by kernel_rfl) (by kernel_rfl) (by kernel_rfl) (aS (aT _ _ _ (by rw[mz]; decide)) (by decide)) (aT _ _ _ (by simp only[aF,mz]; decide)) (aS (aS m9 (by decide)) (by decide)) (aS (aS Nt (by decide)) (by decide)) hO1 hO2 (by omega) (fun w' hW=>(hm2.wr hW (by omega)).2) fun w' e1 e2 e3=>⟨_,_,md,by simp only[aF,mz],aS (aS m2 (by decide)) (by decide),aS (aT _ _ _ (by rw[mz]; decide)) (by decide),aT _ _ _ (by simp only[aF,mz]; decide),e1,e2,hB12.trans (e3.mono (by omega))⟩
 ·rw[if_pos (by simp[Region.wanted,hg7])];refine bZ (kY Dr _ hop7 w.drew) ?_;rw[hd7];refine hK.out _ _ (Or.inr hm1.2) fun _ => ?_
  clear hK;refine aQ (i:=6) (by kernel_rfl) ho6 fun K6 hK6 => ?_
  rw[if_pos (by simp[Region.wanted,hg6])];refine bZ (kY Dr _ hop6 _) ?_;rw[hd6];refine hK6.out _ _ (Or.inr hm2.2) fun _ => ?_
  clear hK6;refine Ng (by kernel_rfl) (by kernel_rfl) (by kernel_rfl) (aT _ _ _ (by simp only[aF,mz]; decide)) (aS (aT _ _ _ (by rw[mz]; decide)) (by decide)) (aS (aS m9 (by decide)) (by decide)) (aS (aS Nt (by decide)) (by decide)) hO2 hO1 (by omega) (fun w' hW=>(hm2.wr hW (by omega)).2) fun w' e1 e2 e3=>⟨_,_,md,by simp only[aF,mz],aS (aS m2 (by decide)) (by decide),aT _ _ _ (by simp only[aF,mz]; decide),aS (aT _ _ _ (by rw[mz]; decide)) (by decide),e1,e2,hB12.trans (e3.mono (by omega))⟩
def Tw (h l m r:Nat):gL
 | [.v (.fl a),.v (.fl b),.v (.fl c)]=>some ([aA a=aA [At.q h],aA b=aA [At.q l],aA c=aA [At.q m]],.many [.fl [.q r],.im (.int .i64 0)])
 | _=>none
theorem Jn {h l m:Nat} (hh:h<aH) (hl:l<aH) (hm:m<aH) (h0:0<m):∀cs pre r,Tw h l m ((h*aH+l)%m) cs=some (pre,r)→bC pre→∀(args:List Value) (w:World),cT w cs args→bM prog 95 r args w:=by
 intro cs pre r hg hp args w ha;unfold Tw at hg;split at hg
 ·rename_i a b c;cases hg;obtain⟨p1,p2,p3,_⟩:=hp
  match args,ha with
  | [x,y,z],ha =>
   have e1:x=.agg (aA a).toArray:=ha.1;have e2:y=.agg (aA b).toArray:=ha.2.1;have e3:z=.agg (aA c).toArray:=ha.2.2.1;subst e1; subst e2; subst e3;rw[p1,p2,p3];have:=QR (fw h 0) (fw h 1) (fw h 2) (fw h 3) (fw l 0) (fw l 1) (fw l 2) (fw l 3) (fw m 0) (fw m 1) (fw m 2) (fw m 3) (eR h) (eR l) (eR m) w;rw[fC hh,fC hl,fC hm]at this;refine this.mono fun e w' ⟨s0,s1,s2,s3,c,he,hs,hv,hb⟩ => ?_
   rcases hv with⟨hz,_⟩|⟨_,hv,hc⟩
   ·omega
   ·obtain⟨q0,q1,q2,q3⟩:=jF hs (Nat.lt_trans (Nat.mod_lt _ h0) hm) hv;subst q0; subst q1; subst q2; subst q3; subst hc;exact⟨he,hb⟩
  | [],ha=>exact ha.elim
  | [_],ha=>exact ha.2.elim
  | [_,_],ha=>exact ha.2.2.elim
  | _::_::_::_::_,ha=>exact ha.2.2.2.elim
 ·cases hg
def aEw (h l r:Nat):Tab:=(T0.add 72 (g0 (.one (.fl [.q lJ])))).add 95 (Tw h l lJ r)
theorem JU:0<lJ:=by decide
theorem aAG {h l:Nat} (hh:h<aH) (hl:l<aH):TabOk prog (aEw h l ((h*aH+l)%lJ)):=((bU _).add func72 (by kernel_rfl) (by kernel_rfl) (tD oW)).add func95 (by kernel_rfl) (by kernel_rfl) (Jn hh hl YX JU)
theorem aFw (lo hi:Nat):aX prog (qG prog) 21 (fun _=>tC T0 fun _=>none) 60 (cA jR) (fD 0 [.v (.fl [.q lo,.q hi])]) [.slot 1 (.pt 1 0),.row 1 true [.q lo,.q hi],.slot 2 (.pt 2 0),.row 2 true zC]=some ([],.nrm,[.slot 1 (.pt 1 0),.row 1 true [.q lo,.q hi],.slot 2 (.pt 2 0),.row 2 true zC]):=by kernel_rfl
theorem aFv (w:World) (lo hi b3 b4 r rb:Nat):aX prog { qG prog with x:=xO w (fun _=>none) (assoc [(14,[.q hi]),(15,[.q lo])]) (fun _=>none) } 21 (fun _=>tC (aEw hi lo r) fun _=>none) 60 (cA (cB (cB jR))) [.slot 3 (.im (ptV b3 0)),.slot 4 (.im (ptV b4 0)),.slot 2 (.im (ptV rb 0))] [.slot 5 (.pt 5 0),.row 5 true [.q r],.slot 2 (.im (ptV rb 0))]=some ([oldOf w b4 0 [.q hi],dJ [.q hi]=4,oldOf w b3 0 [.q lo],dJ [.q lo]=4,aA [At.q hi]=aA [At.q hi],aA [At.q lo]=aA [At.q lo],aA [At.q lJ]=aA [At.q lJ]],.nrm,[.slot 5 (.pt 5 0),.row 5 true [.q r],.slot 2 (.im (ptV rb 0))]):=by kernel_rfl
theorem aFu (r rb:Nat):cO prog (qG prog) 21 (tC T0 fun _=>none) ((aD re3).extract 0 1) [.slot 5 (.pt 5 0),.row 5 true [.q r],.slot 2 (.im (ptV rb 0))] [.slot 20 (.fl [.q r]),.slot 2 (.im (ptV rb 0))]=some ([],[.slot 20 (.fl [.q r]),.slot 2 (.im (ptV rb 0))]):=by kernel_rfl
theorem Pz:(prog.info? 72).map (·.size)=some 4:=by kernel_rfl
theorem WF {lo hi:Nat} (hl:lo<aH) (hh:hi<aH) (w0:World):bM prog 64 (.one (.fl [.q ((hi*aH+lo)%lJ)])) [.agg (aA [.q lo,.q hi]).toArray] w0:=by
 have hG:∀base w,bO prog (qG prog) base w:=fun _ _=>(aW _).w _ _
 have hT:∀base w,∀n d:Nat,TabOkW prog T0 base w:=fun _ _ _ _=>(bU _).w _ _
 have hok:=aAG hh hl;generalize (hi*aH+lo)%lJ=r at *;have hnt:f64.ntmps=21:=Zv;refine cH func64 (cs:=[.v (.fl [.q lo,.q hi])]) (args:=[.agg (aA [.q lo,.q hi]).toArray]) (c:=jR) rfl ⟨rfl,trivial⟩ (Nat.le_of_ble_eq_true (by kernel_rfl)) fun a w hA => ?_
 rw[hnt]at hA;rw[Ga];refine wp_seq (aB aI (hT _ _) (hG _ _) (aFw lo hi) trivial hA fun a w hA => ?_);obtain⟨b1,hA⟩:=hA.at (k:=1) (l:=[.q lo,.q hi]) (by simp);obtain⟨b2,hA⟩:=hA.at (k:=2) (l:=zC) (by simp);have m1:oldOf w b1 0 [.q lo,.q hi]:=hA.old (k:=1) (by simp) (by simp);have m2:Own w b2 zC:=hA.own (k:=2) (by simp) (by simp);have hB2:w0.heap.size≤b2:=hA.geq (k:=2) (l:=zC) (by simp) (by simp);have hbl:=hA.below;have t1:=hA.ptS (s:=1) (k:=1) (o:=0) (b:=b1) (by simp) (by simp);have t2:=hA.ptS (s:=2) (k:=2) (o:=0) (b:=b2) (by simp) (by simp);have hdf:=hA.defers;have hsz:=hA.size;clear hA;refine wp_seq (Qu m1 t1 t2 hdf hsz fun a w1 p q d1 d2 d3 d4 d5 d6 d7 hB => ?_);have hS:=aP (nt:=21) (w:=w1) (a:=a) (ts:=[(3,ptV p 0),(4,ptV q 0),(2,ptV b2 0)]) d1 d2 (fun x hx=>by
  simp only[List.mem_cons,List.not_mem_nil,or_false]at hx
  rcases hx with rfl|rfl|rfl
  ·exact d4
  ·exact d5
  ·exact d3)
 refine wp_seq (aB aI (fun _ _=>hok.w _ _) (dN w1 _ _ _) (aFv w1 lo hi p q r b2) ⟨⟨d7.lt,d7.row⟩,rfl,⟨d6.lt,d6.row⟩,rfl,rfl,rfl,rfl,trivial⟩ hS fun a w2 hA => ?_);refine wp_seq (bI (l:=List.range' 0 ((aD re3).extract 0 1).size++(1::[])) (by kernel_rfl) ?_);refine aG (c:=tC T0 _) (hT _ _ 0) (hG _ _) (aFu r b2) trivial (by kernel_rfl) hA fun a3 w3 hA => ?_
 obtain⟨o1,ho1,hop1,hd1,hg1⟩:∃x,(aD re3)[1]?=some x∧x.op=.store 72 (.tmp 2) (.tmp 20)∧x.dst=none∧x.guard=none:=⟨_,rfl,rfl,rfl,rfl⟩
 have hb3:=hA.below;have m3:=(m2.on hB).on hb3;obtain⟨hR,hW⟩:=m3.set (o:=0) (p:=[.q r]) (l':=[.q r]) rfl;refine aZ ho1 hg1 (eV (vs:=aA [.q r]) hop1 hd1 (cL (hA.slot (s:=2) (v:=ptV b2 0) (by simp))) (cL (hA.slotF (s:=20) (by simp))) rfl (oT _) Pz (m3.there (o:=0) (n:=4) (Nat.le_of_ble_eq_true rfl)) ?_);have hH:=hR.holds (k:=2) (nt:=21) (a:=a3) (ts:=[]) hA.defers hA.size rfl (hA.slot (s:=2) (v:=ptV b2 0) (by simp)) (fun x hx=>by cases hx);exact wp_ret (cK (l:=[.fl [.q r]]) (r:=.one (.fl [.q r])) (by kernel_rfl) (by kernel_rfl) hH ⟨rfl,((hbl.trans (hB.mono hbl.size)).trans (hb3.mono (Nat.le_trans hbl.size hB.size))).trans (hW.below.mono hB2)⟩)
def Jf (lo hi r:Nat):gL
 | [.v (.fl a)]=>some ([aA a=aA [At.q lo,.q hi]],.one (.fl [.q r]))
 | _=>none
theorem OK {lo hi:Nat} (hl:lo<aH) (hh:hi<aH):∀cs pre r,Jf lo hi ((hi*aH+lo)%lJ) cs=some (pre,r)→bC pre→∀(args:List Value) (w:World),cT w cs args→bM prog 64 r args w:=by
 intro cs pre r hg hp args w ha;unfold Jf at hg;split at hg
 ·rename_i a;cases hg
  match args,ha with
  | [x],ha =>
   have e1:x=.agg (aA a).toArray:=ha.1;subst e1;rw[hp.1];exact WF hl hh w
  | [],ha=>exact ha.elim
  | _::_::_,ha=>exact ha.2.elim
 ·cases hg
theorem Qp (n r:Nat):cR prog (qG prog) (fun _=>tC (T0.add 64 (Jf n 0 r)) fun _=>none) f91 60 [.v (.fl [.q n])]=some ([aA (nq [.c (.int .u64 (fw n 0)),.c (.int .u64 (fw n 1)),.c (.int .u64 (fw n 2)),.c (.int .u64 (fw n 3)),.c (.int .u64 0),.c (.int .u64 0),.c (.int .u64 0),.c (.int .u64 0)])=aA [At.q n,.q 0]],.one (.fl [.q r])):=by kernel_rfl
def gRo:gL:=g1 rW fun n=>([n<aH],.one (.fl [.q (n%lJ)]))
theorem aGJ:∀cs pre r,gRo cs=some (pre,r)→bC pre→∀(args:List Value) (w:World),cT w cs args→bM prog 91 r args w :=
 kN dO fun n h args w ha=>by
  have hz:(0:Nat)<aH:=by decide
  have ht:=OK h.1 hz;have e:(0*aH+n)%lJ=n%lJ:=by rw[Nat.zero_mul,Nat.zero_add]
  rw[e]at ht;exact aV aI (fun _ _=>(bU _).add func64 (by kernel_rfl) (by kernel_rfl) ht) (aW _) func91 (Qp n (n%lJ)) ⟨NW _,trivial⟩ ha
def TS (fa:Nat→Nat) (K:Nat) (fm:Nat→Nat) (N q:Nat):Nat:=if q<K then fa q else TR fm N (q-K)
def Vc (fa:Nat→Nat) (K:Nat) (fm:Nat→Nat) (N:Nat):Nat:=Xt (K+(1+(N+30)/31)) (TS fa K fm N)%lJ
theorem Ar (fa:Nat→Nat) (K:Nat) (fm:Nat→Nat) (N:Nat):Vc fa K fm N<lJ:=Nat.mod_lt _ JU
theorem GF (g:Nat→List At):∀n s m,bV g s (n+m)=bV g s n++bV g (s+n) m
 | 0,s,m=>by rw[Nat.zero_add]; rfl
 | n+1,s,m=>by
  rw[Nat.succ_add];show g s++bV g (s+1) (n+m)=(g s++bV g (s+1) n)++bV g (s+(n+1)) m;rw[GF g n (s+1) m,List.append_assoc,Nat.add_right_comm];rfl
theorem wI (f:Nat→Nat):∀m s k,bV (el f) (k+s) m=bV (el fun q=>f (k+q)) s m
 | 0,_,_=>rfl
 | m+1,s,k=>by
  show [At.q (f (k+s))]++bV (el f) (k+s+1) m=[At.q (f (k+s))]++bV (el fun q=>f (k+q)) (s+1) m;rw[←wI f m (s+1) k,Nat.add_assoc]
theorem Vb (fa:Nat→Nat) (K:Nat) (fm:Nat→Nat) (N M:Nat):aA (bV (el fa) 0 K)++aA (bV (el (TR fm N)) 0 M)=aA (bV (el (TS fa K fm N)) 0 (K+M)):=by
 rw[GF,aM];congr 2
 ·exact fL K 0 fun j hj=>by unfold TS; rw[if_pos (by omega)]
 ·have:=wI (TS fa K fm N) M 0 K;rw[Nat.add_zero,←Nat.zero_add K]at this;rw[Nat.zero_add]at this ⊢;rw[this];refine fL M 0 fun j hj => ?_
  show TR fm N (0+j)=TS fa K fm N (K+(0+j));unfold TS;rw[if_neg (by omega),Nat.add_sub_cancel_left]
theorem aCg {f:Nat→Nat} (hf:∀j,f j<256) {N:Nat} (hN:N≤4096) (i:Nat):TR f N i<RM:=by
 unfold TR;split
 ·exact Nat.lt_of_le_of_lt hN (by decide)
 ·exact aGk (fun j=>hf _) (Nat.min_le_right _ _)
def jV:Code:=(f60.body).getD .skip
def AR:Code:=cA (cB jV)
def Iq:Code:=cA (cB (cB jV))
theorem Ip:jV=.seq (cA jV) (.seq (.region 1 (aD AR) false) (.seq (cA (cB (cB jV))) .ret)):=by kernel_rfl
theorem ZN:cA (cB (cB jV))=.region 2 (aD Iq) false:=by kernel_rfl
theorem aBy:f60.ntmps=18:=by kernel_rfl
theorem aGg (v u:Value):aX prog (qG prog) 18 (fun _=>tC T0 fun _=>none) 60 (cA jV) (fD 0 [.v (.im v),.v (.im u)]) [.slot 0 (.im v),.slot 1 (.im u),.slot 4 (.pt 4 0),.row 4 true zC]=some ([],.nrm,[.slot 0 (.im v),.slot 1 (.im u),.slot 4 (.pt 4 0),.row 4 true zC]):=by kernel_rfl
theorem aBB (v u:Value) (rb:Nat):cO prog (qG prog) 18 (tC T0 fun _=>none) ((aD AR).extract 0 3) [.slot 0 (.im v),.slot 1 (.im u),.slot 4 (.im (ptV rb 0))] [.slot 8 (.fl (rR 3 8 57)),.slot 9 (.im u),.slot 10 (.im v),.slot 4 (.im (ptV rb 0))]=some ([],[.slot 8 (.fl (rR 3 8 57)),.slot 9 (.im u),.slot 10 (.im v),.slot 4 (.im (ptV rb 0))]):=by kernel_rfl
theorem aBA (rb D:Nat):cO prog (qG prog) 18 (tC T0 fun _=>none) ((aD AR).extract 6 12) [.slot 13 (.tu [.fl [.q D],.im (.int .i64 0)]),.slot 4 (.im (ptV rb 0))] [.slot 5 (.pt 5 0),.row 5 true [.q D],.slot 4 (.im (ptV rb 0))]=some ([],[.slot 5 (.pt 5 0),.row 5 true [.q D],.slot 4 (.im (ptV rb 0))]):=by kernel_rfl
theorem aBz (rb D r:Nat):cO prog (qG prog) 18 (tC (T0.add 91 gRo) fun _=>none) ((aD Iq).extract 0 2) [.slot 5 (.pt 5 0),.row 5 true [.q D],.slot 4 (.im (ptV rb 0))] [.slot 17 (.fl [.q (D%lJ)]),.slot 4 (.im (ptV rb 0))]=some ([D<aH],[.slot 17 (.fl [.q (D%lJ)]),.slot 4 (.im (ptV rb 0))]):=by kernel_rfl
theorem iO {nt:Nat} {w:World} {a:Act} {ts:List (Nat×AV)} (hd:a.defers=[]) (hs:a.tmps.size=nt) (ht:∀x∈ts,∀β,a.tmps[x.1]?=some (x.2.den β)):Holds nt w.heap.size w (ts.map fun x=>.slot x.1 x.2) a w:=by
 refine⟨hd,hs,Below.refl _ _,Nat.le_refl _,fun _=>(w.heap.size,0,0),fun φ hφ => ?_,fun k k' o' l l' h1 => ?_,fun k l h1 => ?_,Nat.le_refl _,fun p h1 h2=>⟨rfl,rfl⟩,Shape.refl _⟩
 ·obtain⟨x,hx,rfl⟩:=List.mem_map.1 hφ;exact ht x hx _
 ·obtain⟨x,_,e⟩:=List.mem_map.1 h1; cases e
 ·obtain⟨x,_,e⟩:=List.mem_map.1 h1; cases e
theorem Md {w:World} {b o K c b1 n1 cap1:Nat} {fa g:Nat→Nat} (hr:w.rangeAt b o (aA (bV (el fa) 0 K))) (hx:w.rangeAt b1 0 (aA (bV (el g) 0 n1))) (hc:c<K+n1) (hn:K+n1≤4096) (ty:TypeId) :
  ∃b2 cap2 w',(Builtin.append_ #[56,56] ty #[aK b o K c,aK b1 0 n1 cap1]).run prog w=.ok (aK b2 0 (K+n1) cap2) w'∧K+n1≤cap2∧b2<w'.heap.size∧w'.rangeAt b2 0 (aA (bV (el fa) 0 K)++aA (bV (el g) 0 n1))∧Below w.heap.size w w':=by
 obtain⟨ht,i,z,hi,hz,hsize,hby,hzs,hsz⟩:=jI RT;have h0:∀j v,(aA (bV (el fa) 0 K))[j]?=some v→w.cell? ((⟨b,o,none⟩:Addr).add j)=some v:=fun j v hj=>by rw[Addr.add_mid]; exact hr j v hj
 have h1:∀j v,(aA (bV (el g) 0 n1))[j]?=some v→w.cell? ((⟨b1,0,none⟩:Addr).add j)=some v:=fun j v hj=>by rw[Addr.add_mid]; exact hx j v hj
 obtain⟨v',w',hrun,hown,hg⟩:=run_append_arg_grows (P:=prog) (w:=w) 56 ty 27 i z 4 32 ht hi hz hsize hby hzs (by decide) ⟨b,o,none⟩ K c _ (mZ fa K 0) h0 ⟨b1,0,none⟩ n1 cap1 _ (mZ g n1 0) h1 hc (by simp only[maxLen]; omega) (by omega);have hv:∃b cap,v'=.slice (some ⟨b,0,none⟩) (K+n1) cap:=by
  obtain⟨_,⟨rfl,h2⟩|⟨g,c',cur,rfl,_⟩⟩:=hown
  ·omega
  ·exact⟨g,c',rfl⟩
 obtain⟨b2,cap2,rfl⟩:=hv;obtain⟨⟨_,_,a1,_,_⟩,a2,a3,a4,a5⟩:=qH hown;exact⟨b2,cap2,w',hrun,a1,a3,a4,⟨hg.os,hg.tape,hg.output,hg.size,fun k hk=>hg.block k hk (by simp)⟩⟩
theorem KF {w0:World} {v:Value} {N K b o:Nat} {fm fa:Nat→Nat} (hb:BV w0 v N fm) (hN:N≤4096) (hl:LV w0 (aK b o K K) K fa) (hK0:0<K) (hK:K≤4) (hfa:∀q,q<K→fa q<RM) (hDj:Dbj w0) :
  bM prog 60 (.one (.fl [.q (Vc fa K fm N)])) [v,aK b o K K] w0:=by
 have hG:∀base w,bO prog (qG prog) base w:=fun _ _=>(aW _).w _ _
 have hT:∀base w,∀n d:Nat,TabOkW prog T0 base w:=fun _ _ _ _=>(bU _).w _ _
 obtain⟨_,m,e0,_,_,hmem⟩:=hl;cases e0;obtain⟨_,_,e0,hlt,hr⟩:=hmem hK0;cases e0;have hfm:=(hb:∃p m,_);obtain⟨_,_,_,_,hfm,_⟩:=hfm;have hnt:f60.ntmps=18:=aBy;refine cH func60 (cs:=[.v (.im v),.v (.im (aK b o K K))]) (args:=[v,aK b o K K]) (c:=jV) rfl ⟨rfl,rfl,trivial⟩ (Nat.le_of_ble_eq_true (by kernel_rfl)) fun a w hA => ?_
 rw[hnt]at hA;rw[Ip];refine wp_seq (aB aI (hT _ _) (hG _ _) (aGg v (aK b o K K)) trivial hA fun a w1 hA => ?_);obtain⟨rb,hA⟩:=hA.at (k:=4) (l:=zC) (by simp);have hrb:Own w1 rb zC:=hA.own (k:=4) (by simp) (by simp);have hrB:w0.heap.size≤rb:=hA.geq (k:=4) (l:=zC) (by simp) (by simp);have hb1:=hb.on hA.below;have hD1:=hDj.on hDj.lt hA.below;have hr1:=bG hA.below hlt hr;have hlt1:b<w1.heap.size:=Nat.lt_of_lt_of_le hlt hA.below.size;have hbl:=hA.below;have hS:=aP (nt:=18) (w:=w1) (a:=a) (ts:=[(0,v),(1,aK b o K K),(4,ptV rb 0)]) hA.defers hA.size (fun x hx=>by
  simp only[List.mem_cons,List.not_mem_nil,or_false]at hx
  rcases hx with rfl|rfl|rfl
  ·exact hA.slot (by simp)
  ·exact hA.slot (by simp)
  ·exact hA.ptS (s:=4) (k:=4) (o:=0) (by simp) (by simp))
 clear hA;refine wp_seq (bI (l:=List.range' 0 ((aD AR).extract 0 3).size++(3::4::5::(List.range' 6 ((aD AR).extract 6 12).size++[]))) (by kernel_rfl) ?_);refine aG (c:=tC T0 _) (hT _ _ 0) (hG _ _) (aBB v (aK b o K K) rb) trivial (by kernel_rfl) hS fun a3 w3 hA => ?_
 have hb3:=hA.below;have h8:=hA.slotF (s:=8) (l:=rR 3 8 57) (by simp);have h9:=hA.slot (s:=9) (v:=aK b o K K) (by simp);have h10:=hA.slot (s:=10) (v:=v) (by simp);have h4:=hA.slot (s:=4) (v:=ptV rb 0) (by simp);have hdf:=hA.defers;have hsz:=hA.size;clear hA hS;obtain⟨o3,ho3,⟨ts3,hop3⟩,hd3,hg3⟩:∃x,(aD AR)[3]?=some x∧(∃ts,x.op=.call ⟨.value (.func 90),#[.tmp 10],ts⟩)∧x.dst=some 11∧x.guard=none:=⟨_,rfl,⟨_,rfl⟩,rfl,rfl⟩
 refine aZ ho3 hg3 (cF hop3 (vs:=[v]) (List.cons_eq_cons.2 ⟨cL h10,rfl⟩) (fun args=>bQ func90 (by kernel_rfl) (by kernel_rfl) args _) (Ak (hb1.on hb3) (by omega)) fun e w4 hq => ?_);obtain⟨b4,cap4,rfl,hb4,hge4,hlt4,hr4,_,_⟩:=hq;refine⟨_,rfl,?_⟩;rw[hd3];have hr3:=bG hb3 hlt1 hr1;have hr34:=bG hb4 (Nat.lt_of_lt_of_le hlt1 hb3.size) hr3;obtain⟨o4,ho4,hop4,hd4,hg4⟩:∃x,(aD AR)[4]?=some x∧x.op=.call ⟨.builtin .append,#[.tmp 9,.tmp 11],#[56,56]⟩∧x.dst=some 12∧x.guard=none:=⟨_,rfl,rfl,rfl,rfl⟩
 change wpOps prog (aD AR) _ _ (a3.put (some 11) (aK b4 0 (1+(N+30)/31) cap4)) w4;have k9:=aS (d:=11) (u:=aK b4 0 (1+(N+30)/31) cap4) h9 (by decide);have k8:=aS (d:=11) (u:=aK b4 0 (1+(N+30)/31) cap4) h8 (by decide);have k4:=aS (d:=11) (u:=aK b4 0 (1+(N+30)/31) cap4) h4 (by decide);have k11:=aT a3 11 (aK b4 0 (1+(N+30)/31) cap4) (by rw[hsz]; decide);have kz:(a3.put (some 11) (aK b4 0 (1+(N+30)/31) cap4)).tmps.size=18:=by rw[aF]; exact hsz
 have kd:(a3.put (some 11) (aK b4 0 (1+(N+30)/31) cap4)).defers=[]:=hdf;generalize a3.put (some 11) (aK b4 0 (1+(N+30)/31) cap4)=a4 at *;obtain⟨b5,cap5,w5,hrun,hcap,hlt5,hr5,hB5⟩:=Md (c:=K) (cap1:=cap4) hr34 hr4 (by omega) (by omega) o4.type;have hrun4:(execOp a4.eval o4).run prog w4=.ok (.value (aK b5 0 (K+(1+(N+30)/31)) cap5)) w5:=by
  unfold execOp;simp only[hop4,resolve,invoke,builtin,Sem.run_bind,Sem.run_pure,Result.andThen_ok,List.map_toArray,List.map_cons,List.map_nil,cL k9,cL k11,hrun]
 refine aZ ho4 hg4 (bZ hrun4 ?_);rw[hd4];rw[Vb]at hr5;have j8:=aS (d:=12) (u:=aK b5 0 (K+(1+(N+30)/31)) cap5) k8 (by decide);have j4:=aS (d:=12) (u:=aK b5 0 (K+(1+(N+30)/31)) cap5) k4 (by decide);have j12:=aT a4 12 (aK b5 0 (K+(1+(N+30)/31)) cap5) (by rw[kz]; decide);have jz:(a4.put (some 12) (aK b5 0 (K+(1+(N+30)/31)) cap5)).tmps.size=18:=by rw[aF]; exact kz
 have jd:(a4.put (some 12) (aK b5 0 (K+(1+(N+30)/31)) cap5)).defers=[]:=kd;generalize a4.put (some 12) (aK b5 0 (K+(1+(N+30)/31)) cap5)=a5 at *;have hb15:=(hb3.trans (hb4.mono hb3.size)).trans (hB5.mono (Nat.le_trans hb3.size hb4.size));have hall:∀q,q<K+(1+(N+30)/31)→TS fa K fm N q<RM:=fun q hq=>by
  unfold TS;split
  ·exact hfa _ (by assumption)
  ·exact aCg hfm hN _
 obtain⟨o5,ho5,⟨ts5,hop5⟩,hd5,hg5⟩:∃x,(aD AR)[5]?=some x∧(∃ts,x.op=.call ⟨.value (.func 89),#[.tmp 8,.tmp 12],ts⟩)∧x.dst=some 13∧x.guard=none:=⟨_,rfl,⟨_,rfl⟩,rfl,rfl⟩
 have hL5:LV w5 (aK b5 0 (K+(1+(N+30)/31)) cap5) (K+(1+(N+30)/31)) (TS fa K fm N):=⟨_,_,rfl,hcap,fun j hj=>Nat.lt_trans (hall j hj) (by decide),fun _=>⟨_,_,rfl,hlt5,hr5⟩⟩;refine aZ ho5 hg5 (cF hop5 (vs:=[.agg (aA (rR 3 8 57)).toArray,aK b5 0 (K+(1+(N+30)/31)) cap5]) (List.cons_eq_cons.2 ⟨cL j8,List.cons_eq_cons.2 ⟨cL j12,rfl⟩⟩) (fun args=>bQ func89 (by kernel_rfl) (by kernel_rfl) args _) (ZQ hL5 hall (by omega) (hD1.on hD1.lt hb15)) fun e w6 hq => ?_);obtain⟨rfl,hb6⟩:=hq;refine⟨_,rfl,?_⟩;rw[hd5];have hD:Xt (K+(1+(N+30)/31)) (TS fa K fm N)<RM:=Tl _ _;have hEq:Vc fa K fm N=Xt (K+(1+(N+30)/31)) (TS fa K fm N)%lJ:=rfl;rw[hEq];generalize Xt (K+(1+(N+30)/31)) (TS fa K fm N)=D at *;have hb16:=hb15.trans (hb6.mono hb15.size);have hS6:=iO (nt:=18) (w:=w6) (a:=a5.put (some 13) (RV.many [.fl [.q D],.im (.int .i64 0)]).den) (ts:=[(13,.tu [.fl [.q D],.im (.int .i64 0)]),(4,.im (ptV rb 0))]) jd (by rw[aF]; exact jz) (fun x hx β=>by
  simp only[List.mem_cons,List.not_mem_nil,or_false]at hx
  rcases hx with rfl|rfl
  ·exact aT _ _ _ (by rw[jz]; decide)
  ·exact aS j4 (by simp))
 refine aG (c:=tC T0 _) (hT _ _ 0) (hG _ _) (aBA rb D) trivial (by kernel_rfl) hS6 fun a7 w7 hA => ?_
 refine wp_seq ?_;rw[ZN];refine bI (l:=List.range' 0 ((aD Iq).extract 0 2).size++(2::[])) (by kernel_rfl) ?_;refine aG (c:=tC _ _) (fun _=>((bU _).add func91 (by kernel_rfl) (by kernel_rfl) aGJ).w _ _) (hG _ _) (aBz rb D 0) ⟨Nat.lt_trans hD (by decide),trivial⟩ (by kernel_rfl) hA fun a8 w8 hA => ?_
 obtain⟨o9,ho9,hop9,hd9,hg9⟩:∃x,(aD Iq)[2]?=some x∧x.op=.store 72 (.tmp 4) (.tmp 17)∧x.dst=none∧x.guard=none:=⟨_,rfl,rfl,rfl,rfl⟩
 have hb8:=hA.below;have m3:=(hrb.on hb16).on hb8;obtain⟨hR,hW⟩:=m3.set (o:=0) (p:=[.q (D%lJ)]) (l':=[.q (D%lJ)]) rfl;refine aZ ho9 hg9 (eV (vs:=aA [.q (D%lJ)]) hop9 hd9 (cL (hA.slot (s:=4) (v:=ptV rb 0) (by simp))) (cL (hA.slotF (s:=17) (by simp))) rfl (oT _) Pz (m3.there (o:=0) (n:=4) (Nat.le_of_ble_eq_true rfl)) ?_);have hH:=hR.holds (k:=4) (nt:=18) (a:=a8) (ts:=[]) hA.defers hA.size rfl (hA.slot (s:=4) (v:=ptV rb 0) (by simp)) (fun x hx=>by cases hx);exact wp_ret (cK (l:=[.fl [.q (D%lJ)]]) (r:=.one (.fl [.q (D%lJ)])) (by kernel_rfl) (by kernel_rfl) hH ⟨rfl,(hbl.trans ((hb16.trans (hb8.mono hb16.size)).mono hbl.size)).trans (hW.below.mono hrB)⟩)
def ZX (K:Nat) (fa:Nat→Nat) (v:Value) (h:Nat):gL
 | [.v (.im u),.s L n m]=>some ([u=v,n=K,m=K,aA L=aA (bV (el fa) 0 K)],.one (.fl [.q h]))
 | _=>none
theorem Jp {w:World} {v:Value} {N K:Nat} {fm fa:Nat→Nat} (hb:BV w v N fm) (hN:N≤4096) (hK0:0<K) (hK:K≤4) (hfa:∀q,q<K→fa q<RM) (hDj:Dbj w):∀cs pre r,ZX K fa v (Vc fa K fm N) cs=some (pre,r)→bC pre→∀(args:List Value),cT w cs args→bM prog 60 r args w:=by
 intro cs pre r hg hp args ha;unfold ZX at hg;split at hg
 ·cases hg;obtain⟨p1,p2,p3,p4,_⟩:=hp
  match args,ha with
  | [u,x],ha =>
   have e1:u=_:=ha.1;subst e1; subst p1; subst p2; subst p3;have hv:LV w x _ fa:=LV.ofS ha.2.1 p4 rfl (Nat.le_refl _) (fun j hj=>Nat.lt_trans (hfa j hj) (by decide));obtain⟨b',o,e2,_⟩:=ha.2.1;subst e2;exact KF hb hN hv hK0 hK hfa hDj
  | [],ha=>exact ha.elim
  | [_],ha=>exact ha.2.elim
  | _::_::_::_,ha=>exact ha.2.2.elim
 ·cases hg
theorem Nx {w:World} {v:Value} {N K:Nat} {fm fa:Nat→Nat} (hb:BV w v N fm) (hN:N≤4096) (hK0:0<K) (hK:K≤4) (hfa:∀q,q<K→fa q<RM) (hDj:Dbj w):TabOkW prog (T0.add 60 (ZX K fa v (Vc fa K fm N))) w.heap.size w :=
 TabOkW.add ((bU _).w _ _) func60 (by kernel_rfl) (by kernel_rfl) fun w' hw=>Jp (hb.on hw) hN hK0 hK hfa (hDj.on hDj.lt hw)
theorem Sq (s:Nat) (v:Value) (h:Nat) (fa:Nat→Nat):cR prog (qG prog) (fun _=>tC (T0.add 60 (ZX 1 fa v h)) fun _=>none) f30 60 [.v (.fl [.q s]),.v (.im v)]=some ([v=v,1=1,1=1,aA [At.q s]=aA (bV (el fa) 0 1)],.one (.fl [.q h])):=by kernel_rfl
def Np (s:Nat) (fm:Nat→Nat) (N:Nat):Nat:=Vc (fun _=>s) 1 fm N
theorem EN {w:World} {v:Value} {N s:Nat} {fm:Nat→Nat} (hb:BV w v N fm) (hN:N≤4096) (hs:s<RM) (hDj:Dbj w):bM prog 30 (.one (.fl [.q (Np s fm N)])) [.agg (aA [At.q s]).toArray,v] w :=
 cG aI (fun _ _=>Nx (fa:=fun _=>s) hb hN (by decide) (by decide) (fun _ _=>hs) hDj) ((aW _).w _ _) func30 (Sq s v _ _) ⟨rfl,rfl,rfl,rfl,trivial⟩ (args:=[.agg (aA [At.q s]).toArray,v]) ⟨rfl,rfl,trivial⟩
def Up (a b c d q:Nat):Nat:=if q=0 then a else if q=1 then b else if q=2 then c else d
theorem Vu (r k:NP) (v:Value) (h:Nat) (fa:Nat→Nat):cR prog (qG prog) (fun _=>tC (T0.add 60 (ZX 4 fa v h)) fun _=>none) f32 60 [.v (.fl [.q r.1,.q r.2]),.v (.fl [.q k.1,.q k.2]),.v (.im v)]=some ([v=v,4=4,4=4,aA [At.q r.1,.q r.2,.q k.1,.q k.2]=aA (bV (el fa) 0 4)],.one (.fl [.q h])):=by kernel_rfl
def chN (r k:NP) (fm:Nat→Nat) (N:Nat):Nat:=Vc (Up r.1 r.2 k.1 k.2) 4 fm N
theorem LP {w:World} {v:Value} {N:Nat} {r k:NP} {fm:Nat→Nat} (hb:BV w v N fm) (hN:N≤4096) (h1:r.1<RM) (h2:r.2<RM) (h3:k.1<RM) (h4:k.2<RM) (hDj:Dbj w):bM prog 32 (.one (.fl [.q (chN r k fm N)])) [.agg (aA [At.q r.1,.q r.2]).toArray,.agg (aA [At.q k.1,.q k.2]).toArray,v] w :=
 cG aI (fun _ _=>Nx (fa:=Up r.1 r.2 k.1 k.2) hb hN (by decide) (by decide) (fun q _=>by
  unfold Up;split
  ·exact h1
  ·split
   ·exact h2
   ·split
    ·exact h3
    ·exact h4) hDj) ((aW _).w _ _) func32 (Vu r k v _ _) ⟨rfl,rfl,rfl,rfl,trivial⟩ (args:=[.agg (aA [At.q r.1,.q r.2]).toArray,.agg (aA [At.q k.1,.q k.2]).toArray,v]) ⟨rfl,rfl,rfl,trivial⟩
end Go.Proofs.YtpjlhhpjpnacmaaGreatDoor.Ex
namespace Go.Proofs.YtpjlhhpjpnacmaaGreatDoor
open Go.Proofs.Tryz
open Go.RowKit
def TIe (R S p y:Nat) (C:Nat→Nat) (j o:Nat) (P:Nat→Nat):Prop:=(∀k,p+4≤k→P k=0)∧eP R P 8+o*R^(p+j)=S+y*R^p*eP R C j
theorem Zb (R p y:Nat) (C P:Nat→Nat):eP R P 8+0*R^(p+0)=eP R P 8+y*R^p*eP R C 0:=by
 show _+0*_=_+_*0;rw[Nat.zero_mul,Nat.mul_zero]
theorem UZ {R S p y j o d o':Nat} {C P:Nat→Nat} (hp:p<4) (hj:j<4) (h:TIe R S p y C j o P) (he:d+R*o'=y*C j+P (p+j)+o):TIe R S p y C (j+1) o' (gY P (p+j) d):=by
 refine⟨fun k hk=>by unfold gY; rw[if_neg (by omega)]; exact h.1 k hk,?_⟩;have e:y*C j*R^(p+j)=y*R^p*(C j*R^j):=by
  rw[Nat.pow_add,Nat.mul_assoc,Nat.mul_assoc,Nat.mul_left_comm (C j)]
 have:=uI (P:=P) (k:=p+j) (n:=8) (by omega) he h.2;rw[show p+(j+1)=p+j+1 by omega,this,cZ,e,Nat.mul_add,Nat.add_assoc]
theorem Ee {R S p y o:Nat} {C P:Nat→Nat} (hp:p<4) (h:TIe R S p y C 4 o P):(∀k,p+1+4≤k→gY P (p+4) o k=0)∧eP R (gY P (p+4) o) 8=S+y*R^p*eP R C 4:=by
 refine⟨fun k hk=>by unfold gY; rw[if_neg (by omega)]; exact h.1 k (by omega),?_⟩;have h1:=pM R P (p+4) o 8 (by omega);rw[h.1 (p+4) (Nat.le_refl _),Nat.zero_mul,Nat.add_zero]at h1;rw[h1,h.2]
structure TWe (w wr:World) (b:Nat) (P:Nat→Nat):Prop where
 below:Below b w wr
 size:w.heap.size+1≤wr.heap.size
 row:RowIs wr b 8 P
 lt:∀k,P k<18446744073709551616
 others:∀p:Addr,p.block<w.heap.size→p.block≠b→wr.cell? p=w.cell? p∧wr.frozen? p=w.frozen? p
 shape:Ex.Shape w wr
 free:(∀q,w.frozen? ⟨b,q,none⟩=false)→∀q,wr.frozen? ⟨b,q,none⟩=false
theorem TWe.set {w wr:World} {b:Nat} {P:Nat→Nat} (h:TWe w wr b P) {k d:Nat} (hk:k<8) (hd:d<18446744073709551616):TWe w (wr.setCell ⟨b,k,none⟩ (.int .u64 (d:Nat))) b (gY P k d) :=
 ⟨h.below.setCell (p:=⟨b,k,none⟩) (Nat.le_refl _) _,by rw[World.size_setCell]; exact h.size,h.row.set hk,fun x=>by unfold gY; split; exact hd; exact h.lt x,fun p h1 h2=>by
  refine⟨?_,by rw[World.frozen?_setCell]; exact (h.others p h1 h2).2⟩;rw[World.cell?_setCell_other (h:=fun he=>h2 (by simpa using (congrArg Addr.block he).symm)) ..];exact (h.others p h1 h2).1,h.shape.trans (Ex.oJ _ _ _),fun hf q=>by rw[World.frozen?_setCell]; exact h.free hf q⟩
theorem aCc {x y:Nat} {p o:Nat} (hx:x<18446744073709551616) (hy:y<18446744073709551616) (hp:p<18446744073709551616) (ho:o<18446744073709551616):∃h l l' c c' g d o':Nat,(∀w,Calls prog 93 #[.int .u64 x,.int .u64 y] w fun e w'=>e=.returned (.tuple #[.int .u64 (h:Nat),.int .u64 (l:Nat)])∧w'=w) ∧
  (∀w,(callFunc 94 #[.int .u64 (l:Int),.int .u64 (o:Int),.int .u64 0]).run prog w=.ok (.value (.tuple #[.int .u64 (l':Int),.int .u64 (c:Int)])) w) ∧
  (∀w,(callFunc 94 #[.int .u64 (p:Int),.int .u64 (l':Int),.int .u64 0]).run prog w=.ok (.value (.tuple #[.int .u64 (d:Int),.int .u64 (c':Int)])) w) ∧
  ((h:Int)+(c:Int)=(g:Int))∧((g:Int)+(c':Int)=(o':Int)) ∧
  h≤18446744073709551614∧c≤1∧c'≤1∧g<18446744073709551616∧d<18446744073709551616∧o'<18446744073709551616∧Hid (d+18446744073709551616*o'=x*y+p+o):=by
 obtain⟨h,l,r,hh,hl,e⟩:=vQ hx hy;obtain⟨l',c,r1,hl',hc,e1⟩:=gV hl ho;obtain⟨d,c',r2,hd,hc',e2⟩:=gV hp hl';have e':=e.out; have e1':=e1.out; have e2':=e2.out;have hxy:=mM (show x≤18446744073709551615 by omega) (show y≤18446744073709551615 by omega);have hb:h+c+c'<18446744073709551616:=by omega
 exact⟨h,l,l',c,c',h+c,d,h+c+c',r,r1,r2,by omega,by omega,hh,hc,hc',by omega,hd,hb,Lib.hid (by omega)⟩
theorem Eh (c0 c1 c2 c3:Nat):∀j:Nat,j<4→∀w:World,(Instr.index 72 (.agg #[.int .u64 c0,.int .u64 c1,.int .u64 c2,.int .u64 c3]) (.int .i64 j)).run prog w=.ok (.int .u64 (dU [c0,c1,c2,c3] j:Nat)) w:=by
 intro j hj w;have hs:Ex.cV prog 22=some 1:=by kernel_rfl
 have hsc:Ex.iK prog 22=true:=by kernel_rfl
 match j,hj with
 | 0,_|1,_|2,_|3,_=>simp[Instr.index,asIntOf,run_underlying underlying72,Ex.bD hs,part,dU]
theorem TWe.drew {w wr:World} {b:Nat} {P:Nat→Nat} (h:TWe w wr b P):TWe w wr.drew b P:=⟨h.below.drew,h.size,h.row,h.lt,h.others,h.shape.trans (Ex.Shape.drew _),h.free⟩
set_option maxHeartbeats 1000000 in
theorem IF (w:World) (b p y c0 c1 c2 c3:Nat) (P0:Nat→Nat) (hp:p<4) (hy:y<18446744073709551616) (hc:cC c0 c1 c2 c3) (hb:b<w.heap.size) (hr:RowIs w b 8 P0) (hl:∀k,P0 k<18446744073709551616) (h0:∀k,p+4≤k→P0 k=0) :
  Calls prog 63 #[.pointer (some ⟨b,0,none⟩),.int .i64 (p:Nat),.int .u64 (y:Nat),.agg #[.int .u64 c0,.int .u64 c1,.int .u64 c2,.int .u64 c3]] w fun e w'=>∃P,e=.returned (.tuple #[])∧TWe w w' b P∧(∀k,p+1+4≤k→P k=0)∧eP 18446744073709551616 P 8=eP 18446744073709551616 P0 8+y*18446744073709551616^p*eP 18446744073709551616 (dU [c0,c1,c2,c3]) 4:=by
 have lC:=FI hc;obtain⟨C,eC⟩:∃C,C=dU [c0,c1,c2,c3]:=⟨_,rfl⟩
 have hix:∀j:Nat,j<4→∀w:World,(Instr.index 72 (.agg #[.int .u64 c0,.int .u64 c1,.int .u64 c2,.int .u64 c3]) (.int .i64 j)).run prog w=.ok (.int .u64 (C j:Nat)) w:=by
  rw[eC]; exact Eh c0 c1 c2 c3
 rw[←eC]at lC;rw[←eC];have HlC:=Lib.hid lC;have HC:=Lib.hid eC;clear eC lC;have HlP:=Lib.hid hl;have Hb:=Lib.hid hb
 go_enter func63,ntmps63
 go_wp2_with fail
 go_loopw [8,15] (fun ov jj wr=>∃(j o:Nat) (P:Nat→Nat),j≤4∧o<18446744073709551616∧jj=.int .i64 j∧ov=.int .u64 o∧TWe w wr b P∧Hid (TIe 18446744073709551616 (eP 18446744073709551616 P0 8) p y C j o P)) (fun _ j _=>4-(intOf j).toNat)
 case atStart =>
  refine⟨0,0,P0,by omega,by omega,rfl,rfl,?_,Lib.hid ⟨h0,Zb _ _ _ _ _⟩⟩;have hB:Below w.heap.size w (w.alloc (.cells #[.int .u64 c0,.int .u64 c1,.int .u64 c2,.int .u64 c3] 72)):=(Below.refl _ w).alloc (Nat.le_refl _) _;exact⟨hB.mono (Nat.le_of_lt Hb.out),by rw[World.size_alloc]; exact Nat.le_refl _,hr.below hB Hb.out,HlP.out,fun q h1 _=>⟨hB.cell h1,hB.frozen h1⟩,Ex.Shape.alloc _ _,fun hf q=>(hB.frozen (p:=⟨b,q,none⟩) Hb.out).trans (hf q)⟩
 case round =>
  obtain⟨j,o,P,hj,ho,rfl,rfl,m,mi⟩:=hrel
  by_cases hlt':j<4
  ·have cp:=m.row.cell (show p+j<8 by omega);have fp:=m.row.free (show p+j<8 by omega);have by':=HlC.out j
   have bp:=m.lt (p+j);have hixj:=hix j hlt';obtain⟨h,l,l',c,c',g,d,o',rm,r1,r2,q,q',bh,bc,bc',bg,bd,bo,e⟩:=aCc hy by' bp ho
   have M:=Lib.hid m;clear m by' bp
   go_wp2_with fail;refine (rm _).mono ?_
   rintro _ _ ⟨rfl,rfl⟩
   go_wp2_with fail
   go_region
   go_wp2_with fail
   go_roundw
   case rel=>exact⟨j+1,o',gY P (p+j) d,by omega,bo,by go_num,rfl,(M.out.set (by omega) bd).drew,Lib.hid (UZ hp hlt' mi.out e.out)⟩
   case measure=>simp[intOf]; omega
  ·obtain rfl:j=4:=by omega
   have cp:=m.row.cell (show p+4<8 by omega);have fp:=m.row.free (show p+4<8 by omega);have M:=Lib.hid m;clear m;go_wp2_with fail;obtain⟨e1,e2⟩:=Ee hp mi.out;refine bodyPost_end (v:=.tuple #[]) (by simp[results,show f63.results = #[] by kernel_rfl]) rfl ⟨gY P (p+4) o,rfl,M.out.set (by omega) ho,e1,e2⟩
theorem TWe.wrc {w wr:World} {b:Nat} {P:Nat→Nat} (h:TWe w wr b P) (hf:∀q,w.frozen? ⟨b,q,none⟩=false) (hb:b<w.heap.size):Ex.WrC w wr b :=
 ⟨h.below,h.others,h.shape,h.free hf⟩
end Go.Proofs.YtpjlhhpjpnacmaaGreatDoor
namespace Go.Proofs.YtpjlhhpjpnacmaaGreatDoor.Ex
open Go.Proofs.Tryz
open Go.RowKit
def TO (a b c:Nat):Nat→Nat
 | 0=>a
 | p+1=>TO a b c p+fw b p*eH^p*c
def tkL (a b c p:Nat):List At:=[.q (TO a b c p%aH),.q (TO a b c p/aH)]
theorem IC {a b c:Nat} (ha:a<aH) (hc:c<aH):∀p,TO a b c p<aH*eH^p
 | 0=>by rw[Nat.pow_zero,Nat.mul_one]; exact ha
 | p+1=>by
  have h:=IC ha hc p (b:=b);have hy:fw b p≤eH-1:=Nat.le_sub_one_of_lt (Nat.mod_lt _ (by decide));have h1:fw b p*eH^p*c≤(eH-1)*eH^p*aH:=Nat.mul_le_mul (Nat.mul_le_mul_right _ hy) (Nat.le_of_lt hc);have h2:(eH-1)*eH^p*aH=(eH-1)*(aH*eH^p):=by rw[Nat.mul_assoc,Nat.mul_comm (eH^p)]
  have h3:aH*eH^(p+1)=eH*(aH*eH^p):=by rw[Nat.pow_succ,←Nat.mul_assoc,Nat.mul_comm]
  show TO a b c p+fw b p*eH^p*c<_;rw[h3];rw[h2]at h1;generalize aH*eH^p=X at *;generalize fw b p*eH^p*c=Y at *;rw[Nat.sub_one_mul]at h1;have h4:X≤eH*X:=Nat.le_mul_of_pos_left X (by decide);generalize eH*X=Z at *;omega
theorem Za {a b c:Nat} (hb:b<aH):TO a b c 4=a+b*c:=by
 have h:=fC hb;unfold aC at h;show a+fw b 0*eH^0*c+fw b 1*eH^1*c+fw b 2*eH^2*c+fw b 3*eH^3*c=a+b*c;rw[Nat.add_assoc,Nat.add_assoc,Nat.add_assoc,←Nat.add_mul,←Nat.add_mul,←Nat.add_mul];congr 2;refine Eq.trans ?_ h;have e0:eH^0=1:=rfl;have e1:eH^1=18446744073709551616:=by decide
 have e2:eH^2=340282366920938463463374607431768211456:=by decide
 have e3:eH^3=6277101735386680763835789423207666416102355444464034512896:=by decide
 rw[e0,e1,e2,e3];omega
def GV (lo hi k:Nat):Nat:=if k<4 then fw lo k else fw hi (k-4)
theorem Vf (lo hi k:Nat):GV lo hi k<18446744073709551616:=by
 unfold GV;split<;>exact Nat.mod_lt _ (by decide)
theorem As {lo hi p k:Nat} (h:hi<eH^p) (hk:p+4≤k):GV lo hi k=0:=by
 unfold GV;rw[if_neg (by omega)];unfold fw;rw[Nat.div_eq_of_lt (Nat.lt_of_lt_of_le h (Nat.pow_le_pow_right (by decide) (by omega)))]
theorem Kp {w:World} {b lo hi:Nat} (hr:w.rangeAt b 0 (aA [.q lo,.q hi])) (hf:∀q,w.frozen? ⟨b,q,none⟩=false):Go.Proofs.YtpjlhhpjpnacmaaGreatDoor.RowIs w b 8 (GV lo hi):=by
 intro k hk;refine⟨?_,hf k⟩;have h:∀v,(aA [At.q lo,.q hi])[k]?=some v→w.cell? ⟨b,k,none⟩=some v:=fun v hv=>by
  have:=hr k v hv
  rwa [Nat.zero_add]at this
 match k,hk with
 | 0,_|1,_|2,_|3,_|4,_|5,_|6,_|7,_=>exact h _ rfl
theorem Ko {lo hi:Nat} (hl:lo<aH) (hh:hi<aH):Go.Proofs.YtpjlhhpjpnacmaaGreatDoor.eP 18446744073709551616 (GV lo hi) 8=lo+aH*hi:=by
 have h:=Go.Proofs.YtpjlhhpjpnacmaaGreatDoor.gQ 18446744073709551616 (GV lo hi) 4 4;rw[←Go.Proofs.YtpjlhhpjpnacmaaGreatDoor.iD,←Go.Proofs.YtpjlhhpjpnacmaaGreatDoor.iD]at h;have h1:aC (GV lo hi 0) (GV lo hi 1) (GV lo hi 2) (GV lo hi 3)=lo:=fC hl;have h2:aC (GV lo hi (4+0)) (GV lo hi (4+1)) (GV lo hi (4+2)) (GV lo hi (4+3))=hi:=fC hh;have e4:18446744073709551616^4=aH:=by decide
 rw[e4,h1,h2]at h;exact h
theorem LE {w:World} {b n:Nat} {P:Nat→Nat} (hr:Go.Proofs.YtpjlhhpjpnacmaaGreatDoor.RowIs w b 8 P) (hl:∀k,P k<18446744073709551616) (hn:Go.Proofs.YtpjlhhpjpnacmaaGreatDoor.eP 18446744073709551616 P 8=n):w.rangeAt b 0 (aA [.q (n%aH),.q (n/aH)]):=by
 have h:=Go.Proofs.YtpjlhhpjpnacmaaGreatDoor.gQ 18446744073709551616 P 4 4;have hn':Go.Proofs.YtpjlhhpjpnacmaaGreatDoor.eP 18446744073709551616 P (4+4)=n:=hn;rw[hn',←Go.Proofs.YtpjlhhpjpnacmaaGreatDoor.iD,←Go.Proofs.YtpjlhhpjpnacmaaGreatDoor.iD]at h;have e4:18446744073709551616^4=aH:=by decide
 rw[e4]at h;have o1:cC (P 0) (P 1) (P 2) (P 3):=⟨hl 0,hl 1,hl 2,hl 3⟩;have o2:cC (P 4) (P 5) (P 6) (P 7):=⟨hl 4,hl 5,hl 6,hl 7⟩;have b1:aC (P 0) (P 1) (P 2) (P 3)<aH:=by unfold aC; obtain⟨_,_,_,_⟩:=o1; omega
 have b2:aC (P 4) (P 5) (P 6) (P 7)<aH:=by unfold aC; obtain⟨_,_,_,_⟩:=o2; omega
 have h':n=aC (P 0) (P 1) (P 2) (P 3)+aH*aC (P 4) (P 5) (P 6) (P 7):=h;have q1:aC (P 0) (P 1) (P 2) (P 3)=n%aH:=by rw[h',Nat.add_mul_mod_self_left,Nat.mod_eq_of_lt b1]
 have q2:aC (P 4) (P 5) (P 6) (P 7)=n/aH:=by rw[h',Nat.add_mul_div_left _ _ (by decide),Nat.div_eq_of_lt b1,Nat.zero_add]
 obtain⟨a0,a1,a2,a3⟩:=jF o1 (q1▸b1) q1;obtain⟨a4,a5,a6,a7⟩:=jF o2 (q2▸b2) q2;intro j v hv;rw[Nat.zero_add];have hj:j<8:=by
  rcases Nat.lt_or_ge j 8 with h|h
  ·exact h
  ·rw[List.getElem?_eq_none (show (aA [At.q (n%aH),.q (n/aH)]).length≤j from h)]at hv; cases hv
 have hc:=(hr j hj).1;rw[hc,←hv]
 match j,hj with
 | 0,_=>rw[a0]; rfl
 | 1,_=>rw[a1]; rfl
 | 2,_=>rw[a2]; rfl
 | 3,_=>rw[a3]; rfl
 | 4,_=>rw[a4]; rfl
 | 5,_=>rw[a5]; rfl
 | 6,_=>rw[a6]; rfl
 | 7,_=>rw[a7]; rfl
def gTk (Ls:Nat→List At) (ys:Nat→Nat) (c:Nat):List CA→Option (List Prop×Nat×RV×List At)
 | [.p l 0,.v (.im (.int .i64 (.ofNat p))),.v (.im u),.v (.fl m)]=>some ([p<4,aA l=aA (Ls p),u=u6 (ys p),aA m=aA [At.q c]],0,.many [],Ls (p+1))
 | _=>none
def T5k (Ls:Nat→List At) (ys:Nat→Nat) (c:Nat):Tab5:=jY.add 63 (gTk Ls ys c)
theorem Tp {a b c:Nat} (ha:a<aH) (hc:c<aH):∀cs pre j r l,gTk (tkL a b c) (fw b) c cs=some (pre,j,r,l)→bC pre→∀(args:List Value) (w:World),cT w cs args→∀b' o,args[j]?=some (.pointer (some ⟨b',o,none⟩))→(∀q,w.frozen? ⟨b',q,none⟩=false) →
  Calls prog 63 args.toArray w (fun e w'=>e=.returned r.den∧WrC w w' b'∧w'.rangeAt b' 0 (aA l)):=by
 intro cs pre j r l hg hp args w hA b' o hj hz;unfold gTk at hg;split at hg
 ·rename_i l' p u m;cases hg;obtain⟨p1,p2,p3,p4,_⟩:=hp
  match args,hA with
  | [x0,x1,x2,x3],hA =>
   obtain⟨b1,e0,h1,h2⟩:=hA.1;have e1:x1=.int .i64 (Int.ofNat p):=hA.2.1;have e2:x2=u:=hA.2.2.1;have e3:x3=.agg (aA m).toArray:=hA.2.2.2.1;subst e0; subst e1; subst e2; subst e3; subst p3;cases hj;rw[p4];rw[p2]at h2;have hn:=IC ha hc p (b:=b);have hlo:TO a b c p%aH<aH:=Nat.mod_lt _ (by decide);have hhi:TO a b c p/aH<eH^p:=Nat.div_lt_of_lt_mul hn;have hhi2:TO a b c p/aH<aH:=Nat.lt_of_lt_of_le hhi (Nat.le_trans (Nat.pow_le_pow_right (by decide) (show p≤4 by omega)) (by decide));refine (Go.Proofs.YtpjlhhpjpnacmaaGreatDoor.IF w _ p (fw b p) (fw c 0) (fw c 1) (fw c 2) (fw c 3) (GV (TO a b c p%aH) (TO a b c p/aH)) p1 (Nat.mod_lt _ (by decide)) (eR c) h1 (Kp h2 hz) (Vf _ _) (fun k hk=>As hhi hk)).mono ?_
   rintro e w' ⟨P,rfl,hT,_,hN⟩
   refine⟨rfl,hT.wrc hz h1,LE hT.row hT.lt ?_⟩;rw[hN,Ko hlo hhi2,←Go.Proofs.YtpjlhhpjpnacmaaGreatDoor.iD,Nat.mod_add_div];show _+_*_*aC (fw c 0) (fw c 1) (fw c 2) (fw c 3)=_;rw[fC hc];rfl
  | [],ha=>exact ha.elim
  | [_],ha=>exact ha.2.elim
  | [_,_],ha=>exact ha.2.2.elim
  | [_,_,_],ha=>exact ha.2.2.2.elim
  | _::_::_::_::_::_,ha=>exact ha.2.2.2.2.elim
 ·cases hg
def Dh:Code:=(f33.body).getD .skip
def pp2:Code:=cA (cB (cB Dh))
def pp8:Code:=cA (cB (cB (cB (cB Dh))))
def Pd:List At:=[.f ⟨0,dC⟩,.f ⟨0,dC⟩]
theorem Gn:Dh=.seq (cA Dh) (.seq (cA (cB Dh)) (.seq (.region 2 (aD pp2) true) (.seq (cA (cB (cB (cB Dh)))) (.seq (.region 8 (aD pp8) false) .ret)))):=by kernel_rfl
theorem aAa:f33.ntmps=25:=by kernel_rfl
def ppF (a b c:Nat):List Fact:=[.slot 3 (.pt 3 0),.row 3 true [.q a],.slot 4 (.pt 4 0),.row 4 true [.q b],.slot 5 (.pt 5 0),.row 5 true [.q c],.slot 6 (.pt 6 0),.row 6 true zC]
theorem aFD (a b c:Nat):aX prog (qG prog) 25 (fun _=>tC T0 fun _=>none) 60 (cA Dh) (fD 0 [.v (.fl [.q a]),.v (.fl [.q b]),.v (.fl [.q c])]) (ppF a b c)=some ([],.nrm,ppF a b c):=by kernel_rfl
theorem aFC (v3 v4 v5 v6:Value):aX prog (qG prog) 25 (fun _=>tC T0 fun _=>none) 60 (cA (cB Dh)) [.slot 3 (.im v3),.slot 4 (.im v4),.slot 5 (.im v5),.slot 6 (.im v6)] [.slot 7 (.pt 7 0),.row 7 true Pd,.slot 3 (.im v3),.slot 4 (.im v4),.slot 5 (.im v5),.slot 6 (.im v6)]=some ([],.nrm,[.slot 7 (.pt 7 0),.row 7 true Pd,.slot 3 (.im v3),.slot 4 (.im v4),.slot 5 (.im v5),.slot 6 (.im v6)]):=by kernel_rfl
def xOq (base:Nat) (w:World) (ld:Nat→Option (List At)) (T5:Tab5):Ext:={ Ext.none with ld:=ld,old:=fun b o l=>b<base∧w.rangeAt b o (aA l),T2:=UA,T3:=TM,T4:=Cw,T5:=T5,T6:=Dd }
theorem Pj (base:Nat) (w:World) (ld:Nat→Option (List At)) {T5:Tab5} (h5:PtOk prog T5):bO prog { qG prog with x:=xOq base w ld T5 } base w :=
 ⟨(aW _).1,iP (fun b o l h=>h) (fun w' _=>FrAt.none _ _) (fun w' _=>FsAt.none _ _) (MK _) h5 (wO _)⟩
theorem aFB (base n0:Nat) (W:World) (b c b4 b5 b6:Nat) (Ls:Nat→List At) (ys:Nat→Nat):aX prog { qG prog with x:=xOq base W (assoc [(13,[.q b]),(20,[.q c])]) (T5k Ls ys c) } 25 (fun _=>tC T0 fun _=>none) 80 (cA (cB (cB (cB Dh)))) [.slot 7 (.pt 7 0),.row 7 true (Ls 0),.at 7 base,.at 25 n0,.slot 4 (.im (ptV b4 0)),.slot 5 (.im (ptV b5 0)),.slot 6 (.im (ptV b6 0))] [.slot 7 (.pt 7 0),.row 7 true (Ls 4),.slot 6 (.im (ptV b6 0))]=some ([b4<base∧W.rangeAt b4 0 (aA [At.q b]),dJ [At.q b]=4,b5<base∧W.rangeAt b5 0 (aA [At.q c]),dJ [At.q c]=4,0<4,aA (Ls 0)=aA (Ls 0),u6 (fw b 0)=u6 (ys 0),aA [At.q c]=aA [At.q c],b5<base∧W.rangeAt b5 0 (aA [At.q c]),dJ [At.q c]=4,1<4,aA (Ls 1)=aA (Ls 1),u6 (fw b 1)=u6 (ys 1),aA [At.q c]=aA [At.q c],b5<base∧W.rangeAt b5 0 (aA [At.q c]),dJ [At.q c]=4,2<4,aA (Ls 2)=aA (Ls 2),u6 (fw b 2)=u6 (ys 2),aA [At.q c]=aA [At.q c],b5<base∧W.rangeAt b5 0 (aA [At.q c]),dJ [At.q c]=4,3<4,aA (Ls 3)=aA (Ls 3),u6 (fw b 3)=u6 (ys 3),aA [At.q c]=aA [At.q c]],.nrm,[.slot 7 (.pt 7 0),.row 7 true (Ls 4),.slot 6 (.im (ptV b6 0))]):=by kernel_rfl
theorem aFA (lo hi r b6:Nat):cO prog (qG prog) 25 (tC (T0.add 64 (Jf lo hi r)) fun _=>none) ((aD pp8).extract 0 2) [.slot 7 (.pt 7 0),.row 7 true [.q lo,.q hi],.slot 6 (.im (ptV b6 0))] [.slot 24 (.fl [.q r]),.slot 6 (.im (ptV b6 0))]=some ([aA [At.q lo,.q hi]=aA [At.q lo,.q hi]],[.slot 24 (.fl [.q r]),.slot 6 (.im (ptV b6 0))]):=by kernel_rfl
section
variable {ops:Array Oper} {o:Oper} {a:Act} {s:Nat} {S:World→Prop}
theorem Pe {b:Nat} (hop:o.op=.slice 113 (.tmp s) none none none) (hg:o.guard=none) (h:a.tmps[s]?=some (ptV b 0)):YieldsIf prog ops S o (.slice (some ⟨b,0,none⟩) 8 8) a :=
 Or.inl ⟨by simp[Region.wanted,hg],fun wx hw=>by
  have hs:cV prog 22=some 1:=by kernel_rfl
  have h':a.tmps[s]?=some (.pointer (some ⟨b,0,none⟩)):=h;simp[execOp,hop,Instr.sliceAt,Instr.sureAddr,run_underlying underlying113,Instr.sliceBounds,Instr.sliceBound,asIntOf,bD hs,Addr.add_mid,Act.eval,h']⟩
theorem Pf {b:Nat} (hop:o.op=.slice 72 (.tmp s) none none none) (hg:o.guard=none) (h:a.tmps[s]?=some (ptV b 0)):YieldsIf prog ops S o (.slice (some ⟨b,0,none⟩) 4 4) a :=
 Or.inl ⟨by simp[Region.wanted,hg],fun wx hw=>by
  have hs:cV prog 22=some 1:=by kernel_rfl
  have h':a.tmps[s]?=some (.pointer (some ⟨b,0,none⟩)):=h;simp[execOp,hop,Instr.sliceAt,Instr.sureAddr,run_underlying underlying72,Instr.sliceBounds,Instr.sliceBound,asIntOf,bD hs,Addr.add_mid,Act.eval,h']⟩
end
theorem aAb {w:World} {a:Act} {b3 b7 x:Nat} {Q:Exit→Act→World→Prop} (hm:oldOf w b3 0 [.q x]) (hO:Own w b7 Pd) (hne:b3≠b7) (h3:a.tmps[3]?=some (ptV b3 0)) (h7:a.tmps[7]?=some (ptV b7 0)) (hdf:a.defers=[]) (hsz:a.tmps.size=25)
  (hQ:∀a' w',a'.defers=[]→a'.tmps.size=25→(∀q,q<10→a'.tmps[q]?=a.tmps[q]?)→Own w' b7 [.q x,.f ⟨0,dC⟩]→Below b7 w w'→Q .normal a' w'):(Code.region 2 (aD pp2) true).wp prog Q a w:=by
 have hd:Below w.heap.size w w.drew:=(Below.refl _ w).drew;refine Code.wp_mono (Q:=gJ fun a' w'=>a'.defers=[]∧a'.tmps.size=25∧(∀q,q<10→a'.tmps[q]?=a.tmps[q]?)∧Own w' b7 [.q x,.f ⟨0,dC⟩]∧Below b7 w w') (fun e a3 w3 h => ?_) (cM (fun wx=>True) 2 aI ?_)
 ·obtain⟨rfl,e1,e2,e3,e4,e5⟩:=h;exact hQ _ _ e1 e2 e3 e4 e5
 obtain⟨o0,ho0,hop0,hd0,hg0⟩:∃x,(aD pp2)[0]?=some x∧x.op=.slice 113 (.tmp 7) none none none∧x.dst=some 10∧x.guard=none:=⟨_,rfl,rfl,rfl,rfl⟩
 refine aE (i:=0) (v:=.slice (some ⟨b7,0,none⟩) 8 8) ho0 (by kernel_rfl) (by kernel_rfl) (by kernel_rfl) (by kernel_rfl) (fun _ _ _ h=>gO h) trivial (Pe hop0 hg0 h7) ?_;rw[hd0];obtain⟨o1,ho1,hop1,hd1,hg1⟩:∃x,(aD pp2)[1]?=some x∧x.op=.slice 72 (.tmp 3) none none none∧x.dst=some 11∧x.guard=none:=⟨_,rfl,rfl,rfl,rfl⟩
 refine aE (i:=1) (v:=.slice (some ⟨b3,0,none⟩) 4 4) ho1 (by kernel_rfl) (by kernel_rfl) (by kernel_rfl) (by kernel_rfl) (fun _ _ _ h=>gO h) trivial (Pf hop1 hg1 (aS h3 (by decide))) ?_;rw[hd1];obtain⟨o2,ho2,hop2,hd2,hg2⟩:∃x,(aD pp2)[2]?=some x∧x.op=.call ⟨.builtin .copy,#[.tmp 10,.tmp 11],#[62,62]⟩∧x.dst=some 12∧x.guard=none:=⟨_,rfl,rfl,rfl,rfl⟩
 have g10:((a.put (some 10) (.slice (some ⟨b7,0,none⟩) 8 8)).put (some 11) (.slice (some ⟨b3,0,none⟩) 4 4)).tmps[10]?=some (.slice (some ⟨b7,0,none⟩) 8 8):=aS (aT _ _ _ (by rw[hsz]; decide)) (by decide);have g11:((a.put (some 10) (.slice (some ⟨b7,0,none⟩) 8 8)).put (some 11) (.slice (some ⟨b3,0,none⟩) 4 4)).tmps[11]?=some (.slice (some ⟨b3,0,none⟩) 4 4):=aT _ _ _ (by simp only[aF,hsz]; decide);have gq:∀q,q<10→((a.put (some 10) (.slice (some ⟨b7,0,none⟩) 8 8)).put (some 11) (.slice (some ⟨b3,0,none⟩) 4 4)).tmps[q]?=a.tmps[q]?:=fun q hq=>by
  rw[fZ _ _ _ _ (fun e=>absurd (Option.some.inj e) (by omega)),fZ _ _ _ _ (fun e=>absurd (Option.some.inj e) (by omega))]
 have gz:((a.put (some 10) (.slice (some ⟨b7,0,none⟩) 8 8)).put (some 11) (.slice (some ⟨b3,0,none⟩) 4 4)).tmps.size=25:=by simp only[aF,hsz]
 have gd:((a.put (some 10) (.slice (some ⟨b7,0,none⟩) 8 8)).put (some 11) (.slice (some ⟨b3,0,none⟩) 4 4)).defers=[]:=hdf;generalize (a.put (some 10) (.slice (some ⟨b7,0,none⟩) 8 8)).put (some 11) (.slice (some ⟨b3,0,none⟩) 4 4)=c at *;refine aQ (i:=2) (by kernel_rfl) ho2 fun K hK => ?_
 rw[if_pos (by simp[Region.wanted,hg2])];have hOd:=hO.on hd;have hmd:=hm.on hd;have hthere:=hOd.there (o:=0) (n:=4) (Nat.le_of_ble_eq_true rfl);have hcp:=run_copy_cells (P:=prog) w.drew 62 62 o2.type 22 b7 0 8 8 ⟨b3,0,none⟩ 4 4 (aA [At.q x]) underlying62 (by kernel_rfl) rfl (fun j v hj=>by rw[Addr.add_mid]; exact hmd.2 j v hj) (fun j hj=>(hthere j hj).1) (fun j hj=>(hthere j hj).2) (WI x);have hrun:(execOp c.eval o2).run prog w.drew=.ok (.value (goInt (aA [At.q x]).length)) (w.drew.setCells b7 0 (aA [At.q x])):=by
  unfold execOp;simp only[hop2,resolve,invoke,builtin,Sem.run_bind,Sem.run_pure,Result.andThen_ok,List.map_toArray,List.map_cons,List.map_nil,cL g10,cL g11,hcp]
 refine bZ hrun ?_;rw[hd2];have hput:put Pd 0 [.q x]=some [.q x,.f ⟨0,dC⟩]:=rfl;obtain⟨hO2,hW⟩:=hOd.set hput;refine hK.out _ _ (Or.inl rfl) fun _ => ?_
 exact cU (by kernel_rfl) ⟨rfl,gd,by rw[aF]; exact gz,fun q hq=>by rw[fZ _ _ _ _ (fun e=>absurd (Option.some.inj e) (by omega))]; exact gq q hq,hO2,(hd.mono (Nat.le_of_lt hO.lt)).trans hW.below⟩
theorem WS {a b c:Nat} (ha:a<aH) (hb:b<aH) (hc:c<aH) (w0:World):bM prog 33 (.one (.fl [.q ((a+b*c)%lJ)])) [.agg (aA [.q a]).toArray,.agg (aA [.q b]).toArray,.agg (aA [.q c]).toArray] w0:=by
 have hG:∀base w,bO prog (qG prog) base w:=fun _ _=>(aW _).w _ _
 have hT:∀base w,∀n d:Nat,TabOkW prog T0 base w:=fun _ _ _ _=>(bU _).w _ _
 have hnt:f33.ntmps=25:=aAa;refine cH func33 (cs:=[.v (.fl [.q a]),.v (.fl [.q b]),.v (.fl [.q c])]) (args:=[.agg (aA [.q a]).toArray,.agg (aA [.q b]).toArray,.agg (aA [.q c]).toArray]) (c:=Dh) rfl ⟨rfl,rfl,rfl,trivial⟩ (Nat.le_of_ble_eq_true (by kernel_rfl)) fun x w hA => ?_
 rw[hnt]at hA;rw[Gn];refine wp_seq (aB aI (hT _ _) (hG _ _) (aFD a b c) trivial hA fun x w1 hA => ?_);unfold ppF at hA;obtain⟨b3,hA⟩:=hA.at (k:=3) (l:=[.q a]) (by simp);obtain⟨b4,hA⟩:=hA.at (k:=4) (l:=[.q b]) (by simp);obtain⟨b5,hA⟩:=hA.at (k:=5) (l:=[.q c]) (by simp);obtain⟨b6,hA⟩:=hA.at (k:=6) (l:=zC) (by simp);have m3:oldOf w1 b3 0 [.q a]:=hA.old (k:=3) (by simp) (by simp);have m4:oldOf w1 b4 0 [.q b]:=hA.old (k:=4) (by simp) (by simp);have m5:oldOf w1 b5 0 [.q c]:=hA.old (k:=5) (by simp) (by simp);have m6:Own w1 b6 zC:=hA.own (k:=6) (by simp) (by simp);have hB6:w0.heap.size≤b6:=hA.geq (k:=6) (l:=zC) (by simp) (by simp);have hbl:=hA.below;have hS:=aP (nt:=25) (w:=w1) (a:=x) (ts:=[(3,ptV b3 0),(4,ptV b4 0),(5,ptV b5 0),(6,ptV b6 0)]) hA.defers hA.size (fun z hz=>by
  simp only[List.mem_cons,List.not_mem_nil,or_false]at hz
  rcases hz with rfl|rfl|rfl|rfl
  ·exact hA.ptS (s:=3) (k:=3) (o:=0) (by simp) (by simp)
  ·exact hA.ptS (s:=4) (k:=4) (o:=0) (by simp) (by simp)
  ·exact hA.ptS (s:=5) (k:=5) (o:=0) (by simp) (by simp)
  ·exact hA.ptS (s:=6) (k:=6) (o:=0) (by simp) (by simp))
 clear hA;refine wp_seq (aB aI (hT _ _) (hG _ _) (aFC _ _ _ _) trivial hS fun x w2 hA => ?_);obtain⟨b7,hA⟩:=hA.at (k:=7) (l:=Pd) (by simp);have m7:Own w2 b7 Pd:=hA.own (k:=7) (by simp) (by simp);have hB7:w1.heap.size≤b7:=hA.geq (k:=7) (l:=Pd) (by simp) (by simp);have hb2:=hA.below;have t3:=hA.slot (s:=3) (v:=ptV b3 0) (by simp);have t4:=hA.slot (s:=4) (v:=ptV b4 0) (by simp);have t5:=hA.slot (s:=5) (v:=ptV b5 0) (by simp);have t6:=hA.slot (s:=6) (v:=ptV b6 0) (by simp);have t7:=hA.ptS (s:=7) (k:=7) (o:=0) (b:=b7) (by simp) (by simp);have hdf:=hA.defers;have hsz:=hA.size;clear hA hS;have l3:=m3.1;have l4:=m4.1;have l5:=m5.1;have l6:=m6.lt;have m32:=m3.on hb2;refine wp_seq (aAb m32 m7 (by omega) t3 t7 hdf hsz fun x' w3 d1 d2 d3 d4 hb3 => ?_);have m73:Own w3 b7 (tkL a b c 0):=d4.eq (by
  show _=aA [At.q (a%aH),.q (a/aH)];rw[Nat.mod_eq_of_lt ha,Nat.div_eq_of_lt ha];rfl)
 have hH:=m73.holds (k:=7) (nt:=25) (a:=x') (ts:=[(4,ptV b4 0),(5,ptV b5 0),(6,ptV b6 0)]) d1 d2 rfl ((d3 7 (by decide)).trans t7) (fun z hz=>by
  simp only[List.mem_cons,List.not_mem_nil,or_false]at hz
  rcases hz with rfl|rfl|rfl
  ·exact (d3 4 (by decide)).trans t4
  ·exact (d3 5 (by decide)).trans t5
  ·exact (d3 6 (by decide)).trans t6)
 have m42:=m4.on hb2;have m52:=m5.on hb2;have h4:b4<b7∧w3.rangeAt b4 0 (aA [At.q b]):=⟨by omega,(m42.below hb3 (by omega)).2⟩;have h5:b5<b7∧w3.rangeAt b5 0 (aA [At.q c]):=⟨by omega,(m52.below hb3 (by omega)).2⟩;refine wp_seq (aB aI (hT _ _) (Pj b7 w3 _ ((jJ _).add func63 (by kernel_rfl) (by kernel_rfl) (Tp ha hc))) (aFB b7 w3.heap.size w3 b c b4 b5 b6 (tkL a b c) (fw b)) ⟨h4,rfl,h5,rfl,by decide,rfl,rfl,rfl,h5,rfl,by decide,rfl,rfl,rfl,h5,rfl,by decide,rfl,rfl,rfl,h5,rfl,by decide,rfl,rfl,rfl,trivial⟩ hH fun x w4 hA => ?_);clear hH;have hN:TO a b c 4=a+b*c:=Za hb;have hlt:=IC ha hc 4 (b:=b);rw[hN]at hlt;have hA':Holds 25 b7 w3 [.slot 7 (.pt 7 0),.row 7 true [.q ((a+b*c)%aH),.q ((a+b*c)/aH)],.slot 6 (.im (ptV b6 0))] x w4:=by
  rw[←hN];exact hA
 have hlo:(a+b*c)%aH<aH:=Nat.mod_lt _ (by decide);have hhi:(a+b*c)/aH<aH:=Nat.lt_of_lt_of_le (Nat.div_lt_of_lt_mul hlt) (by decide);have hz:=OK hlo hhi;have e:(a+b*c)/aH*aH+(a+b*c)%aH=a+b*c:=by rw[Nat.mul_comm]; exact Nat.div_add_mod _ _
 rw[e]at hz;generalize (a+b*c)%lJ=r at *;generalize (a+b*c)%aH=lo at *;generalize (a+b*c)/aH=hi at *;clear hA;refine wp_seq (bI (l:=List.range' 0 ((aD pp8).extract 0 2).size++(2::[])) (by kernel_rfl) ?_);refine aG (c:=tC _ _) (fun _=>((bU _).add func64 (by kernel_rfl) (by kernel_rfl) hz).w _ _) (hG _ _) (aFA lo hi r b6) ⟨rfl,trivial⟩ (by kernel_rfl) hA' fun x5 w5 hA => ?_
 obtain⟨o2,ho2,hop2,hd2,hg2⟩:∃x,(aD pp8)[2]?=some x∧x.op=.store 72 (.tmp 6) (.tmp 24)∧x.dst=none∧x.guard=none:=⟨_,rfl,rfl,rfl,rfl⟩
 have hb5:=hA.below;have m63:=((m6.on hb2).below hb3 (by omega)).below hb5 (by omega);obtain⟨hR,hW⟩:=m63.set (o:=0) (p:=[.q r]) (l':=[.q r]) rfl;refine aZ ho2 hg2 (eV (vs:=aA [.q r]) hop2 hd2 (cL (hA.slot (s:=6) (v:=ptV b6 0) (by simp))) (cL (hA.slotF (s:=24) (by simp))) rfl (oT _) Pz (m63.there (o:=0) (n:=4) (Nat.le_of_ble_eq_true rfl)) ?_);have hH:=hR.holds (k:=6) (nt:=25) (a:=x5) (ts:=[]) hA.defers hA.size rfl (hA.slot (s:=6) (v:=ptV b6 0) (by simp)) (fun x hx=>by cases hx);have hs1:=hbl.size;exact wp_ret (cK (l:=[.fl [.q r]]) (r:=.one (.fl [.q r])) (by kernel_rfl) (by kernel_rfl) hH ⟨rfl,(((hbl.trans (hb2.mono hs1)).trans (hb3.mono (by omega))).trans (hb5.mono (by omega))).trans (hW.below.mono hB6)⟩)
abbrev NS:=NP×Nat
def kH (s:NS):List At:=[.q s.1.1,.q s.1.2,.q s.2]
def TY (s:NS):Int:=if kR s.1=0 then (if s.2<lJ then 0 else 4)else kR s.1
def Mk (c:Int) (z:Bool):Tab:=((((TH.add 41 (Uf c)).add 40 (Uj z)).add 77 (aBU true)).add 78 (aBX true)).add 31 gTb
theorem XJ (c:Int) (z:Bool):TabOk prog (Mk c z):=((((EF.add func41 (by kernel_rfl) (by kernel_rfl) (OL wD c)).add func40 (by kernel_rfl) (by kernel_rfl) (aCy z)).add func77 (by kernel_rfl) (by kernel_rfl) (Jm JQ true)).add func78 (by kernel_rfl) (by kernel_rfl) (Jv MG true)).add func31 (by kernel_rfl) (by kernel_rfl) aCp
theorem Lf (s:NS) (c:Int):cR prog (qG prog) (fun _=>⟨fun _=>Mk c true,fun _=>true,assoc [(8,.bool true)]⟩) f34 60 [.v (.fl (kH s))]=some ([s.1.1<aH,s.1.2<aH,kR s.1=c,aJ .neq .i64 c 0=some (.bool true)],.one (.im (.int .i64 c))):=by kernel_rfl
theorem Le (s:NS):cR prog (qG prog) (fun _=>⟨fun _=>Mk 0 false,fun _=>true,fun _=>none⟩) f34 60 [.v (.fl (kH s))]=some ([s.1.1<aH,s.1.2<aH,kR s.1=0,s.2<aH,decide (s.2<lJ)=false],.one (.im (.int .i64 4))):=by kernel_rfl
theorem Ld (s:NS):cR prog (qG prog) (fun _=>⟨fun _=>Mk 0 true,fun _=>true,fun _=>none⟩) f34 60 [.v (.fl (kH s))]=some ([s.1.1<aH,s.1.2<aH,kR s.1=0,s.2<aH,decide (s.2<lJ)=true],.one (.im (.int .i64 0))):=by kernel_rfl
theorem NZ {k:Int} (h:k≠0):aJ .neq .i64 k 0=some (.bool true):=by
 show some (Value.bool (k != 0))=_;rw[bne_iff_ne.2 h]
theorem SK (s:NS) (h1:s.1.1<aH) (h2:s.1.2<aH) (h3:s.2<aH) (args:List Value) (w:World) (ha:cT w [.v (.fl (kH s))] args):bM prog 34 (.one (.im (.int .i64 (TY s)))) args w:=by
 unfold TY;split
 ·rename_i h0;split
  ·exact aV aI (fun _ _=>XJ 0 true) (aW _) func34 (Ld s) ⟨h1,h2,h0,h3,decide_eq_true (by assumption),trivial⟩ ha
  ·exact aV aI (fun _ _=>XJ 0 false) (aW _) func34 (Le s) ⟨h1,h2,h0,h3,decide_eq_false (by assumption),trivial⟩ ha
 ·exact aV aI (fun _ _=>XJ _ true) (aW _) func34 (Lf s _) ⟨h1,h2,rfl,NZ (by assumption),trivial⟩ ha
def Uh (c:Int):gL
 | [.v (.fl l)]=>match EP l with
  | some [a,b,d]=>some ([a<aH,b<aH,d<aH,TY ((a,b),d)=c,aA l=aA (kH ((a,b),d))],.one (.im (.int .i64 c)))
  | _=>none
 | _=>none
theorem aCx (c:Int):∀cs pre r,Uh c cs=some (pre,r)→bC pre→∀(args:List Value) (w:World),cT w cs args→bM prog 34 r args w:=by
 intro cs pre r hg hp args w ha;unfold Uh at hg;split at hg
 ·rename_i l;split at hg
  ·rename_i a b d hn;cases hg;obtain⟨p1,p2,p3,p4,p5,_⟩:=hp;subst p4
   match args,ha with
   | [x],ha =>
    have e1:x=.agg (aA l).toArray:=ha.1;subst e1;rw[p5];exact SK ((a,b),d) p1 p2 p3 _ w ⟨rfl,trivial⟩
   | [],ha=>exact ha.elim
   | _::_::_,ha=>exact ha.2.elim
  ·cases hg
 ·cases hg
theorem aAD {p:NP} (h:OnJ p.1 p.2):p.1<aH∧p.2<aH:=OnJ.w h
def Ue (r k:NP) (v:Value) (h:Nat):gL
 | [.v (.fl l),.v (.fl m),.v (.im u)]=>some ([aA l=aA [At.q r.1,.q r.2],aA m=aA [At.q k.1,.q k.2],u=v],.one (.fl [.q h]))
 | _=>none
theorem Jt {r k:NP} {w:World} {v:Value} {N:Nat} {fm:Nat→Nat} (hb:BV w v N fm) (hN:N≤4096) (hr:OnJ r.1 r.2) (hk:OnJ k.1 k.2) (hDj:Dbj w):∀cs pre q,Ue r k v (chN r k fm N) cs=some (pre,q)→bC pre→∀(args:List Value),cT w cs args→bM prog 32 q args w:=by
 intro cs pre q hg hq args ha;unfold Ue at hg;split at hg
 ·rename_i l m u;cases hg;obtain⟨p1,p2,p3,_⟩:=hq
  match args,ha with
  | [x,y,z],ha =>
   have e1:x=.agg (aA l).toArray:=ha.1;have e2:y=.agg (aA m).toArray:=ha.2.1;have e3:z=u:=ha.2.2.1;subst e1; subst e2; subst e3; subst p3;rw[p1,p2];exact LP hb hN hr.1.1 hr.1.2 hk.1.1 hk.1.2 hDj
  | [],ha=>exact ha.elim
  | [_],ha=>exact ha.2.elim
  | [_,_],ha=>exact ha.2.2.elim
  | _::_::_::_::_,ha=>exact ha.2.2.2.elim
 ·cases hg
def Tu (s:Nat) (v:Value) (h:Nat):gL
 | [.v (.fl l),.v (.im u)]=>some ([aA l=aA [At.q s],u=v],.one (.fl [.q h]))
 | _=>none
theorem Jl {s:Nat} {w:World} {v:Value} {N:Nat} {fm:Nat→Nat} (hb:BV w v N fm) (hN:N≤4096) (hs:s<RM) (hDj:Dbj w):∀cs pre q,Tu s v (Np s fm N) cs=some (pre,q)→bC pre→∀(args:List Value),cT w cs args→bM prog 30 q args w:=by
 intro cs pre q hg hq args ha;unfold Tu at hg;split at hg
 ·rename_i l u;cases hg;obtain⟨p1,p3,_⟩:=hq
  match args,ha with
  | [x,z],ha =>
   have e1:x=.agg (aA l).toArray:=ha.1;have e3:z=u:=ha.2.1;subst e1; subst e3; subst p3;rw[p1];exact EN hb hN hs hDj
  | [],ha=>exact ha.elim
  | [_],ha=>exact ha.2.elim
  | _::_::_::_,ha=>exact ha.2.2.elim
 ·cases hg
def Tr (a b c r:Nat):gL
 | [.v (.fl l),.v (.fl m),.v (.fl k)]=>some ([aA l=aA [At.q a],aA m=aA [At.q b],aA k=aA [At.q c]],.one (.fl [.q r]))
 | _=>none
theorem Jj {a b c:Nat} (h1:a<aH) (h2:b<aH) (h3:c<aH):∀cs pre r,Tr a b c ((a+b*c)%lJ) cs=some (pre,r)→bC pre→∀(args:List Value) (w:World),cT w cs args→bM prog 33 r args w:=by
 intro cs pre r hg hq args w ha;unfold Tr at hg;split at hg
 ·rename_i l m k;cases hg;obtain⟨p1,p2,p3,_⟩:=hq
  match args,ha with
  | [x,y,z],ha =>
   have e1:x=.agg (aA l).toArray:=ha.1;have e2:y=.agg (aA m).toArray:=ha.2.1;have e3:z=.agg (aA k).toArray:=ha.2.2.1;subst e1; subst e2; subst e3;rw[p1,p2,p3];exact WS h1 h2 h3 w
  | [],ha=>exact ha.elim
  | [_],ha=>exact ha.2.elim
  | [_,_],ha=>exact ha.2.2.elim
  | _::_::_::_::_,ha=>exact ha.2.2.2.elim
 ·cases hg
def Mi (y z:Bool) (ch no pp:gL):Tab:=((((Ml y).add 29 (gLo z)).add 32 ch).add 30 no).add 33 pp
def PM:List At:=[.f ⟨0,dC⟩,.f ⟨0,dC⟩,.f ⟨0,dC⟩]
theorem aFp (s:Nat) (p:Option Addr) (n m k h q:Nat):cR prog (qG prog) (fun _=>⟨fun _=>Mi true false (Ue (pN k) (pN s) (.slice p n m) h) (Tu s (.slice p n m) k) (Tr k h s q),fun _=>true,fun _=>none⟩) f9 60 [.v (.fl [.q s]),.v (.im (.slice p n m))]=some ([s<aH,mF s=true,decide (4096<n)=false,aA [At.q s]=aA [At.q s],Value.slice p n m=Value.slice p n m,aA [At.q (pN k).1,.q (pN k).2]=aA [At.q (pN k).1,.q (pN k).2],aA [At.q (pN s).1,.q (pN s).2]=aA [At.q (pN s).1,.q (pN s).2],Value.slice p n m=Value.slice p n m,aA [At.q k]=aA [At.q k],aA [At.q h]=aA [At.q h],aA [At.q s]=aA [At.q s]],.many [.fl (kH (pN k,q)),.im (.int .i64 0)]):=by kernel_rfl
theorem aFo (s:Nat) (p:Option Addr) (n m:Nat):cR prog (qG prog) (fun _=>⟨fun _=>Mi true true (fun _=>none) (fun _=>none) (fun _=>none),fun _=>true,fun _=>none⟩) f9 60 [.v (.fl [.q s]),.v (.im (.slice p n m))]=some ([s<aH,mF s=true,decide (4096<n)=true],.many [.fl PM,.im (.int .i64 5)]):=by kernel_rfl
theorem aFn (s:Nat) (p:Option Addr) (n m:Nat):cR prog (qG prog) (fun _=>⟨fun _=>Mi false true (fun _=>none) (fun _=>none) (fun _=>none),fun _=>true,fun _=>none⟩) f9 60 [.v (.fl [.q s]),.v (.im (.slice p n m))]=some ([s<aH,mF s=false],.many [.fl PM,.im (.int .i64 121)]):=by kernel_rfl
theorem lG {f:Nat}:∀w:World,∀cs pre r,(fun _:List CA=>(none:Option (List Prop×RV))) cs=some (pre,r)→bC pre→∀(args:List Value),cT w cs args→bM prog f r args w:=fun _ _ _ _ h=>nomatch h
theorem VU {w:World} {y z:Bool} {ch no pp:gL} (h1:∀w',Below w.heap.size w w'→∀cs pre r,ch cs=some (pre,r)→bC pre→∀(args:List Value),cT w' cs args→bM prog 32 r args w')
  (h2:∀w',Below w.heap.size w w'→∀cs pre r,no cs=some (pre,r)→bC pre→∀(args:List Value),cT w' cs args→bM prog 30 r args w')
  (h3:∀w',Below w.heap.size w w'→∀cs pre r,pp cs=some (pre,r)→bC pre→∀(args:List Value),cT w' cs args→bM prog 33 r args w'):TabOkW prog (Mi y z ch no pp) w.heap.size w :=
 TabOkW.add (TabOkW.add (TabOkW.add (((XK y).add func29 (by kernel_rfl) (by kernel_rfl) (aGR z)).w _ _) func32 (by kernel_rfl) (by kernel_rfl) h1) func30 (by kernel_rfl) (by kernel_rfl) h2) func33 (by kernel_rfl) (by kernel_rfl) h3
theorem Lg {p:NP} (h:kR p=0):OnJ p.1 p.2:=by
 apply Classical.byContradiction;intro hn;rw[Bo hn]at h;exact absurd h (by decide)
theorem aDz {s:NS} (hs:TY s=0):kR s.1=0:=by
 unfold TY at hs;split at hs
 ·assumption
 ·exact hs
def Nc (s:Nat) (fm:Nat→Nat) (N:Nat):NS:=(pN (Np s fm N),(Np s fm N+chN (pN (Np s fm N)) (pN s) fm N*s)%lJ)
theorem Sr (s:Nat) (fm:Nat→Nat) (N:Nat):Np s fm N<lJ:=Ar _ _ _ _
theorem Vw (r k:NP) (fm:Nat→Nat) (N:Nat):chN r k fm N<lJ:=Ar _ _ _ _
def Fa (s N:Nat):Int:=if mF s=true then (if 4096<N then 5 else 0)else 121
theorem oP {w:World} {p:Option Addr} {N m s:Nat} {fm:Nat→Nat} (hb:BV w (.slice p N m) N fm) (hs:s<aH) (hDj:Dbj w) :
  bM prog 9 (if Fa s N=0 then .many [.fl (kH (Nc s fm N)),.im (.int .i64 0)]else .many [.fl PM,.im (.int .i64 (Fa s N))]) [.agg (aA [At.q s]).toArray,.slice p N m] w:=by
 have hG:bO prog (qG prog) w.heap.size w:=(aW _).w _ _;have ha:cT w [.v (.fl [.q s]),.v (.im (.slice p N m))] [.agg (aA [At.q s]).toArray,.slice p N m]:=⟨rfl,rfl,trivial⟩;unfold Fa
 by_cases hz:mF s=true
 ·have hsl:s<lJ:=(of_decide_eq_true hz).2;simp only[if_pos hz]
  by_cases hN:4096<N
  ·simp only[if_pos hN];rw[if_neg (by decide)];exact cG aI (fun _ _=>VU (fun w' _=>lG w') (fun w' _=>lG w') (fun w' _=>lG w')) hG func9 (aFo s p N m) ⟨hs,hz,decide_eq_true hN,trivial⟩ ha
  ·simp only[if_neg hN,if_true];have hN':N≤4096:=by omega
   exact cG aI (fun _ _=>VU (fun w' hw=>Jt (hb.on hw) hN' (NQ _) (NQ _) (hDj.on hDj.lt hw)) (fun w' hw=>Jl (hb.on hw) hN' (Nat.lt_trans hsl (by decide)) (hDj.on hDj.lt hw)) (fun w' _ cs pre r hg hp args ha=>Jj (Nat.lt_trans (Sr _ _ _) YX) (Nat.lt_trans (Vw _ _ _ _) YX) hs cs pre r hg hp args w' ha)) hG func9 (aFp s p N m (Np s fm N) (chN (pN (Np s fm N)) (pN s) fm N) _) ⟨hs,hz,decide_eq_false hN,rfl,rfl,rfl,rfl,rfl,rfl,rfl,rfl,trivial⟩ ha
 ·simp only[if_neg hz];rw[if_neg (by decide)];exact cG aI (fun _ _=>VU (fun w' _=>lG w') (fun w' _=>lG w') (fun w' _=>lG w')) hG func9 (aFn s p N m) ⟨hs,by simpa using hz,trivial⟩ ha
theorem aDA:cj JB=(bX,bY):=Prod.ext (aFZ xJ) (aFY xJ)
theorem aAt {n:Nat} (h:n<aH):pN n=cj (lU.grp.ns n JB):=by
 have:=XB n;rw[show wv n=n from fC h]at this;exact this
theorem aFJ:pN 1=(bX,bY):=by rw[aAt (by decide),lU.grp.ns_one,aDA]
theorem Nb (s:Nat) (fm:Nat→Nat) (N:Nat):(Nc s fm N).2<lJ:=Nat.mod_lt _ JU
theorem Zs (s:Nat) (fm:Nat→Nat) (N:Nat):TY (Nc s fm N)=0:=by
 unfold TY;rw[if_pos (show kR (Nc s fm N).1=0 from Sb _),if_pos (Nb s fm N)]
theorem Fl (v:Value):cR prog (qG prog) (fun _=>⟨fun _=>T0,fun _=>true,fun _=>none⟩) f26 60 [.v (.im v)]=some ([],.one (.im v)):=by kernel_rfl
theorem aCu:∀cs pre r,Tv cs=some (pre,r)→bC pre→∀(args:List Value) (w:World),cT w cs args→bM prog 26 r args w:=by
 intro cs pre r hg hp args w ha;unfold Tv at hg;split at hg
 ·rename_i v;cases hg;exact aV aI (fun _ _=>bU _) (aW prog) func26 (Fl v) trivial ha
 ·cases hg
def Oz:Tab:=T0.add 88 Ts
theorem Sp:TabOk prog Oz:=(bU _).add func88 (by kernel_rfl) (by kernel_rfl) aCr
theorem XQ (s:ByteArray):cR prog (qG prog) (fun n=>⟨fun _=>Oz,fun _=>true,fun _=>none⟩) f59 60 [.v (.im (.string s))]=some ([s.size≤maxLen],.one (.fl [.q (eK s.data.toList).1])):=by kernel_rfl
theorem Vd:∀cs pre r,ZW cs=some (pre,r)→bC pre→∀(args:List Value) (w:World),cT w cs args→bM prog 59 r args w:=by
 intro cs pre r hg hp args w ha;unfold ZW at hg;split at hg
 ·rename_i s;cases hg;exact aV aI (fun _ _=>Sp) (aW _) func59 (XQ s) hp ha
 ·cases hg
def Ox:Tab:=T0.add 59 ZW
theorem Sn:TabOk prog Ox:=(bU _).add func59 (by kernel_rfl) (by kernel_rfl) Vd
theorem IY:cR prog (qG prog) (fun n=>⟨fun _=>Ox,fun _=>true,fun _=>none⟩) f27 60 []=some ([aCN.size≤maxLen,dgY.size≤maxLen],.one (.fl [.q bX,.q bY])):=by kernel_rfl
theorem Gb (w:World):bM prog 27 (.one (.fl [.q bX,.q bY])) [] w:=aV aI (fun _ _=>Sn) (aW _) func27 IY ⟨aCP,aCO,trivial⟩ (args:=[]) trivial
def Ov (z y:Bool) (m:Nat):Nat→Tab:=fun s=>((T0.add 26 Tv).add 27 (g0 (.one (.fl [.q bX,.q bY])))).add 10 (gPu (bif Nat.blt s m then z else y))
theorem Sm (z y:Bool) (m s:Nat):TabOk prog (Ov z y m s):=(((bU _).add func26 (by kernel_rfl) (by kernel_rfl) aCu).add func27 (by kernel_rfl) (by kernel_rfl) (tD Gb)).add func10 (by kernel_rfl) (by kernel_rfl) (aGM _)
theorem Pn:cR prog (qG prog) (fun _=>⟨Ov true false 8,fun _=>true,fun _=>none⟩) f8 60 []=some ([1<aH,mF 1=true,0<aH,mF 0=false,aA [At.q (pN 1).1,.q (pN 1).2]=aA [At.q bX,.q bY]],.one (.im (.bool true))):=by kernel_rfl
theorem UK (w:World):bM prog 8 (.one (.im (.bool true))) [] w :=
 aV aI (fun _ s=>Sm true false 8 s) (aW _) func8 Pn ⟨by decide,decide_eq_true ⟨by decide,by decide⟩,by decide,decide_eq_false (fun h=>h.1 rfl),by rw[aFJ],trivial⟩ (args:=[]) trivial
def Je (s:Nat) (v:Value) (R:RV):gL
 | [.v (.fl l),.v (.im u)]=>some ([aA l=aA [At.q s],u=v],R)
 | _=>none
theorem OJ {s:Nat} {v:Value} {R:RV} {w:World} (h:bM prog 9 R [.agg (aA [At.q s]).toArray,v] w):∀cs pre r,Je s v R cs=some (pre,r)→bC pre→∀(args:List Value),cT w cs args→bM prog 9 r args w:=by
 intro cs pre r hg hp args ha;unfold Je at hg;split at hg
 ·rename_i l u;cases hg
  match args,ha with
  | [x,z],ha =>
   have e1:x=.agg (aA l).toArray:=ha.1;have e3:z=u:=ha.2.1;rw[e1,e3,hp.1,hp.2.1];exact h
  | [],ha=>exact ha.elim
  | [_],ha=>exact ha.2.elim
  | _::_::_::_,ha=>exact ha.2.2.elim
 ·cases hg
theorem Ez {w:World} {p:Option Addr} {N m s:Nat} {fm:Nat→Nat} (hb:BV w (.slice p N m) N fm) (hs:s<aH) (hDj:Dbj w) (hz:mF s=true) (hN:4096<N):bM prog 9 (.many [.fl PM,.im (.int .i64 5)]) [.agg (aA [At.q s]).toArray,.slice p N m] w:=by
 have h:=oP hb hs hDj;have e:Fa s N=5:=by unfold Fa; rw[if_pos hz,if_pos hN]
 rw[e,if_neg (by decide)]at h;exact h
theorem Ey {w:World} {p:Option Addr} {N m s:Nat} {fm:Nat→Nat} (hb:BV w (.slice p N m) N fm) (hs:s<aH) (hDj:Dbj w) (hz:mF s=false):bM prog 9 (.many [.fl PM,.im (.int .i64 121)]) [.agg (aA [At.q s]).toArray,.slice p N m] w:=by
 have h:=oP hb hs hDj;have e:Fa s N=121:=by unfold Fa; rw[if_neg (by rw[hz]; decide)]
 rw[e,if_neg (by decide)]at h;exact h
theorem Ew {w:World} {p:Option Addr} {N m s:Nat} {fm:Nat→Nat} (hb:BV w (.slice p N m) N fm) (hs:s<aH) (hDj:Dbj w) (hz:mF s=true) (hN:N≤4096):bM prog 9 (.many [.fl (kH (Nc s fm N)),.im (.int .i64 0)]) [.agg (aA [At.q s]).toArray,.slice p N m] w:=by
 have h:=oP hb hs hDj;have e:Fa s N=0:=by unfold Fa; rw[if_pos hz,if_neg (by omega)]
 rw[if_pos e]at h;exact h
theorem aFq (s:Nat) (fm:Nat→Nat) (N:Nat):(Nc s fm N).1.1<aH∧(Nc s fm N).1.2<aH∧(Nc s fm N).2<aH:=⟨(aAD (NQ _)).1,(aAD (NQ _)).2,Nat.lt_trans (Nb s fm N) YX⟩
theorem TA (w:World) {n:Nat} (h0:0<n) (hn:n≤131072) (ty:TypeId):∃C w',(Builtin.append_ #[25,3] ty #[.slice none 0 0,iI n]).run prog w=.ok (aK w.heap.size 0 n C) w'∧n≤C∧AppAt w' w.heap.size 5 1 0 C∧Below w.heap.size w w':=by
 obtain⟨ht,i,z,hi,hz,hsize,hby,hzs,hsz⟩:=jI Yx;have hu:prog.underlying 3=some (.int .i64):=by kernel_rfl
 have hn0:n≠0:=by omega
 have h48:¬(281474976710656<Builtin.nextslicecap n 0*i.bytes):=by rw[nextslicecap_zero h0,hby]; omega
 have hw:IntKind.i64.wrap (n:Int)=n:=by rw[IntKind.wrap_i64]; omega
 have hlt:¬((n:Int)<0):=by omega
 have h2:¬(281474976710656<(n:Int)*(i.bytes:Int)):=by rw[hby]; omega
 have h63:¬(9223372036854775807<(n:Int)):=by omega
 refine⟨grownCap w n 0 5,w.drew.alloc (.cells (Builtin.zeroCells z.cells n++Builtin.zeroCells z.cells (grownCap w n 0 5-n)) 5),?_,grownCap_ge _ _ _ _,?_,(Below.refl _ w).drew.alloc (Nat.le_refl _) _⟩
 ·simp[Builtin.append_,run_underlying ht,run_underlying hu,sizeOf,typeInfo,zeroValue,hi,hz,asInt,asIntOf,iI,hw,hlt,h2,hn0,h63,h48,Question.forced,Builtin.firstCells,newRow,grownCap,aK,hsize]
 ·refine⟨_,by have:=World.alloc_heap_new w.drew (.cells (Builtin.zeroCells z.cells n++Builtin.zeroCells z.cells (grownCap w n 0 5-n)) 5); exact this,Nat.zero_le _,grownCap_le_maxLen _ _ _ _ (by unfold maxLen; omega),?_⟩;have:=grownCap_ge w n 0 5;rw[Array.size_append,size_zeroCells,size_zeroCells,hzs,←Nat.add_mul,show n+(grownCap w n 0 5-n)=grownCap w n 0 5 by omega]
noncomputable abbrev aBM:Func:=f68
def fV:Code:=(f68.body).getD .skip
def ZR:Code:=cA (cB (cB fV))
def yC:Code:=cA ZR
def Ny:Code:=cA (cB ZR)
def qS:Code:=yQ (cB (cB ZR))
theorem RF:fV=.seq (cA fV) (.seq (cA (cB fV)) (.seq (.seq (.region 3 (aD yC) false) (.seq Ny (.cond (.tmp 16) (.region 5 (aD qS) false) .skip))) (cB (cB (cB fV))))):=by kernel_rfl
theorem Iw:aBM.ntmps=27:=by kernel_rfl
def cN:Value:=.slice none 0 0
theorem Iv (n:Nat):aX prog (qG prog) 27 (fun _=>tC T0 fun _=>none) 60 (cA fV) (fD 0 [.v (.im cN),.v (.im (iI n))]) [.slot 0 (.im cN),.slot 1 (.im (iI n))]=some ([],.nrm,[.slot 0 (.im cN),.slot 1 (.im (iI n))]):=by kernel_rfl
theorem Iu (n:Nat):aX prog (qG prog) 27 (fun _=>tC T0 (assoc [(6,.bool false)])) 60 (cA (cB fV)) [.slot 0 (.im cN),.slot 1 (.im (iI n))] [.slot 0 (.im cN),.slot 1 (.im (iI n))]=some ([aJ .lss .i64 (Int.ofNat n) 0=some (.bool false)],.nrm,[.slot 0 (.im cN),.slot 1 (.im (iI n))]):=by kernel_rfl
theorem Jb (n:Nat):cO prog (qG prog) 27 (tC T0 fun _=>none) ((aD yC).extract 0 2) [.slot 0 (.im cN),.slot 1 (.im (iI n))] [.slot 8 (.im (iI n)),.slot 9 (.im cN),.slot 0 (.im cN)]=some ([],[.slot 8 (.im (iI n)),.slot 9 (.im cN),.slot 0 (.im cN)]):=by kernel_rfl
theorem Ja (n:Nat):cO prog (qG prog) 27 (tC T0 (assoc [(13,iI 0),(14,iI n)])) ((aD yC).extract 3 8) [.slot 10 (.im (iI 0)),.slot 8 (.im (iI n)),.slot 0 (.im cN)] [.slot 0 (.im cN),.slot 1 (.im (iI n))]=some ([aJ .sub .i64 (Int.ofNat 0) (Int.ofNat 0)=some (iI 0),aJ .sub .i64 (Int.ofNat n) (Int.ofNat 0)=some (iI n)],[.slot 0 (.im cN),.slot 1 (.im (iI n))]):=by kernel_rfl
theorem Tn (n:Nat):aX prog (qG prog) 27 (fun _=>tC T0 (assoc [(16,.bool true)])) 60 Ny [.slot 0 (.im cN),.slot 1 (.im (iI n))] [.slot 16 (.im (.bool true)),.slot 0 (.im cN),.slot 1 (.im (iI n))]=some ([aJ .gtr .i64 (Int.ofNat n) 0=some (.bool true)],.nrm,[.slot 16 (.im (.bool true)),.slot 0 (.im cN),.slot 1 (.im (iI n))]):=by kernel_rfl
theorem Iz (n:Nat):cO prog (qG prog) 27 (tC T0 fun _=>none) ((aD qS).extract 0 2) [.slot 0 (.im cN),.slot 1 (.im (iI n))] [.slot 17 (.im cN),.slot 18 (.im cN),.slot 0 (.im cN),.slot 1 (.im (iI n))]=some ([],[.slot 17 (.im cN),.slot 18 (.im cN),.slot 0 (.im cN),.slot 1 (.im (iI n))]):=by kernel_rfl
theorem Iy (n:Nat):cO prog (qG prog) 27 (tC T0 fun _=>none) ((aD qS).extract 3 5) [.slot 19 (.im (iI 0)),.slot 17 (.im cN),.slot 0 (.im cN),.slot 1 (.im (iI n))] [.slot 20 (.im cN),.slot 21 (.im (iI n)),.slot 0 (.im cN)]=some ([0≤0],[.slot 20 (.im cN),.slot 21 (.im (iI n)),.slot 0 (.im cN)]):=by kernel_rfl
theorem Ix (b n C:Nat):cO prog (qG prog) 27 (tC T0 fun _=>none) ((aD qS).extract 6 10) [.slot 22 (.im (aK b 0 n C)),.slot 0 (.im cN)] [.slot 0 (.im (aK b 0 0 C))]=some ([0≤C],[.slot 0 (.im (aK b 0 0 C))]):=by kernel_rfl
theorem Tm (v:Value):aX prog (qG prog) 27 (fun _=>tC T0 fun _=>none) 60 (cB (cB (cB fV))) [.slot 0 (.im v)] [.slot 4 (.im v)]=some ([],.rt,[.slot 4 (.im v)]):=by kernel_rfl
theorem wJ {o:Oper} {a:Act} {w:World} {s:Nat} (hop:o.op=.call ⟨.builtin .cap,#[.tmp s],#[25]⟩) (h:a.tmps[s]?=some cN):(execOp a.eval o).run prog w=.ok (.value (iI 0)) w:=by
 have hu:prog.underlying 25=some (.slice 5):=underlying25;simp[execOp,hop,resolve,invoke,builtin,cL h,cN,Builtin.cap_,iI,goInt,run_underlying hu]
theorem KH {w0:World} {n:Nat} (h0:0<n) (hn:n≤131072):Calls prog 68 [cN,iI n].toArray w0 fun e w'=>∃b C,e=.returned (aK b 0 0 C)∧n≤C∧AppAt w' b 5 1 0 C∧w0.heap.size≤b∧Below w0.heap.size w0 w':=by
 have hG:∀base w,bO prog (qG prog) base w:=fun _ _=>(aW _).w _ _
 have hT:∀base w,∀n d:Nat,TabOkW prog T0 base w:=fun _ _ _ _=>(bU _).w _ _
 have hnt:f68.ntmps=27:=Iw;refine cH func68 (cs:=[.v (.im cN),.v (.im (iI n))]) (args:=[cN,iI n]) (c:=fV) rfl ⟨rfl,rfl,trivial⟩ (Nat.le_of_ble_eq_true (by kernel_rfl)) fun a w hA => ?_
 rw[hnt]at hA;rw[RF];refine wp_seq (aB aI (hT _ _) (hG _ _) (Iv n) trivial hA fun a w hA => ?_);refine wp_seq (aB aI (hT _ _) (hG _ _) (Iu n) ⟨dD (i:=n) (n:=0) (Nat.zero_le _),trivial⟩ hA fun a w hA => ?_);refine wp_seq (wp_seq (bI (l:=List.range' 0 ((aD yC).extract 0 2).size++(2::(List.range' 3 ((aD yC).extract 3 8).size++[]))) (by kernel_rfl) ?_));refine aG (c:=tC T0 _) (hT _ _ 0) (hG _ _) (Jb n) trivial (by kernel_rfl) hA fun a1 w1 hA => ?_
 obtain⟨o2,ho2,hop2,hd2,hg2⟩:∃x,(aD yC)[2]?=some x∧x.op=.call ⟨.builtin .cap,#[.tmp 9],#[25]⟩∧x.dst=some 10∧x.guard=none:=⟨_,rfl,rfl,rfl,rfl⟩
 refine aZ ho2 hg2 (bZ (wJ hop2 (hA.slot (s:=9) (by simp))) ?_);rw[hd2];have hb1:=hA.below;have hS:=aP (nt:=27) (w:=w1) (a:=a1.put (some 10) (iI 0)) (ts:=[(10,iI 0),(8,iI n),(0,cN)]) hA.defers (by rw[aF]; exact hA.size) (fun x hx=>by
  simp only[List.mem_cons,List.not_mem_nil,or_false]at hx
  rcases hx with rfl|rfl|rfl
  ·exact aT _ _ _ (by rw[hA.size]; decide)
  ·exact aS (hA.slot (by simp)) (by simp)
  ·exact aS (hA.slot (by simp)) (by simp))
 clear hA;refine aG (c:=tC T0 _) (hT _ _ 0) (hG _ _) (Ja n) ⟨mL (i:=0) (k:=0) (Nat.le_refl _) (by decide),mL (i:=n) (k:=0) (Nat.zero_le _) (by omega),trivial⟩ (by kernel_rfl) hS fun a2 w2 hA => ?_
 show (Code.seq _ _).wp _ _ _ _;refine wp_seq (aB aI (hT _ _) (hG _ _) (Tn n) ⟨Nz h0,trivial⟩ hA fun a3 w3 hA => ?_);have hc:=hA.imV (s:=16) (v:=.bool true) (by simp);refine wp_cond_true hc ?_;have hb3:=hb1.trans (hA.below.mono hb1.size);have hS3:=aP (nt:=27) (w:=w3) (a:=a3) (ts:=[(0,cN),(1,iI n)]) hA.defers hA.size (fun x hx=>by
  simp only[List.mem_cons,List.not_mem_nil,or_false]at hx
  rcases hx with rfl|rfl<;>exact hA.slot (by simp))
 clear hA hS;refine bI (l:=List.range' 0 ((aD qS).extract 0 2).size++(2::(List.range' 3 ((aD qS).extract 3 5).size++(5::(List.range' 6 ((aD qS).extract 6 10).size++[]))))) (by kernel_rfl) ?_;refine aG (c:=tC T0 _) (hT _ _ 0) (hG _ _) (Iz n) trivial (by kernel_rfl) hS3 fun a4 w4 hA => ?_
 obtain⟨o5,ho5,hop5,hd5,hg5⟩:∃x,(aD qS)[2]?=some x∧x.op=.call ⟨.builtin .cap,#[.tmp 18],#[25]⟩∧x.dst=some 19∧x.guard=none:=⟨_,rfl,rfl,rfl,rfl⟩
 refine aZ ho5 hg5 (bZ (wJ hop5 (hA.slot (s:=18) (by simp))) ?_);rw[hd5];have hb4:=hb3.trans (hA.below.mono hb3.size);have hS4:=aP (nt:=27) (w:=w4) (a:=a4.put (some 19) (iI 0)) (ts:=[(19,iI 0),(17,cN),(0,cN),(1,iI n)]) hA.defers (by rw[aF]; exact hA.size) (fun x hx=>by
  simp only[List.mem_cons,List.not_mem_nil,or_false]at hx
  rcases hx with rfl|rfl|rfl|rfl
  ·exact aT _ _ _ (by rw[hA.size]; decide)
  ·exact aS (hA.slot (by simp)) (by simp)
  ·exact aS (hA.slot (by simp)) (by simp)
  ·exact aS (hA.slot (by simp)) (by simp))
 clear hA hS3;refine aG (c:=tC T0 _) (hT _ _ 0) (hG _ _) (Iy n) ⟨Nat.le_refl _,trivial⟩ (by kernel_rfl) hS4 fun a5 w5 hA => ?_
 obtain⟨o6,ho6,hop6,hd6,hg6⟩:∃x,(aD qS)[5]?=some x∧x.op=.call ⟨.builtin .append,#[.tmp 20,.tmp 21],#[25,3]⟩∧x.dst=some 22∧x.guard=none:=⟨_,rfl,rfl,rfl,rfl⟩
 obtain⟨C,w6,hr,hnC,hap,hb6⟩:=TA w5 h0 hn o6.type;have hrun:(execOp a5.eval o6).run prog w5=.ok (.value (aK w5.heap.size 0 n C)) w6:=by
  have h20:=cL (hA.slot (s:=20) (v:=cN) (by simp));have h21:=cL (hA.slot (s:=21) (v:=iI n) (by simp));unfold execOp;simp only[hop6,resolve,invoke,builtin,Sem.run_bind,Sem.run_pure,Result.andThen_ok,List.map_toArray,List.map_cons,List.map_nil,h20,h21,cN,hr]
 refine aZ ho6 hg6 (bZ hrun ?_);rw[hd6];have hb5:=hb4.trans (hA.below.mono hb4.size);generalize hbl:w5.heap.size=bl at *;have hbl0:w0.heap.size≤bl:=by rw[←hbl]; exact hb5.size
 have hb16:Below w0.heap.size w0 w6:=hb5.trans (hb6.mono hbl0);have hS6:=aP (nt:=27) (w:=w6) (a:=a5.put (some 22) (aK bl 0 n C)) (ts:=[(22,aK bl 0 n C),(0,cN)]) hA.defers (by rw[aF]; exact hA.size) (fun x hx=>by
  simp only[List.mem_cons,List.not_mem_nil,or_false]at hx
  rcases hx with rfl|rfl
  ·exact aT _ _ _ (by rw[hA.size]; decide)
  ·exact aS (hA.slot (by simp)) (by simp))
 clear hA hS4;refine aG (c:=tC T0 _) (hT _ _ 0) (hG _ _) (Ix bl n C) ⟨Nat.zero_le _,trivial⟩ (by kernel_rfl) hS6 fun a7 w7 hA => ?_
 show (cB (cB (cB fV))).wp _ _ _ _;refine aB aI (hT _ _) (hG _ _) (Tm _) trivial hA fun a8 w8 hA => ?_
 exact cK (l:=[.im (aK bl 0 0 C)]) (r:=.one (.im (aK bl 0 0 C))) (by kernel_rfl) (by kernel_rfl) hA ⟨bl,C,rfl,hnC,hap.shape hA.shape,hbl0,hb16.trans (hA.below.mono hb16.size)⟩
end Go.Proofs.YtpjlhhpjpnacmaaGreatDoor.Ex
