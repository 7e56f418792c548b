/- Et16 -/
import Derived.ArgAppend
import Derived.LoopTactic
import Derived.Laws.IdiomCopy
import Derived.Test.YtpjlhhpjpnacmaaGreatDoorEt15
import Derived.Test.YtpjlhhpjpnacmaaGreatDoorProg
set_option maxRecDepth 100000
set_option linter.unusedVariables false
set_option linter.unusedSimpArgs false
set_option linter.unnecessarySimpa false
noncomputable section
namespace Go.Proofs.YtpjlhhpjpnacmaaGreatDoor.Ex
open Go.Proofs.Tryz
open Go.RowKit
theorem mJ {P:Program} {t:Nat} {l:List At} (h:ES P t=some l) (a:Act) {o:Oper} (ho:o.op=.alloc t) (w:World):(execOp a.eval o).run P w=.ok (.value (.pointer (some ⟨w.heap.size,0,none⟩))) (w.alloc (.cells (aA l).toArray t)):=by
 unfold ES at h;split at h
 ·rename_i i hi;split at h
  ·rename_i z hz;cases h;simp[execOp,ho,Instr.alloc,zeroValue,typeInfo,hi,hz,newVar,newRow,CU]
  ·cases h
 ·cases h
theorem wZ (w:World) (l:List At) (t:Nat):Own (w.alloc (.cells (aA l).toArray t)) w.heap.size l∧Below w.heap.size w (w.alloc (.cells (aA l).toArray t)):=by
 have hB:Below w.heap.size w (w.alloc (.cells (aA l).toArray t)):=(Below.refl _ w).alloc (Nat.le_refl _) _;have h0:(w.alloc (.cells (aA l).toArray t)).heap[w.heap.size]?=some (.cells (aA l).toArray t):=World.alloc_heap_new _ _;refine⟨⟨by rw[World.size_alloc]; exact Nat.lt_succ_self _,fun q v hq => ?_,fun q => ?_⟩,hB⟩
 ·rw[cell_of_row _ _ (0+q) _ t (0,0) h0,Nat.zero_add];simpa using hq
 ·unfold World.frozen?;simp only[h0];simp
theorem Iw:(prog.info? 24).map (·.size)=some 4:=by kernel_rfl
theorem aIB:∃d,prog.underlying 24=some d∧d.isRow=true:=⟨_,underlying24,rfl⟩
theorem Ht:ES prog 24=some zC:=by kernel_rfl
section
variable {ops:Array Oper} {o:Oper} {a:Act} {s:Nat} {S:World→Prop}
theorem Uh {b:Nat} (hop:o.op=.slice 113 (.tmp s) none (some (.const (iI 4))) none) (hg:o.guard=none) (h:a.tmps[s]?=some (ptV b 0)):YieldsIf prog ops S o (.slice (some ⟨b,0,none⟩) 4 8) a :=
 Or.inl ⟨by simp[Region.wanted,hg],fun wx hw=>by
  have hs:dD prog 22=some 1:=by kernel_rfl
  have h':a.tmps[s]?=some (.pointer (some ⟨b,0,none⟩)):=h;simp[execOp,hop,iI,Instr.sliceAt,Instr.sureAddr,run_underlying underlying113,Instr.sliceBounds,Instr.sliceBound,asIntOf,bH hs,Addr.add_mid,Act.eval,h']⟩
theorem Ui {b:Nat} (hop:o.op=.slice 113 (.tmp s) (some (.const (iI 4))) none none) (hg:o.guard=none) (h:a.tmps[s]?=some (ptV b 0)):YieldsIf prog ops S o (.slice (some ⟨b,4,none⟩) 4 4) a :=
 Or.inl ⟨by simp[Region.wanted,hg],fun wx hw=>by
  have hs:dD prog 22=some 1:=by kernel_rfl
  have h':a.tmps[s]?=some (.pointer (some ⟨b,0,none⟩)):=h;simp[execOp,hop,iI,Instr.sliceAt,Instr.sureAddr,run_underlying underlying113,Instr.sliceBounds,Instr.sliceBound,asIntOf,bH hs,Addr.add_mid,Act.eval,h']⟩
theorem XI {b of c:Nat} (hop:o.op=.sliceToArrayPointer 24 (.tmp s)) (hg:o.guard=none) (h:a.tmps[s]?=some (.slice (some ⟨b,of,none⟩) 4 c)):YieldsIf prog ops S o (ptV b of) a :=
 Or.inl ⟨by simp[Region.wanted,hg],fun wx hw=>by simp[execOp,hop,cR h,ptV,FV]⟩
end
def kP:Code:=(f64.body).getD .skip
def KT:Code:=cA (cB kP)
def re3:Code:=cA (cB (cB (cB kP)))
theorem Ko:kP=.seq (cA kP) (.seq (.region 1 (aE KT) true) (.seq (cA (cB (cB kP))) (.seq (.region 3 (aE re3) false) .ret))):=by kernel_rfl
theorem aCX:f64.ntmps=21:=by kernel_rfl
theorem Sf {K:Act→World→Prop} {S:World→Prop} {got:Array Bool} {a:Act} {w:World} {p q lo hi:Nat} (hr8:Region.ready .any (aE KT) got=[8]) (hr9:Region.ready .any (aE KT) (got.setIfInBounds 8 true)=[9]) (hrE:Region.ready .any (aE KT) ((got.setIfInBounds 8 true).setIfInBounds 9 true)=[])
  (h3:a.tmps[3]?=some (ptV p 0)) (h4:a.tmps[4]?=some (ptV q 0)) (h9:a.tmps[9]?=some (.agg (aA [At.q lo]).toArray)) (h12:a.tmps[12]?=some (.agg (aA [At.q hi]).toArray)) (hp:Own w p zC) (hq:Own w q zC) (hne:p≠q)
  (hS:∀w':World,WrC w w' p→S w')
  (hK:∀w':World,Own w' p [.q lo]→Own w' q [.q hi]→Below (min p q) w w'→K a w'):dQ prog .any (aE KT) (iF K) S 9 2 got a w:=by
 obtain⟨o8,ho8,hop8,hd8,hg8⟩:∃x,(aE KT)[8]?=some x∧x.op=.store 24 (.tmp 3) (.tmp 9)∧x.dst=none∧x.guard=none:=⟨_,rfl,rfl,rfl,rfl⟩
 obtain⟨o9,ho9,hop9,hd9,hg9⟩:∃x,(aE KT)[9]?=some x∧x.op=.store 24 (.tmp 4) (.tmp 12)∧x.dst=none∧x.guard=none:=⟨_,rfl,rfl,rfl,rfl⟩
 refine aF hr8 ho8 fun K8 hK8 => ?_
 rw[if_pos (by simp[Region.wanted,hg8])];obtain⟨hp2,hW⟩:=hp.set (o:=0) (p:=[.q lo]) (l':=[.q lo]) rfl;refine fL (vs:=aA [.q lo]) hop8 hd8 (cR h3) (cR h9) rfl (qE _) Iw (hp.there (o:=0) (n:=4) (Nat.le_of_ble_eq_true rfl)) ?_;have hq2:=hq.wr hW (Ne.symm hne);have hS2:=hS _ hW;generalize w.setCells p 0 (aA [.q lo])=w2 at *;refine hK8.out _ _ (Or.inr hS2) fun _ => ?_
 clear hK8;refine aF hr9 ho9 fun K9 hK9 => ?_
 rw[if_pos (by simp[Region.wanted,hg9])];obtain⟨hq3,hW3⟩:=hq2.set (o:=0) (p:=[.q hi]) (l':=[.q hi]) rfl;refine fL (vs:=aA [.q hi]) hop9 hd9 (cR h4) (cR h12) rfl (qE _) Iw (hq2.there (o:=0) (n:=4) (Nat.le_of_ble_eq_true rfl)) ?_;have hp3:=hp2.wr hW3 hne;refine hK9.out _ _ (Or.inl rfl) fun _ => ?_
 exact bR hrE ⟨rfl,hK _ hp3 hq3 ((hW.below.mono (Nat.min_le_left _ _)).trans (hW3.below.mono (Nat.min_le_right _ _)))⟩
theorem Wh {w:World} {a:Act} {pb rb lo hi:Nat} {Q:Exit→Act→World→Prop} (hm:oldOf w pb 0 [.q lo,.q hi]) (h1:a.tmps[1]?=some (ptV pb 0)) (h2:a.tmps[2]?=some (ptV rb 0)) (hdf:a.defers=[]) (hsz:a.tmps.size=21)
  (hQ:∀a' w' p q,a'.defers=[]→a'.tmps.size=21→a'.tmps[2]?=some (ptV rb 0)→a'.tmps[3]?=some (ptV p 0)→a'.tmps[4]?=some (ptV q 0)→Own w' p [.q lo]→Own w' q [.q hi]→Below w.heap.size w w'→Q .normal a' w'):(Code.region 1 (aE KT) true).wp prog Q a w:=by
 have hd:Below w.heap.size w w.drew:=(Below.refl _ w).drew;obtain⟨dW,huW,hdW⟩:=aIB;refine Code.wp_mono (Q:=iF fun a' w'=>∃p q,a'.defers=[]∧a'.tmps.size=21∧a'.tmps[2]?=some (ptV rb 0)∧a'.tmps[3]?=some (ptV p 0)∧a'.tmps[4]?=some (ptV q 0)∧Own w' p [.q lo]∧Own w' q [.q hi]∧Below w.heap.size w w') (fun e a3 w3 h => ?_) (cG (fun wx=>wx.rangeAt pb 0 (aA [.q lo,.q hi])) 9 aI ?_)
 ·obtain⟨rfl,p,q,e1,e2,e3,e4,e5,e6,e7,e8⟩:=h;exact hQ _ _ _ _ e1 e2 e3 e4 e5 e6 e7 e8
 have hS:w.drew.rangeAt pb 0 (aA [.q lo,.q hi]):=(hm.on hd).2;have S0:∀wx:World,wx.rangeAt pb 0 (aA [.q lo,.q hi])→wx.rangeAt pb 0 (aA [At.q lo]):=fun wx h j v hj=>h j v (by
  have e:aA [At.q lo,.q hi]=aA [At.q lo]++aA [.q hi]:=by rw[←aP]; rfl
  rw[e];have hl:j<(aA [At.q lo]).length:=by
   rcases Nat.lt_or_ge j (aA [At.q lo]).length with h|h
   ·exact h
   ·rw[List.getElem?_eq_none h]at hj; cases hj
  rw[List.getElem?_append_left hl];exact hj)
 have S4:∀wx:World,wx.rangeAt pb 0 (aA [.q lo,.q hi])→wx.rangeAt pb 4 (aA [At.q hi]):=fun wx h j v hj=>by
  have e:aA [At.q lo,.q hi]=aA [At.q lo]++aA [.q hi]:=by rw[←aP]; rfl
  have:=h (4+j) v (by
   rw[e,List.getElem?_append_right (show (aA [At.q lo]).length≤4+j from Nat.le_add_right 4 j)];have:4+j-(aA [At.q lo]).length=j:=Nat.add_sub_cancel_left 4 j;rw[this];exact hj)
  rwa [Nat.zero_add]at this
 obtain⟨o0,ho0,hop0,hd0,hg0⟩:∃x,(aE KT)[0]?=some x∧x.op=.slice 113 (.tmp 1) none (some (.const (iI 4))) none∧x.dst=some 7∧x.guard=none:=⟨_,rfl,rfl,rfl,rfl⟩
 refine aD (i:=0) (v:=.slice (some ⟨pb,0,none⟩) 4 8) ho0 (by kernel_rfl) (by kernel_rfl) (by kernel_rfl) (by kernel_rfl) (fun _ _ _ h=>iM h) hS (Uh hop0 hg0 h1) ?_;rw[hd0];obtain⟨o1,ho1,hop1,hd1,hg1⟩:∃x,(aE KT)[1]?=some x∧x.op=.sliceToArrayPointer 24 (.tmp 7)∧x.dst=some 8∧x.guard=none:=⟨_,rfl,rfl,rfl,rfl⟩
 refine aD (i:=1) (v:=ptV pb 0) ho1 (by kernel_rfl) (by kernel_rfl) (by kernel_rfl) (by kernel_rfl) (fun _ _ _ h=>iM h) hS (XI hop1 hg1 (aT _ _ _ (by rw[hsz]; decide))) ?_;rw[hd1];obtain⟨o2,ho2,hop2,hd2,hg2⟩:∃x,(aE KT)[2]?=some x∧x.op=.load 24 (.tmp 8)∧x.dst=some 9∧x.guard=none:=⟨_,rfl,rfl,rfl,rfl⟩
 refine aD (i:=2) (v:=.agg (aA [At.q lo]).toArray) ho2 (by kernel_rfl) (by kernel_rfl) (by kernel_rfl) (by kernel_rfl) (fun _ _ _ h=>iM h) hS (rE hop2 hg2 (aT _ _ _ (by simp only[aH,hsz]; decide)) huW hdW Iw S0) ?_;rw[hd2];have k1:(((a.put (some 7) (.slice (some ⟨pb,0,none⟩) 4 8)).put (some 8) (ptV pb 0)).put (some 9) (.agg (aA [At.q lo]).toArray)).tmps[1]?=some (ptV pb 0):=aQ (aQ (aQ h1 (by decide)) (by decide)) (by decide);have k2:(((a.put (some 7) (.slice (some ⟨pb,0,none⟩) 4 8)).put (some 8) (ptV pb 0)).put (some 9) (.agg (aA [At.q lo]).toArray)).tmps[2]?=some (ptV rb 0):=aQ (aQ (aQ h2 (by decide)) (by decide)) (by decide);have k9:(((a.put (some 7) (.slice (some ⟨pb,0,none⟩) 4 8)).put (some 8) (ptV pb 0)).put (some 9) (.agg (aA [At.q lo]).toArray)).tmps[9]?=some (.agg (aA [At.q lo]).toArray):=aT _ _ _ (by simp only[aH,hsz]; decide);have kz:(((a.put (some 7) (.slice (some ⟨pb,0,none⟩) 4 8)).put (some 8) (ptV pb 0)).put (some 9) (.agg (aA [At.q lo]).toArray)).tmps.size=21:=by simp only[aH,hsz]
 have kd:(((a.put (some 7) (.slice (some ⟨pb,0,none⟩) 4 8)).put (some 8) (ptV pb 0)).put (some 9) (.agg (aA [At.q lo]).toArray)).defers=[]:=hdf;generalize ((a.put (some 7) (.slice (some ⟨pb,0,none⟩) 4 8)).put (some 8) (ptV pb 0)).put (some 9) (.agg (aA [At.q lo]).toArray)=a at *;obtain⟨o3,ho3,hop3,hd3,hg3⟩:∃x,(aE KT)[3]?=some x∧x.op=.slice 113 (.tmp 1) (some (.const (iI 4))) none none∧x.dst=some 10∧x.guard=none:=⟨_,rfl,rfl,rfl,rfl⟩
 refine aD (i:=3) (v:=.slice (some ⟨pb,4,none⟩) 4 4) ho3 (by kernel_rfl) (by kernel_rfl) (by kernel_rfl) (by kernel_rfl) (fun _ _ _ h=>iM h) hS (Ui hop3 hg3 k1) ?_;rw[hd3];obtain⟨o4,ho4,hop4,hd4,hg4⟩:∃x,(aE KT)[4]?=some x∧x.op=.sliceToArrayPointer 24 (.tmp 10)∧x.dst=some 11∧x.guard=none:=⟨_,rfl,rfl,rfl,rfl⟩
 refine aD (i:=4) (v:=ptV pb 4) ho4 (by kernel_rfl) (by kernel_rfl) (by kernel_rfl) (by kernel_rfl) (fun _ _ _ h=>iM h) hS (XI hop4 hg4 (aT _ _ _ (by rw[kz]; decide))) ?_;rw[hd4];obtain⟨o5,ho5,hop5,hd5,hg5⟩:∃x,(aE KT)[5]?=some x∧x.op=.load 24 (.tmp 11)∧x.dst=some 12∧x.guard=none:=⟨_,rfl,rfl,rfl,rfl⟩
 refine aD (i:=5) (v:=.agg (aA [At.q hi]).toArray) ho5 (by kernel_rfl) (by kernel_rfl) (by kernel_rfl) (by kernel_rfl) (fun _ _ _ h=>iM h) hS (rE hop5 hg5 (aT _ _ _ (by simp only[aH,kz]; decide)) huW hdW Iw S4) ?_;rw[hd5];have m2:(((a.put (some 10) (.slice (some ⟨pb,4,none⟩) 4 4)).put (some 11) (ptV pb 4)).put (some 12) (.agg (aA [At.q hi]).toArray)).tmps[2]?=some (ptV rb 0):=aQ (aQ (aQ k2 (by decide)) (by decide)) (by decide);have m9:(((a.put (some 10) (.slice (some ⟨pb,4,none⟩) 4 4)).put (some 11) (ptV pb 4)).put (some 12) (.agg (aA [At.q hi]).toArray)).tmps[9]?=some (.agg (aA [At.q lo]).toArray):=aQ (aQ (aQ k9 (by decide)) (by decide)) (by decide);have Ss:(((a.put (some 10) (.slice (some ⟨pb,4,none⟩) 4 4)).put (some 11) (ptV pb 4)).put (some 12) (.agg (aA [At.q hi]).toArray)).tmps[12]?=some (.agg (aA [At.q hi]).toArray):=aT _ _ _ (by simp only[aH,kz]; decide);have mz:(((a.put (some 10) (.slice (some ⟨pb,4,none⟩) 4 4)).put (some 11) (ptV pb 4)).put (some 12) (.agg (aA [At.q hi]).toArray)).tmps.size=21:=by simp only[aH,kz]
 have md:(((a.put (some 10) (.slice (some ⟨pb,4,none⟩) 4 4)).put (some 11) (ptV pb 4)).put (some 12) (.agg (aA [At.q hi]).toArray)).defers=[]:=kd;generalize ((a.put (some 10) (.slice (some ⟨pb,4,none⟩) 4 4)).put (some 11) (ptV pb 4)).put (some 12) (.agg (aA [At.q hi]).toArray)=b at *;obtain⟨o6,ho6,hop6,hd6,hg6⟩:∃x,(aE KT)[6]?=some x∧x.op=.alloc 24∧x.dst=some 3∧x.guard=none:=⟨_,rfl,rfl,rfl,rfl⟩
 obtain⟨o7,ho7,hop7,hd7,hg7⟩:∃x,(aE KT)[7]?=some x∧x.op=.alloc 24∧x.dst=some 4∧x.guard=none:=⟨_,rfl,rfl,rfl,rfl⟩
 have hmd:=hm.on hd;obtain⟨hO,hB⟩:=wZ w.drew zC 24;obtain⟨hO2,hB2⟩:=wZ (w.drew.alloc (.cells (aA zC).toArray 24)) zC 24;have hsz1:(w.drew.alloc (.cells (aA zC).toArray 24)).heap.size=w.drew.heap.size+1:=World.size_alloc _ _;have hm1:=hmd.on hB;have hm2:=hm1.on hB2;have hO1:=hO.on hB2;have hge:w.heap.size≤w.drew.heap.size:=hd.size;have hlt:=hm.1;have hB12:Below w.heap.size w ((w.drew.alloc (.cells (aA zC).toArray 24)).alloc (.cells (aA zC).toArray 24)):=(hd.trans (hB.mono hge)).trans (hB2.mono (by omega));refine fD (i:=6) (j:=7) (by kernel_rfl) ho6 ho7 (fun K hK => ?_) (fun K hK => ?_)
 ·rw[if_pos (by simp[Region.wanted,hg6])];refine cD (mJ Ht _ hop6 w.drew) ?_;rw[hd6];refine hK.out _ _ (Or.inr hm1.2) fun _ => ?_
  clear hK;refine aF (i:=7) (by kernel_rfl) ho7 fun K7 hK7 => ?_
  rw[if_pos (by simp[Region.wanted,hg7])];refine cD (mJ Ht _ hop7 _) ?_;rw[hd7];refine hK7.out _ _ (Or.inr hm2.2) fun _ => ?_
  clear hK7;refine Sf (by kernel_rfl) (by kernel_rfl) (by kernel_rfl) (aQ (aT _ _ _ (by rw[mz]; decide)) (by decide)) (aT _ _ _ (by simp only[aH,mz]; decide)) (aQ (aQ m9 (by decide)) (by decide)) (aQ (aQ Ss (by decide)) (by decide)) hO1 hO2 (by omega) (fun w' hW=>(hm2.wr hW (by omega)).2) fun w' e1 e2 e3=>⟨_,_,md,by simp only[aH,mz],aQ (aQ m2 (by decide)) (by decide),aQ (aT _ _ _ (by rw[mz]; decide)) (by decide),aT _ _ _ (by simp only[aH,mz]; decide),e1,e2,hB12.trans (e3.mono (by omega))⟩
 ·rw[if_pos (by simp[Region.wanted,hg7])];refine cD (mJ Ht _ hop7 w.drew) ?_;rw[hd7];refine hK.out _ _ (Or.inr hm1.2) fun _ => ?_
  clear hK;refine aF (i:=6) (by kernel_rfl) ho6 fun K6 hK6 => ?_
  rw[if_pos (by simp[Region.wanted,hg6])];refine cD (mJ Ht _ hop6 _) ?_;rw[hd6];refine hK6.out _ _ (Or.inr hm2.2) fun _ => ?_
  clear hK6;refine Sf (by kernel_rfl) (by kernel_rfl) (by kernel_rfl) (aT _ _ _ (by simp only[aH,mz]; decide)) (aQ (aT _ _ _ (by rw[mz]; decide)) (by decide)) (aQ (aQ m9 (by decide)) (by decide)) (aQ (aQ Ss (by decide)) (by decide)) hO2 hO1 (by omega) (fun w' hW=>(hm2.wr hW (by omega)).2) fun w' e1 e2 e3=>⟨_,_,md,by simp only[aH,mz],aQ (aQ m2 (by decide)) (by decide),aT _ _ _ (by simp only[aH,mz]; decide),aQ (aT _ _ _ (by rw[mz]; decide)) (by decide),e1,e2,hB12.trans (e3.mono (by omega))⟩
def Zg (h l m r:Nat):gE
 | [.v (.fl a),.v (.fl b),.v (.fl c)]=>some ([aA a=aA [At.q h],aA b=aA [At.q l],aA c=aA [At.q m]],.many [.fl [.q r],.im (.int .i64 0)])
 | _=>none
theorem Nv {h l m:Nat} (hh:h<aG) (hl:l<aG) (hm:m<aG) (h0:0<m):∀cs pre r,Zg h l m ((h*aG+l)%m) cs=some (pre,r)→bC pre→∀(args:List Value) (w:World),cP w cs args→bG prog 95 r args w:=by
 intro cs pre r hg hp args w ha;unfold Zg at hg;split at hg
 ·rename_i a b c;cases hg;obtain⟨p1,p2,p3,_⟩:=hp
  match args,ha with
  | [x,y,z],ha =>
   have e1:x=.agg (aA a).toArray:=ha.1;have e2:y=.agg (aA b).toArray:=ha.2.1;have e3:z=.agg (aA c).toArray:=ha.2.2.1;subst e1; subst e2; subst e3;rw[p1,p2,p3];have:=UE (fw h 0) (fw h 1) (fw h 2) (fw h 3) (fw l 0) (fw l 1) (fw l 2) (fw l 3) (fw m 0) (fw m 1) (fw m 2) (fw m 3) (eN h) (eN l) (eN m) w;rw[fG hh,fG hl,fG hm]at this;refine this.mono fun e w' ⟨s0,s1,s2,s3,c,he,hs,hv,hb⟩ => ?_
   rcases hv with⟨hz,_⟩|⟨_,hv,hc⟩
   ·omega
   ·obtain⟨q0,q1,q2,q3⟩:=gY hs (Nat.lt_trans (Nat.mod_lt _ h0) hm) hv;subst q0; subst q1; subst q2; subst q3; subst hc;exact⟨he,hb⟩
  | [],ha=>exact ha.elim
  | [_],ha=>exact ha.2.elim
  | [_,_],ha=>exact ha.2.2.elim
  | _::_::_::_::_,ha=>exact ha.2.2.2.elim
 ·cases hg
def aHw (h l r:Nat):Tab:=(T0.add 72 (g0 (.one (.fl [.q lJ])))).add 95 (Zg h l lJ r)
theorem DB:0<lJ:=by decide
theorem aDA {h l:Nat} (hh:h<aG) (hl:l<aG):TabOk prog (aHw h l ((h*aG+l)%lJ)):=((bP _).add func72 (by kernel_rfl) (by kernel_rfl) (uU qI)).add func95 (by kernel_rfl) (by kernel_rfl) (Nv hh hl NE DB)
theorem aIS (lo hi:Nat):aX prog (qG prog) 21 (fun _=>tC T0 fun _=>none) 60 (cA kP) (fJ 0 [.v (.fl [.q lo,.q hi])]) [.slot 1 (.pt 1 0),.row 1 true [.q lo,.q hi],.slot 2 (.pt 2 0),.row 2 true zC]=some ([],.nrm,[.slot 1 (.pt 1 0),.row 1 true [.q lo,.q hi],.slot 2 (.pt 2 0),.row 2 true zC]):=by kernel_rfl
theorem aIR (w:World) (lo hi b3 b4 r rb:Nat):aX prog { qG prog with x:=xO w (fun _=>none) (assoc [(14,[.q hi]),(15,[.q lo])]) (fun _=>none) } 21 (fun _=>tC (aHw hi lo r) fun _=>none) 60 (cA (cB (cB kP))) [.slot 3 (.im (ptV b3 0)),.slot 4 (.im (ptV b4 0)),.slot 2 (.im (ptV rb 0))] [.slot 5 (.pt 5 0),.row 5 true [.q r],.slot 2 (.im (ptV rb 0))]=some ([oldOf w b4 0 [.q hi],dN [.q hi]=4,oldOf w b3 0 [.q lo],dN [.q lo]=4,aA [At.q hi]=aA [At.q hi],aA [At.q lo]=aA [At.q lo],aA [At.q lJ]=aA [At.q lJ]],.nrm,[.slot 5 (.pt 5 0),.row 5 true [.q r],.slot 2 (.im (ptV rb 0))]):=by kernel_rfl
theorem aIQ (r rb:Nat):cX prog (qG prog) 21 (tC T0 fun _=>none) ((aE re3).extract 0 1) [.slot 5 (.pt 5 0),.row 5 true [.q r],.slot 2 (.im (ptV rb 0))] [.slot 20 (.fl [.q r]),.slot 2 (.im (ptV rb 0))]=some ([],[.slot 20 (.fl [.q r]),.slot 2 (.im (ptV rb 0))]):=by kernel_rfl
theorem Vm:(prog.info? 72).map (·.size)=some 4:=by kernel_rfl
theorem ZM {lo hi:Nat} (hl:lo<aG) (hh:hi<aG) (w0:World):bG prog 64 (.one (.fl [.q ((hi*aG+lo)%lJ)])) [.agg (aA [.q lo,.q hi]).toArray] w0:=by
 have hG:∀base w,bQ prog (qG prog) base w:=fun _ _=>(aV _).w _ _
 have hT:∀base w,∀n d:Nat,TabOkW prog T0 base w:=fun _ _ _ _=>(bP _).w _ _
 have hok:=aDA hh hl;generalize (hi*aG+lo)%lJ=r at *;have hnt:f64.ntmps=21:=aCX;refine cM func64 (cs:=[.v (.fl [.q lo,.q hi])]) (args:=[.agg (aA [.q lo,.q hi]).toArray]) (c:=kP) rfl ⟨rfl,trivial⟩ (Nat.le_of_ble_eq_true (by kernel_rfl)) fun a w hA => ?_
 rw[hnt]at hA;rw[Ko];refine wp_seq (aB aI (hT _ _) (hG _ _) (aIS lo hi) trivial hA fun a w hA => ?_);obtain⟨b1,hA⟩:=hA.at (k:=1) (l:=[.q lo,.q hi]) (by simp);obtain⟨b2,hA⟩:=hA.at (k:=2) (l:=zC) (by simp);have m1:oldOf w b1 0 [.q lo,.q hi]:=hA.old (k:=1) (by simp) (by simp);have m2:Own w b2 zC:=hA.own (k:=2) (by simp) (by simp);have hB2:w0.heap.size≤b2:=hA.geq (k:=2) (l:=zC) (by simp) (by simp);have hbl:=hA.below;have t1:=hA.ptS (s:=1) (k:=1) (o:=0) (b:=b1) (by simp) (by simp);have t2:=hA.ptS (s:=2) (k:=2) (o:=0) (b:=b2) (by simp) (by simp);have hdf:=hA.defers;have hsz:=hA.size;clear hA;refine wp_seq (Wh m1 t1 t2 hdf hsz fun a w1 p q d1 d2 d3 d4 d5 d6 d7 hB => ?_);have hS:=aU (nt:=21) (w:=w1) (a:=a) (ts:=[(3,ptV p 0),(4,ptV q 0),(2,ptV b2 0)]) d1 d2 (fun x hx=>by
  simp only[List.mem_cons,List.not_mem_nil,or_false]at hx
  rcases hx with rfl|rfl|rfl
  ·exact d4
  ·exact d5
  ·exact d3)
 refine wp_seq (aB aI (fun _ _=>hok.w _ _) (dS w1 _ _ _) (aIR w1 lo hi p q r b2) ⟨⟨d7.lt,d7.row⟩,rfl,⟨d6.lt,d6.row⟩,rfl,rfl,rfl,rfl,trivial⟩ hS fun a w2 hA => ?_);refine wp_seq (bK (l:=List.range' 0 ((aE re3).extract 0 1).size++(1::[])) (by kernel_rfl) ?_);refine aJ (c:=tC T0 _) (hT _ _ 0) (hG _ _) (aIQ r b2) trivial (by kernel_rfl) hA fun a3 w3 hA => ?_
 obtain⟨o1,ho1,hop1,hd1,hg1⟩:∃x,(aE re3)[1]?=some x∧x.op=.store 72 (.tmp 2) (.tmp 20)∧x.dst=none∧x.guard=none:=⟨_,rfl,rfl,rfl,rfl⟩
 have hb3:=hA.below;have m3:=(m2.on hB).on hb3;obtain⟨hR,hW⟩:=m3.set (o:=0) (p:=[.q r]) (l':=[.q r]) rfl;refine bE ho1 hg1 (fL (vs:=aA [.q r]) hop1 hd1 (cR (hA.slot (s:=2) (v:=ptV b2 0) (by simp))) (cR (hA.slotF (s:=20) (by simp))) rfl (qE _) Vm (m3.there (o:=0) (n:=4) (Nat.le_of_ble_eq_true rfl)) ?_);have hH:=hR.holds (k:=2) (nt:=21) (a:=a3) (ts:=[]) hA.defers hA.size rfl (hA.slot (s:=2) (v:=ptV b2 0) (by simp)) (fun x hx=>by cases hx);exact wp_ret (cN (l:=[.fl [.q r]]) (r:=.one (.fl [.q r])) (by kernel_rfl) (by kernel_rfl) hH ⟨rfl,((hbl.trans (hB.mono hbl.size)).trans (hb3.mono (Nat.le_trans hbl.size hB.size))).trans (hW.below.mono hB2)⟩)
def Nl (lo hi r:Nat):gE
 | [.v (.fl a)]=>some ([aA a=aA [At.q lo,.q hi]],.one (.fl [.q r]))
 | _=>none
theorem RR {lo hi:Nat} (hl:lo<aG) (hh:hi<aG):∀cs pre r,Nl lo hi ((hi*aG+lo)%lJ) cs=some (pre,r)→bC pre→∀(args:List Value) (w:World),cP w cs args→bG prog 64 r args w:=by
 intro cs pre r hg hp args w ha;unfold Nl at hg;split at hg
 ·rename_i a;cases hg
  match args,ha with
  | [x],ha =>
   have e1:x=.agg (aA a).toArray:=ha.1;subst e1;rw[hp.1];exact ZM hl hh w
  | [],ha=>exact ha.elim
  | _::_::_,ha=>exact ha.2.elim
 ·cases hg
theorem Wd (n r:Nat):cH prog (qG prog) (fun _=>tC (T0.add 64 (Nl n 0 r)) fun _=>none) f91 60 [.v (.fl [.q n])]=some ([aA (nq [.c (.int .u64 (fw n 0)),.c (.int .u64 (fw n 1)),.c (.int .u64 (fw n 2)),.c (.int .u64 (fw n 3)),.c (.int .u64 0),.c (.int .u64 0),.c (.int .u64 0),.c (.int .u64 0)])=aA [At.q n,.q 0]],.one (.fl [.q r])):=by kernel_rfl
def gRo:gE:=g1 qZ fun n=>([n<aG],.one (.fl [.q (n%lJ)]))
theorem aKf:∀cs pre r,gRo cs=some (pre,r)→bC pre→∀(args:List Value) (w:World),cP w cs args→bG prog 91 r args w :=
 lY dP fun n h args w ha=>by
  have hz:(0:Nat)<aG:=by decide
  have ht:=RR h.1 hz;have e:(0*aG+n)%lJ=n%lJ:=by rw[Nat.zero_mul,Nat.zero_add]
  rw[e]at ht;exact aK aI (fun _ _=>(bP _).add func64 (by kernel_rfl) (by kernel_rfl) ht) (aV _) func91 (Wd n (n%lJ)) ⟨QX _,trivial⟩ ha
def WX (fa:Nat→Nat) (K:Nat) (fm:Nat→Nat) (N q:Nat):Nat:=if q<K then fa q else WW fm N (q-K)
def eaH (fa:Nat→Nat) (K:Nat) (fm:Nat→Nat) (N:Nat):Nat:=Mw (K+(1+(N+30)/31)) (WX fa K fm N)%lJ
theorem Ei (fa:Nat→Nat) (K:Nat) (fm:Nat→Nat) (N:Nat):eaH fa K fm N<lJ:=Nat.mod_lt _ DB
theorem KB (g:Nat→List At):∀n s m,cJ g s (n+m)=cJ g s n++cJ g (s+n) m
 | 0,s,m=>by rw[Nat.zero_add]; rfl
 | n+1,s,m=>by
  rw[Nat.succ_add];show g s++cJ g (s+1) (n+m)=(g s++cJ g (s+1) n)++cJ g (s+(n+1)) m;rw[KB g n (s+1) m,List.append_assoc,Nat.add_right_comm];rfl
theorem yK (f:Nat→Nat):∀m s k,cJ (el f) (k+s) m=cJ (el fun q=>f (k+q)) s m
 | 0,_,_=>rfl
 | m+1,s,k=>by
  show [At.q (f (k+s))]++cJ (el f) (k+s+1) m=[At.q (f (k+s))]++cJ (el fun q=>f (k+q)) (s+1) m;rw[←yK f m (s+1) k,Nat.add_assoc]
theorem aAg (fa:Nat→Nat) (K:Nat) (fm:Nat→Nat) (N M:Nat):aA (cJ (el fa) 0 K)++aA (cJ (el (WW fm N)) 0 M)=aA (cJ (el (WX fa K fm N)) 0 (K+M)):=by
 rw[KB,aP];congr 2
 ·exact fY K 0 fun j hj=>by unfold WX; rw[if_pos (by omega)]
 ·have:=yK (WX fa K fm N) M 0 K;rw[Nat.add_zero,←Nat.zero_add K]at this;rw[Nat.zero_add]at this ⊢;rw[this];refine fY M 0 fun j hj => ?_
  show WW fm N (0+j)=WX fa K fm N (K+(0+j));unfold WX;rw[if_neg (by omega),Nat.add_sub_cancel_left]
theorem aFg {f:Nat→Nat} (hf:∀j,f j<256) {N:Nat} (hN:N≤4096) (i:Nat):WW f N i<RM:=by
 unfold WW;split
 ·exact Nat.lt_of_le_of_lt hN (by decide)
 ·exact aJG (fun j=>hf _) (Nat.min_le_right _ _)
def kU:Code:=(f60.body).getD .skip
def DH:Code:=cA (cB kU)
def Mx:Code:=cA (cB (cB kU))
theorem Mv:kU=.seq (cA kU) (.seq (.region 1 (aE DH) false) (.seq (cA (cB (cB kU))) .ret)):=by kernel_rfl
theorem Cx:cA (cB (cB kU))=.region 2 (aE Mx) false:=by kernel_rfl
theorem aEu:f60.ntmps=18:=by kernel_rfl
theorem aJC (v u:Value):aX prog (qG prog) 18 (fun _=>tC T0 fun _=>none) 60 (cA kU) (fJ 0 [.v (.im v),.v (.im u)]) [.slot 0 (.im v),.slot 1 (.im u),.slot 4 (.pt 4 0),.row 4 true zC]=some ([],.nrm,[.slot 0 (.im v),.slot 1 (.im u),.slot 4 (.pt 4 0),.row 4 true zC]):=by kernel_rfl
theorem aEx (v u:Value) (rb:Nat):cX prog (qG prog) 18 (tC T0 fun _=>none) ((aE DH).extract 0 3) [.slot 0 (.im v),.slot 1 (.im u),.slot 4 (.im (ptV rb 0))] [.slot 8 (.fl (rR 3 8 57)),.slot 9 (.im u),.slot 10 (.im v),.slot 4 (.im (ptV rb 0))]=some ([],[.slot 8 (.fl (rR 3 8 57)),.slot 9 (.im u),.slot 10 (.im v),.slot 4 (.im (ptV rb 0))]):=by kernel_rfl
theorem aEw (rb D:Nat):cX prog (qG prog) 18 (tC T0 fun _=>none) ((aE DH).extract 6 12) [.slot 13 (.tu [.fl [.q D],.im (.int .i64 0)]),.slot 4 (.im (ptV rb 0))] [.slot 5 (.pt 5 0),.row 5 true [.q D],.slot 4 (.im (ptV rb 0))]=some ([],[.slot 5 (.pt 5 0),.row 5 true [.q D],.slot 4 (.im (ptV rb 0))]):=by kernel_rfl
theorem aEv (rb D r:Nat):cX prog (qG prog) 18 (tC (T0.add 91 gRo) fun _=>none) ((aE Mx).extract 0 2) [.slot 5 (.pt 5 0),.row 5 true [.q D],.slot 4 (.im (ptV rb 0))] [.slot 17 (.fl [.q (D%lJ)]),.slot 4 (.im (ptV rb 0))]=some ([D<aG],[.slot 17 (.fl [.q (D%lJ)]),.slot 4 (.im (ptV rb 0))]):=by kernel_rfl
theorem jO {nt:Nat} {w:World} {a:Act} {ts:List (Nat×AV)} (hd:a.defers=[]) (hs:a.tmps.size=nt) (ht:∀x∈ts,∀β,a.tmps[x.1]?=some (x.2.den β)):Holds nt w.heap.size w (ts.map fun x=>.slot x.1 x.2) a w:=by
 refine⟨hd,hs,Below.refl _ _,Nat.le_refl _,fun _=>(w.heap.size,0,0),fun φ hφ => ?_,fun k k' o' l l' h1 => ?_,fun k l h1 => ?_,Nat.le_refl _,fun p h1 h2=>⟨rfl,rfl⟩,Shape.refl _⟩
 ·obtain⟨x,hx,rfl⟩:=List.mem_map.1 hφ;exact ht x hx _
 ·obtain⟨x,_,e⟩:=List.mem_map.1 h1; cases e
 ·obtain⟨x,_,e⟩:=List.mem_map.1 h1; cases e
theorem Qs {w:World} {b o K c b1 n1 cap1:Nat} {fa g:Nat→Nat} (hr:w.rangeAt b o (aA (cJ (el fa) 0 K))) (hx:w.rangeAt b1 0 (aA (cJ (el g) 0 n1))) (hc:c<K+n1) (hn:K+n1≤4096) (ty:TypeId) :
  ∃b2 cap2 w',(Builtin.append_ #[56,56] ty #[aM b o K c,aM b1 0 n1 cap1]).run prog w=.ok (aM b2 0 (K+n1) cap2) w'∧K+n1≤cap2∧b2<w'.heap.size∧w'.rangeAt b2 0 (aA (cJ (el fa) 0 K)++aA (cJ (el g) 0 n1))∧Below w.heap.size w w':=by
 obtain⟨ht,i,z,hi,hz,hsize,hby,hzs,hsz⟩:=jG VC;have h0:∀j v,(aA (cJ (el fa) 0 K))[j]?=some v→w.cell? ((⟨b,o,none⟩:Addr).add j)=some v:=fun j v hj=>by rw[Addr.add_mid]; exact hr j v hj
 have h1:∀j v,(aA (cJ (el g) 0 n1))[j]?=some v→w.cell? ((⟨b1,0,none⟩:Addr).add j)=some v:=fun j v hj=>by rw[Addr.add_mid]; exact hx j v hj
 obtain⟨v',w',hrun,hown,hg⟩:=run_append_arg_grows (P:=prog) (w:=w) 56 ty 27 i z 4 32 ht hi hz hsize hby hzs (by decide) ⟨b,o,none⟩ K c _ (oK fa K 0) h0 ⟨b1,0,none⟩ n1 cap1 _ (oK g n1 0) h1 hc (by simp only[maxLen]; omega) (by omega);have hv:∃b cap,v'=.slice (some ⟨b,0,none⟩) (K+n1) cap:=by
  obtain⟨_,⟨rfl,h2⟩|⟨g,c',cur,rfl,_⟩⟩:=hown
  ·omega
  ·exact⟨g,c',rfl⟩
 obtain⟨b2,cap2,rfl⟩:=hv;obtain⟨⟨_,_,a1,_,_⟩,a2,a3,a4,a5⟩:=sH hown;exact⟨b2,cap2,w',hrun,a1,a3,a4,⟨hg.os,hg.tape,hg.output,hg.size,fun k hk=>hg.block k hk (by simp)⟩⟩
theorem NR {w0:World} {v:Value} {N K b o:Nat} {fm fa:Nat→Nat} (hb:BV w0 v N fm) (hN:N≤4096) (hl:LV w0 (aM b o K K) K fa) (hK0:0<K) (hK:K≤4) (hfa:∀q,q<K→fa q<RM) (hDj:Dbj w0) :
  bG prog 60 (.one (.fl [.q (eaH fa K fm N)])) [v,aM b o K K] w0:=by
 have hG:∀base w,bQ prog (qG prog) base w:=fun _ _=>(aV _).w _ _
 have hT:∀base w,∀n d:Nat,TabOkW prog T0 base w:=fun _ _ _ _=>(bP _).w _ _
 obtain⟨_,m,e0,_,_,hmem⟩:=hl;cases e0;obtain⟨_,_,e0,hlt,hr⟩:=hmem hK0;cases e0;have hfm:=(hb:∃p m,_);obtain⟨_,_,_,_,hfm,_⟩:=hfm;have hnt:f60.ntmps=18:=aEu;refine cM func60 (cs:=[.v (.im v),.v (.im (aM b o K K))]) (args:=[v,aM b o K K]) (c:=kU) rfl ⟨rfl,rfl,trivial⟩ (Nat.le_of_ble_eq_true (by kernel_rfl)) fun a w hA => ?_
 rw[hnt]at hA;rw[Mv];refine wp_seq (aB aI (hT _ _) (hG _ _) (aJC v (aM b o K K)) trivial hA fun a w1 hA => ?_);obtain⟨rb,hA⟩:=hA.at (k:=4) (l:=zC) (by simp);have hrb:Own w1 rb zC:=hA.own (k:=4) (by simp) (by simp);have hrB:w0.heap.size≤rb:=hA.geq (k:=4) (l:=zC) (by simp) (by simp);have hb1:=hb.on hA.below;have hD1:=hDj.on hDj.lt hA.below;have hr1:=bJ hA.below hlt hr;have hlt1:b<w1.heap.size:=Nat.lt_of_lt_of_le hlt hA.below.size;have hbl:=hA.below;have hS:=aU (nt:=18) (w:=w1) (a:=a) (ts:=[(0,v),(1,aM b o K K),(4,ptV rb 0)]) hA.defers hA.size (fun x hx=>by
  simp only[List.mem_cons,List.not_mem_nil,or_false]at hx
  rcases hx with rfl|rfl|rfl
  ·exact hA.slot (by simp)
  ·exact hA.slot (by simp)
  ·exact hA.ptS (s:=4) (k:=4) (o:=0) (by simp) (by simp))
 clear hA;refine wp_seq (bK (l:=List.range' 0 ((aE DH).extract 0 3).size++(3::4::5::(List.range' 6 ((aE DH).extract 6 12).size++[]))) (by kernel_rfl) ?_);refine aJ (c:=tC T0 _) (hT _ _ 0) (hG _ _) (aEx v (aM b o K K) rb) trivial (by kernel_rfl) hS fun a3 w3 hA => ?_
 have hb3:=hA.below;have h8:=hA.slotF (s:=8) (l:=rR 3 8 57) (by simp);have h9:=hA.slot (s:=9) (v:=aM b o K K) (by simp);have h10:=hA.slot (s:=10) (v:=v) (by simp);have h4:=hA.slot (s:=4) (v:=ptV rb 0) (by simp);have hdf:=hA.defers;have hsz:=hA.size;clear hA hS;obtain⟨o3,ho3,⟨ts3,hop3⟩,hd3,hg3⟩:∃x,(aE DH)[3]?=some x∧(∃ts,x.op=.call ⟨.value (.func 90),#[.tmp 10],ts⟩)∧x.dst=some 11∧x.guard=none:=⟨_,rfl,⟨_,rfl⟩,rfl,rfl⟩
 refine bE ho3 hg3 (cQ hop3 (vs:=[v]) (List.cons_eq_cons.2 ⟨cR h10,rfl⟩) (fun args=>cC func90 (by kernel_rfl) (by kernel_rfl) args _) (Eb (hb1.on hb3) (by omega)) fun e w4 hq => ?_);obtain⟨b4,cap4,rfl,hb4,hge4,hlt4,hr4,_,_⟩:=hq;refine⟨_,rfl,?_⟩;rw[hd3];have hr3:=bJ hb3 hlt1 hr1;have hr34:=bJ hb4 (Nat.lt_of_lt_of_le hlt1 hb3.size) hr3;obtain⟨o4,ho4,hop4,hd4,hg4⟩:∃x,(aE DH)[4]?=some x∧x.op=.call ⟨.builtin .append,#[.tmp 9,.tmp 11],#[56,56]⟩∧x.dst=some 12∧x.guard=none:=⟨_,rfl,rfl,rfl,rfl⟩
 change wpOps prog (aE DH) _ _ (a3.put (some 11) (aM b4 0 (1+(N+30)/31) cap4)) w4;have k9:=aQ (d:=11) (u:=aM b4 0 (1+(N+30)/31) cap4) h9 (by decide);have k8:=aQ (d:=11) (u:=aM b4 0 (1+(N+30)/31) cap4) h8 (by decide);have k4:=aQ (d:=11) (u:=aM b4 0 (1+(N+30)/31) cap4) h4 (by decide);have k11:=aT a3 11 (aM b4 0 (1+(N+30)/31) cap4) (by rw[hsz]; decide);have kz:(a3.put (some 11) (aM b4 0 (1+(N+30)/31) cap4)).tmps.size=18:=by rw[aH]; exact hsz
 have kd:(a3.put (some 11) (aM b4 0 (1+(N+30)/31) cap4)).defers=[]:=hdf;generalize a3.put (some 11) (aM b4 0 (1+(N+30)/31) cap4)=a4 at *;obtain⟨b5,cap5,w5,hrun,hcap,hlt5,hr5,hB5⟩:=Qs (c:=K) (cap1:=cap4) hr34 hr4 (by omega) (by omega) o4.type;have hrun4:(execOp a4.eval o4).run prog w4=.ok (.value (aM b5 0 (K+(1+(N+30)/31)) cap5)) w5:=by
  unfold execOp;simp only[hop4,resolve,invoke,builtin,Sem.run_bind,Sem.run_pure,Result.andThen_ok,List.map_toArray,List.map_cons,List.map_nil,cR k9,cR k11,hrun]
 refine bE ho4 hg4 (cD hrun4 ?_);rw[hd4];rw[aAg]at hr5;have j8:=aQ (d:=12) (u:=aM b5 0 (K+(1+(N+30)/31)) cap5) k8 (by decide);have j4:=aQ (d:=12) (u:=aM b5 0 (K+(1+(N+30)/31)) cap5) k4 (by decide);have j12:=aT a4 12 (aM b5 0 (K+(1+(N+30)/31)) cap5) (by rw[kz]; decide);have jz:(a4.put (some 12) (aM b5 0 (K+(1+(N+30)/31)) cap5)).tmps.size=18:=by rw[aH]; exact kz
 have jd:(a4.put (some 12) (aM b5 0 (K+(1+(N+30)/31)) cap5)).defers=[]:=kd;generalize a4.put (some 12) (aM b5 0 (K+(1+(N+30)/31)) cap5)=a5 at *;have hb15:=(hb3.trans (hb4.mono hb3.size)).trans (hB5.mono (Nat.le_trans hb3.size hb4.size));have hall:∀q,q<K+(1+(N+30)/31)→WX fa K fm N q<RM:=fun q hq=>by
  unfold WX;split
  ·exact hfa _ (by assumption)
  ·exact aFg hfm hN _
 obtain⟨o5,ho5,⟨ts5,hop5⟩,hd5,hg5⟩:∃x,(aE DH)[5]?=some x∧(∃ts,x.op=.call ⟨.value (.func 89),#[.tmp 8,.tmp 12],ts⟩)∧x.dst=some 13∧x.guard=none:=⟨_,rfl,⟨_,rfl⟩,rfl,rfl⟩
 have hL5:LV w5 (aM b5 0 (K+(1+(N+30)/31)) cap5) (K+(1+(N+30)/31)) (WX fa K fm N):=⟨_,_,rfl,hcap,fun j hj=>Nat.lt_trans (hall j hj) (by decide),fun _=>⟨_,_,rfl,hlt5,hr5⟩⟩;refine bE ho5 hg5 (cQ hop5 (vs:=[.agg (aA (rR 3 8 57)).toArray,aM b5 0 (K+(1+(N+30)/31)) cap5]) (List.cons_eq_cons.2 ⟨cR j8,List.cons_eq_cons.2 ⟨cR j12,rfl⟩⟩) (fun args=>cC func89 (by kernel_rfl) (by kernel_rfl) args _) (Db hL5 hall (by omega) (hD1.on hD1.lt hb15)) fun e w6 hq => ?_);obtain⟨rfl,hb6⟩:=hq;refine⟨_,rfl,?_⟩;rw[hd5];have hD:Mw (K+(1+(N+30)/31)) (WX fa K fm N)<RM:=Yl _ _;have hEq:eaH fa K fm N=Mw (K+(1+(N+30)/31)) (WX fa K fm N)%lJ:=rfl;rw[hEq];generalize Mw (K+(1+(N+30)/31)) (WX fa K fm N)=D at *;have hb16:=hb15.trans (hb6.mono hb15.size);have hS6:=jO (nt:=18) (w:=w6) (a:=a5.put (some 13) (RV.many [.fl [.q D],.im (.int .i64 0)]).den) (ts:=[(13,.tu [.fl [.q D],.im (.int .i64 0)]),(4,.im (ptV rb 0))]) jd (by rw[aH]; exact jz) (fun x hx β=>by
  simp only[List.mem_cons,List.not_mem_nil,or_false]at hx
  rcases hx with rfl|rfl
  ·exact aT _ _ _ (by rw[jz]; decide)
  ·exact aQ j4 (by simp))
 refine aJ (c:=tC T0 _) (hT _ _ 0) (hG _ _) (aEw rb D) trivial (by kernel_rfl) hS6 fun a7 w7 hA => ?_
 refine wp_seq ?_;rw[Cx];refine bK (l:=List.range' 0 ((aE Mx).extract 0 2).size++(2::[])) (by kernel_rfl) ?_;refine aJ (c:=tC _ _) (fun _=>((bP _).add func91 (by kernel_rfl) (by kernel_rfl) aKf).w _ _) (hG _ _) (aEv rb D 0) ⟨Nat.lt_trans hD (by decide),trivial⟩ (by kernel_rfl) hA fun a8 w8 hA => ?_
 obtain⟨o9,ho9,hop9,hd9,hg9⟩:∃x,(aE Mx)[2]?=some x∧x.op=.store 72 (.tmp 4) (.tmp 17)∧x.dst=none∧x.guard=none:=⟨_,rfl,rfl,rfl,rfl⟩
 have hb8:=hA.below;have m3:=(hrb.on hb16).on hb8;obtain⟨hR,hW⟩:=m3.set (o:=0) (p:=[.q (D%lJ)]) (l':=[.q (D%lJ)]) rfl;refine bE ho9 hg9 (fL (vs:=aA [.q (D%lJ)]) hop9 hd9 (cR (hA.slot (s:=4) (v:=ptV rb 0) (by simp))) (cR (hA.slotF (s:=17) (by simp))) rfl (qE _) Vm (m3.there (o:=0) (n:=4) (Nat.le_of_ble_eq_true rfl)) ?_);have hH:=hR.holds (k:=4) (nt:=18) (a:=a8) (ts:=[]) hA.defers hA.size rfl (hA.slot (s:=4) (v:=ptV rb 0) (by simp)) (fun x hx=>by cases hx);exact wp_ret (cN (l:=[.fl [.q (D%lJ)]]) (r:=.one (.fl [.q (D%lJ)])) (by kernel_rfl) (by kernel_rfl) hH ⟨rfl,(hbl.trans ((hb16.trans (hb8.mono hb16.size)).mono hbl.size)).trans (hW.below.mono hrB)⟩)
def Dl (K:Nat) (fa:Nat→Nat) (v:Value) (h:Nat):gE
 | [.v (.im u),.s L n m]=>some ([u=v,n=K,m=K,aA L=aA (cJ (el fa) 0 K)],.one (.fl [.q h]))
 | _=>none
theorem Ny {w:World} {v:Value} {N K:Nat} {fm fa:Nat→Nat} (hb:BV w v N fm) (hN:N≤4096) (hK0:0<K) (hK:K≤4) (hfa:∀q,q<K→fa q<RM) (hDj:Dbj w):∀cs pre r,Dl K fa v (eaH fa K fm N) cs=some (pre,r)→bC pre→∀(args:List Value),cP w cs args→bG prog 60 r args w:=by
 intro cs pre r hg hp args ha;unfold Dl at hg;split at hg
 ·cases hg;obtain⟨p1,p2,p3,p4,_⟩:=hp
  match args,ha with
  | [u,x],ha =>
   have e1:u=_:=ha.1;subst e1; subst p1; subst p2; subst p3;have hv:LV w x _ fa:=LV.ofS ha.2.1 p4 rfl (Nat.le_refl _) (fun j hj=>Nat.lt_trans (hfa j hj) (by decide));obtain⟨b',o,e2,_⟩:=ha.2.1;subst e2;exact NR hb hN hv hK0 hK hfa hDj
  | [],ha=>exact ha.elim
  | [_],ha=>exact ha.2.elim
  | _::_::_::_,ha=>exact ha.2.2.elim
 ·cases hg
theorem Sx {w:World} {v:Value} {N K:Nat} {fm fa:Nat→Nat} (hb:BV w v N fm) (hN:N≤4096) (hK0:0<K) (hK:K≤4) (hfa:∀q,q<K→fa q<RM) (hDj:Dbj w):TabOkW prog (T0.add 60 (Dl K fa v (eaH fa K fm N))) w.heap.size w :=
 TabOkW.add ((bP _).w _ _) func60 (by kernel_rfl) (by kernel_rfl) fun w' hw=>Ny (hb.on hw) hN hK0 hK hfa (hDj.on hDj.lt hw)
theorem Xw (s:Nat) (v:Value) (h:Nat) (fa:Nat→Nat):cH prog (qG prog) (fun _=>tC (T0.add 60 (Dl 1 fa v h)) fun _=>none) f30 60 [.v (.fl [.q s]),.v (.im v)]=some ([v=v,1=1,1=1,aA [At.q s]=aA (cJ (el fa) 0 1)],.one (.fl [.q h])):=by kernel_rfl
def WU (s:Nat) (fm:Nat→Nat) (N:Nat):Nat:=eaH (fun _=>s) 1 fm N
theorem IJ {w:World} {v:Value} {N s:Nat} {fm:Nat→Nat} (hb:BV w v N fm) (hN:N≤4096) (hs:s<RM) (hDj:Dbj w):bG prog 30 (.one (.fl [.q (WU s fm N)])) [.agg (aA [At.q s]).toArray,v] w :=
 bZ aI (fun _ _=>Sx (fa:=fun _=>s) hb hN (by decide) (by decide) (fun _ _=>hs) hDj) ((aV _).w _ _) func30 (Xw s v _ _) ⟨rfl,rfl,rfl,rfl,trivial⟩ (args:=[.agg (aA [At.q s]).toArray,v]) ⟨rfl,rfl,trivial⟩
def Zv (a b c d q:Nat):Nat:=if q=0 then a else if q=1 then b else if q=2 then c else d
theorem aAB (r k:NP) (v:Value) (h:Nat) (fa:Nat→Nat):cH prog (qG prog) (fun _=>tC (T0.add 60 (Dl 4 fa v h)) fun _=>none) f32 60 [.v (.fl [.q r.1,.q r.2]),.v (.fl [.q k.1,.q k.2]),.v (.im v)]=some ([v=v,4=4,4=4,aA [At.q r.1,.q r.2,.q k.1,.q k.2]=aA (cJ (el fa) 0 4)],.one (.fl [.q h])):=by kernel_rfl
def SE (r k:NP) (fm:Nat→Nat) (N:Nat):Nat:=eaH (Zv r.1 r.2 k.1 k.2) 4 fm N
theorem OV {w:World} {v:Value} {N:Nat} {r k:NP} {fm:Nat→Nat} (hb:BV w v N fm) (hN:N≤4096) (h1:r.1<RM) (h2:r.2<RM) (h3:k.1<RM) (h4:k.2<RM) (hDj:Dbj w):bG prog 32 (.one (.fl [.q (SE r k fm N)])) [.agg (aA [At.q r.1,.q r.2]).toArray,.agg (aA [At.q k.1,.q k.2]).toArray,v] w :=
 bZ aI (fun _ _=>Sx (fa:=Zv r.1 r.2 k.1 k.2) hb hN (by decide) (by decide) (fun q _=>by
  unfold Zv;split
  ·exact h1
  ·split
   ·exact h2
   ·split
    ·exact h3
    ·exact h4) hDj) ((aV _).w _ _) func32 (aAB r k v _ _) ⟨rfl,rfl,rfl,rfl,trivial⟩ (args:=[.agg (aA [At.q r.1,.q r.2]).toArray,.agg (aA [At.q k.1,.q k.2]).toArray,v]) ⟨rfl,rfl,rfl,trivial⟩
end Go.Proofs.YtpjlhhpjpnacmaaGreatDoor.Ex
namespace Go.Proofs.YtpjlhhpjpnacmaaGreatDoor
open Go.Proofs.Tryz
open Go.RowKit
def TIe (R S p y:Nat) (C:Nat→Nat) (j o:Nat) (P:Nat→Nat):Prop:=(∀k,p+4≤k→P k=0)∧fE R P 8+o*R^(p+j)=S+y*R^p*fE R C j
theorem aCC (R p y:Nat) (C P:Nat→Nat):fE R P 8+0*R^(p+0)=fE R P 8+y*R^p*fE R C 0:=by
 show _+0*_=_+_*0;rw[Nat.zero_mul,Nat.mul_zero]
theorem YF {R S p y j o d o':Nat} {C P:Nat→Nat} (hp:p<4) (hj:j<4) (h:TIe R S p y C j o P) (he:d+R*o'=y*C j+P (p+j)+o):TIe R S p y C (j+1) o' (jW P (p+j) d):=by
 refine⟨fun k hk=>by unfold jW; rw[if_neg (by omega)]; exact h.1 k hk,?_⟩;have e:y*C j*R^(p+j)=y*R^p*(C j*R^j):=by
  rw[Nat.pow_add,Nat.mul_assoc,Nat.mul_assoc,Nat.mul_left_comm (C j)]
 have:=wE (P:=P) (k:=p+j) (n:=8) (by omega) he h.2;rw[show p+(j+1)=p+j+1 by omega,this,dI,e,Nat.mul_add,Nat.add_assoc]
theorem Ir {R S p y o:Nat} {C P:Nat→Nat} (hp:p<4) (h:TIe R S p y C 4 o P):(∀k,p+1+4≤k→jW P (p+4) o k=0)∧fE R (jW P (p+4) o) 8=S+y*R^p*fE R C 4:=by
 refine⟨fun k hk=>by unfold jW; rw[if_neg (by omega)]; exact h.1 k (by omega),?_⟩;have h1:=rJ R P (p+4) o 8 (by omega);rw[h.1 (p+4) (Nat.le_refl _),Nat.zero_mul,Nat.add_zero]at h1;rw[h1,h.2]
structure TWe (w wr:World) (b:Nat) (P:Nat→Nat):Prop where
 below:Below b w wr
 size:w.heap.size+1≤wr.heap.size
 row:RowIs wr b 8 P
 lt:∀k,P k<18446744073709551616
 others:∀p:Addr,p.block<w.heap.size→p.block≠b→wr.cell? p=w.cell? p∧wr.frozen? p=w.frozen? p
 shape:Ex.Shape w wr
 free:(∀q,w.frozen? ⟨b,q,none⟩=false)→∀q,wr.frozen? ⟨b,q,none⟩=false
theorem TWe.set {w wr:World} {b:Nat} {P:Nat→Nat} (h:TWe w wr b P) {k d:Nat} (hk:k<8) (hd:d<18446744073709551616):TWe w (wr.setCell ⟨b,k,none⟩ (.int .u64 (d:Nat))) b (jW P k d) :=
 ⟨h.below.setCell (p:=⟨b,k,none⟩) (Nat.le_refl _) _,by rw[World.size_setCell]; exact h.size,h.row.set hk,fun x=>by unfold jW; split; exact hd; exact h.lt x,fun p h1 h2=>by
  refine⟨?_,by rw[World.frozen?_setCell]; exact (h.others p h1 h2).2⟩;rw[World.cell?_setCell_other (h:=fun he=>h2 (by simpa using (congrArg Addr.block he).symm)) ..];exact (h.others p h1 h2).1,h.shape.trans (Ex.pO _ _ _),fun hf q=>by rw[World.frozen?_setCell]; exact h.free hf q⟩
theorem aEZ {x y:Nat} {p o:Nat} (hx:x<18446744073709551616) (hy:y<18446744073709551616) (hp:p<18446744073709551616) (ho:o<18446744073709551616):∃h l l' c c' g d o':Nat,(∀w,Calls prog 93 #[.int .u64 x,.int .u64 y] w fun e w'=>e=.returned (.tuple #[.int .u64 (h:Nat),.int .u64 (l:Nat)])∧w'=w) ∧
  (∀w,(callFunc 94 #[.int .u64 (l:Int),.int .u64 (o:Int),.int .u64 0]).run prog w=.ok (.value (.tuple #[.int .u64 (l':Int),.int .u64 (c:Int)])) w) ∧
  (∀w,(callFunc 94 #[.int .u64 (p:Int),.int .u64 (l':Int),.int .u64 0]).run prog w=.ok (.value (.tuple #[.int .u64 (d:Int),.int .u64 (c':Int)])) w) ∧
  ((h:Int)+(c:Int)=(g:Int))∧((g:Int)+(c':Int)=(o':Int)) ∧
  h≤18446744073709551614∧c≤1∧c'≤1∧g<18446744073709551616∧d<18446744073709551616∧o'<18446744073709551616∧Hid (d+18446744073709551616*o'=x*y+p+o):=by
 obtain⟨h,l,r,hh,hl,e⟩:=xV hx hy;obtain⟨l',c,r1,hl',hc,e1⟩:=iS hl ho;obtain⟨d,c',r2,hd,hc',e2⟩:=iS hp hl';have e':=e.out; have e1':=e1.out; have e2':=e2.out;have hxy:=nW (show x≤18446744073709551615 by omega) (show y≤18446744073709551615 by omega);have hb:h+c+c'<18446744073709551616:=by omega
 exact⟨h,l,l',c,c',h+c,d,h+c+c',r,r1,r2,by omega,by omega,hh,hc,hc',by omega,hd,hb,Lib.hid (by omega)⟩
theorem Iv (c0 c1 c2 c3:Nat):∀j:Nat,j<4→∀w:World,(Instr.index 72 (.agg #[.int .u64 c0,.int .u64 c1,.int .u64 c2,.int .u64 c3]) (.int .i64 j)).run prog w=.ok (.int .u64 (fH [c0,c1,c2,c3] j:Nat)) w:=by
 intro j hj w;have hs:Ex.dD prog 22=some 1:=by kernel_rfl
 have hsc:Ex.jM prog 22=true:=by kernel_rfl
 match j,hj with
 | 0,_|1,_|2,_|3,_=>simp[Instr.index,asIntOf,run_underlying underlying72,Ex.bH hs,part,fH]
theorem TWe.drew {w wr:World} {b:Nat} {P:Nat→Nat} (h:TWe w wr b P):TWe w wr.drew b P:=⟨h.below.drew,h.size,h.row,h.lt,h.others,h.shape.trans (Ex.Shape.drew _),h.free⟩
set_option maxHeartbeats 1000000 in
theorem LI (w:World) (b p y c0 c1 c2 c3:Nat) (P0:Nat→Nat) (hp:p<4) (hy:y<18446744073709551616) (hc:cF c0 c1 c2 c3) (hb:b<w.heap.size) (hr:RowIs w b 8 P0) (hl:∀k,P0 k<18446744073709551616) (h0:∀k,p+4≤k→P0 k=0) :
  Calls prog 63 #[.pointer (some ⟨b,0,none⟩),.int .i64 (p:Nat),.int .u64 (y:Nat),.agg #[.int .u64 c0,.int .u64 c1,.int .u64 c2,.int .u64 c3]] w fun e w'=>∃P,e=.returned (.tuple #[])∧TWe w w' b P∧(∀k,p+1+4≤k→P k=0)∧fE 18446744073709551616 P 8=fE 18446744073709551616 P0 8+y*18446744073709551616^p*fE 18446744073709551616 (fH [c0,c1,c2,c3]) 4:=by
 have lC:=JG hc;obtain⟨C,eC⟩:∃C,C=fH [c0,c1,c2,c3]:=⟨_,rfl⟩
 have hix:∀j:Nat,j<4→∀w:World,(Instr.index 72 (.agg #[.int .u64 c0,.int .u64 c1,.int .u64 c2,.int .u64 c3]) (.int .i64 j)).run prog w=.ok (.int .u64 (C j:Nat)) w:=by
  rw[eC]; exact Iv c0 c1 c2 c3
 rw[←eC]at lC;rw[←eC];have HlC:=Lib.hid lC;have HC:=Lib.hid eC;clear eC lC;have HlP:=Lib.hid hl;have Hb:=Lib.hid hb
 go_enter func63,ntmps63
 go_wp2_with fail
 go_loopw [8,15] (fun ov jj wr=>∃(j o:Nat) (P:Nat→Nat),j≤4∧o<18446744073709551616∧jj=.int .i64 j∧ov=.int .u64 o∧TWe w wr b P∧Hid (TIe 18446744073709551616 (fE 18446744073709551616 P0 8) p y C j o P)) (fun _ j _=>4-(intOf j).toNat)
 case atStart =>
  refine⟨0,0,P0,by omega,by omega,rfl,rfl,?_,Lib.hid ⟨h0,aCC _ _ _ _ _⟩⟩;have hB:Below w.heap.size w (w.alloc (.cells #[.int .u64 c0,.int .u64 c1,.int .u64 c2,.int .u64 c3] 72)):=(Below.refl _ w).alloc (Nat.le_refl _) _;exact⟨hB.mono (Nat.le_of_lt Hb.out),by rw[World.size_alloc]; exact Nat.le_refl _,hr.below hB Hb.out,HlP.out,fun q h1 _=>⟨hB.cell h1,hB.frozen h1⟩,Ex.Shape.alloc _ _,fun hf q=>(hB.frozen (p:=⟨b,q,none⟩) Hb.out).trans (hf q)⟩
 case round =>
  obtain⟨j,o,P,hj,ho,rfl,rfl,m,mi⟩:=hrel
  by_cases hlt':j<4
  ·have cp:=m.row.cell (show p+j<8 by omega);have fp:=m.row.free (show p+j<8 by omega);have by':=HlC.out j
   have bp:=m.lt (p+j);have hixj:=hix j hlt';obtain⟨h,l,l',c,c',g,d,o',rm,r1,r2,q,q',bh,bc,bc',bg,bd,bo,e⟩:=aEZ hy by' bp ho
   have M:=Lib.hid m;clear m by' bp
   go_wp2_with fail;refine (rm _).mono ?_
   rintro _ _ ⟨rfl,rfl⟩
   go_wp2_with fail
   go_region
   go_wp2_with fail
   go_roundw
   case rel=>exact⟨j+1,o',jW P (p+j) d,by omega,bo,by go_num,rfl,(M.out.set (by omega) bd).drew,Lib.hid (YF hp hlt' mi.out e.out)⟩
   case measure=>simp[intOf]; omega
  ·obtain rfl:j=4:=by omega
   have cp:=m.row.cell (show p+4<8 by omega);have fp:=m.row.free (show p+4<8 by omega);have M:=Lib.hid m;clear m;go_wp2_with fail;obtain⟨e1,e2⟩:=Ir hp mi.out;refine bodyPost_end (v:=.tuple #[]) (by simp[results,show f63.results = #[] by kernel_rfl]) rfl ⟨jW P (p+4) o,rfl,M.out.set (by omega) ho,e1,e2⟩
theorem TWe.wrc {w wr:World} {b:Nat} {P:Nat→Nat} (h:TWe w wr b P) (hf:∀q,w.frozen? ⟨b,q,none⟩=false) (hb:b<w.heap.size):Ex.WrC w wr b :=
 ⟨h.below,h.others,h.shape,h.free hf⟩
end Go.Proofs.YtpjlhhpjpnacmaaGreatDoor
namespace Go.Proofs.YtpjlhhpjpnacmaaGreatDoor.Ex
open Go.Proofs.Tryz
open Go.RowKit
def WT (a b c:Nat):Nat→Nat
 | 0=>a
 | p+1=>WT a b c p+fw b p*eP^p*c
def tkL (a b c p:Nat):List At:=[.q (WT a b c p%aG),.q (WT a b c p/aG)]
theorem LE {a b c:Nat} (ha:a<aG) (hc:c<aG):∀p,WT a b c p<aG*eP^p
 | 0=>by rw[Nat.pow_zero,Nat.mul_one]; exact ha
 | p+1=>by
  have h:=LE ha hc p (b:=b);have hy:fw b p≤eP-1:=Nat.le_sub_one_of_lt (Nat.mod_lt _ (by decide));have h1:fw b p*eP^p*c≤(eP-1)*eP^p*aG:=Nat.mul_le_mul (Nat.mul_le_mul_right _ hy) (Nat.le_of_lt hc);have h2:(eP-1)*eP^p*aG=(eP-1)*(aG*eP^p):=by rw[Nat.mul_assoc,Nat.mul_comm (eP^p)]
  have h3:aG*eP^(p+1)=eP*(aG*eP^p):=by rw[Nat.pow_succ,←Nat.mul_assoc,Nat.mul_comm]
  show WT a b c p+fw b p*eP^p*c<_;rw[h3];rw[h2]at h1;generalize aG*eP^p=X at *;generalize fw b p*eP^p*c=Y at *;rw[Nat.sub_one_mul]at h1;have h4:X≤eP*X:=Nat.le_mul_of_pos_left X (by decide);generalize eP*X=Z at *;omega
theorem aCA {a b c:Nat} (hb:b<aG):WT a b c 4=a+b*c:=by
 have h:=fG hb;unfold aC at h;show a+fw b 0*eP^0*c+fw b 1*eP^1*c+fw b 2*eP^2*c+fw b 3*eP^3*c=a+b*c;rw[Nat.add_assoc,Nat.add_assoc,Nat.add_assoc,←Nat.add_mul,←Nat.add_mul,←Nat.add_mul];congr 2;refine Eq.trans ?_ h;have e0:eP^0=1:=rfl;have e1:eP^1=18446744073709551616:=by decide
 have e2:eP^2=340282366920938463463374607431768211456:=by decide
 have e3:eP^3=6277101735386680763835789423207666416102355444464034512896:=by decide
 rw[e0,e1,e2,e3];omega
def KV (lo hi k:Nat):Nat:=if k<4 then fw lo k else fw hi (k-4)
theorem aAm (lo hi k:Nat):KV lo hi k<18446744073709551616:=by
 unfold KV;split<;>exact Nat.mod_lt _ (by decide)
theorem Ej {lo hi p k:Nat} (h:hi<eP^p) (hk:p+4≤k):KV lo hi k=0:=by
 unfold KV;rw[if_neg (by omega)];unfold fw;rw[Nat.div_eq_of_lt (Nat.lt_of_lt_of_le h (Nat.pow_le_pow_right (by decide) (by omega)))]
theorem Pf {w:World} {b lo hi:Nat} (hr:w.rangeAt b 0 (aA [.q lo,.q hi])) (hf:∀q,w.frozen? ⟨b,q,none⟩=false):Go.Proofs.YtpjlhhpjpnacmaaGreatDoor.RowIs w b 8 (KV lo hi):=by
 intro k hk;refine⟨?_,hf k⟩;have h:∀v,(aA [At.q lo,.q hi])[k]?=some v→w.cell? ⟨b,k,none⟩=some v:=fun v hv=>by
  have:=hr k v hv
  rwa [Nat.zero_add]at this
 match k,hk with
 | 0,_|1,_|2,_|3,_|4,_|5,_|6,_|7,_=>exact h _ rfl
theorem Pe {lo hi:Nat} (hl:lo<aG) (hh:hi<aG):Go.Proofs.YtpjlhhpjpnacmaaGreatDoor.fE 18446744073709551616 (KV lo hi) 8=lo+aG*hi:=by
 have h:=Go.Proofs.YtpjlhhpjpnacmaaGreatDoor.iO 18446744073709551616 (KV lo hi) 4 4;rw[←Go.Proofs.YtpjlhhpjpnacmaaGreatDoor.jA,←Go.Proofs.YtpjlhhpjpnacmaaGreatDoor.jA]at h;have h1:aC (KV lo hi 0) (KV lo hi 1) (KV lo hi 2) (KV lo hi 3)=lo:=fG hl;have h2:aC (KV lo hi (4+0)) (KV lo hi (4+1)) (KV lo hi (4+2)) (KV lo hi (4+3))=hi:=fG hh;have e4:18446744073709551616^4=aG:=by decide
 rw[e4,h1,h2]at h;exact h
theorem OM {w:World} {b n:Nat} {P:Nat→Nat} (hr:Go.Proofs.YtpjlhhpjpnacmaaGreatDoor.RowIs w b 8 P) (hl:∀k,P k<18446744073709551616) (hn:Go.Proofs.YtpjlhhpjpnacmaaGreatDoor.fE 18446744073709551616 P 8=n):w.rangeAt b 0 (aA [.q (n%aG),.q (n/aG)]):=by
 have h:=Go.Proofs.YtpjlhhpjpnacmaaGreatDoor.iO 18446744073709551616 P 4 4;have hn':Go.Proofs.YtpjlhhpjpnacmaaGreatDoor.fE 18446744073709551616 P (4+4)=n:=hn;rw[hn',←Go.Proofs.YtpjlhhpjpnacmaaGreatDoor.jA,←Go.Proofs.YtpjlhhpjpnacmaaGreatDoor.jA]at h;have e4:18446744073709551616^4=aG:=by decide
 rw[e4]at h;have o1:cF (P 0) (P 1) (P 2) (P 3):=⟨hl 0,hl 1,hl 2,hl 3⟩;have o2:cF (P 4) (P 5) (P 6) (P 7):=⟨hl 4,hl 5,hl 6,hl 7⟩;have b1:aC (P 0) (P 1) (P 2) (P 3)<aG:=by unfold aC; obtain⟨_,_,_,_⟩:=o1; omega
 have b2:aC (P 4) (P 5) (P 6) (P 7)<aG:=by unfold aC; obtain⟨_,_,_,_⟩:=o2; omega
 have h':n=aC (P 0) (P 1) (P 2) (P 3)+aG*aC (P 4) (P 5) (P 6) (P 7):=h;have q1:aC (P 0) (P 1) (P 2) (P 3)=n%aG:=by rw[h',Nat.add_mul_mod_self_left,Nat.mod_eq_of_lt b1]
 have q2:aC (P 4) (P 5) (P 6) (P 7)=n/aG:=by rw[h',Nat.add_mul_div_left _ _ (by decide),Nat.div_eq_of_lt b1,Nat.zero_add]
 obtain⟨a0,a1,a2,a3⟩:=gY o1 (q1▸b1) q1;obtain⟨a4,a5,a6,a7⟩:=gY o2 (q2▸b2) q2;intro j v hv;rw[Nat.zero_add];have hj:j<8:=by
  rcases Nat.lt_or_ge j 8 with h|h
  ·exact h
  ·rw[List.getElem?_eq_none (show (aA [At.q (n%aG),.q (n/aG)]).length≤j from h)]at hv; cases hv
 have hc:=(hr j hj).1;rw[hc,←hv]
 match j,hj with
 | 0,_=>rw[a0]; rfl
 | 1,_=>rw[a1]; rfl
 | 2,_=>rw[a2]; rfl
 | 3,_=>rw[a3]; rfl
 | 4,_=>rw[a4]; rfl
 | 5,_=>rw[a5]; rfl
 | 6,_=>rw[a6]; rfl
 | 7,_=>rw[a7]; rfl
def gTk (Ls:Nat→List At) (ys:Nat→Nat) (c:Nat):List CA→Option (List Prop×Nat×RV×List At)
 | [.p l 0,.v (.im (.int .i64 (.ofNat p))),.v (.im u),.v (.fl m)]=>some ([p<4,aA l=aA (Ls p),u=u6 (ys p),aA m=aA [At.q c]],0,.many [],Ls (p+1))
 | _=>none
def T5k (Ls:Nat→List At) (ys:Nat→Nat) (c:Nat):Tab5:=kX.add 63 (gTk Ls ys c)
theorem Yv {a b c:Nat} (ha:a<aG) (hc:c<aG):∀cs pre j r l,gTk (tkL a b c) (fw b) c cs=some (pre,j,r,l)→bC pre→∀(args:List Value) (w:World),cP w cs args→∀b' o,args[j]?=some (.pointer (some ⟨b',o,none⟩))→(∀q,w.frozen? ⟨b',q,none⟩=false) →
  Calls prog 63 args.toArray w (fun e w'=>e=.returned r.den∧WrC w w' b'∧w'.rangeAt b' 0 (aA l)):=by
 intro cs pre j r l hg hp args w hA b' o hj hz;unfold gTk at hg;split at hg
 ·rename_i l' p u m;cases hg;obtain⟨p1,p2,p3,p4,_⟩:=hp
  match args,hA with
  | [x0,x1,x2,x3],hA =>
   obtain⟨b1,e0,h1,h2⟩:=hA.1;have e1:x1=.int .i64 (Int.ofNat p):=hA.2.1;have e2:x2=u:=hA.2.2.1;have e3:x3=.agg (aA m).toArray:=hA.2.2.2.1;subst e0; subst e1; subst e2; subst e3; subst p3;cases hj;rw[p4];rw[p2]at h2;have hn:=LE ha hc p (b:=b);have hlo:WT a b c p%aG<aG:=Nat.mod_lt _ (by decide);have hhi:WT a b c p/aG<eP^p:=Nat.div_lt_of_lt_mul hn;have hhi2:WT a b c p/aG<aG:=Nat.lt_of_lt_of_le hhi (Nat.le_trans (Nat.pow_le_pow_right (by decide) (show p≤4 by omega)) (by decide));refine (Go.Proofs.YtpjlhhpjpnacmaaGreatDoor.LI w _ p (fw b p) (fw c 0) (fw c 1) (fw c 2) (fw c 3) (KV (WT a b c p%aG) (WT a b c p/aG)) p1 (Nat.mod_lt _ (by decide)) (eN c) h1 (Pf h2 hz) (aAm _ _) (fun k hk=>Ej hhi hk)).mono ?_
   rintro e w' ⟨P,rfl,hT,_,hN⟩
   refine⟨rfl,hT.wrc hz h1,OM hT.row hT.lt ?_⟩;rw[hN,Pe hlo hhi2,←Go.Proofs.YtpjlhhpjpnacmaaGreatDoor.jA,Nat.mod_add_div];show _+_*_*aC (fw c 0) (fw c 1) (fw c 2) (fw c 3)=_;rw[fG hc];rfl
  | [],ha=>exact ha.elim
  | [_],ha=>exact ha.2.elim
  | [_,_],ha=>exact ha.2.2.elim
  | [_,_,_],ha=>exact ha.2.2.2.elim
  | _::_::_::_::_::_,ha=>exact ha.2.2.2.2.elim
 ·cases hg
def Hg:Code:=(f33.body).getD .skip
def pp2:Code:=cA (cB (cB Hg))
def pp8:Code:=cA (cB (cB (cB (cB Hg))))
def Ue:List At:=[.f ⟨0,dB⟩,.f ⟨0,dB⟩]
theorem Lg:Hg=.seq (cA Hg) (.seq (cA (cB Hg)) (.seq (.region 2 (aE pp2) true) (.seq (cA (cB (cB (cB Hg)))) (.seq (.region 8 (aE pp8) false) .ret)))):=by kernel_rfl
theorem aDc:f33.ntmps=25:=by kernel_rfl
def ppF (a b c:Nat):List Fact:=[.slot 3 (.pt 3 0),.row 3 true [.q a],.slot 4 (.pt 4 0),.row 4 true [.q b],.slot 5 (.pt 5 0),.row 5 true [.q c],.slot 6 (.pt 6 0),.row 6 true zC]
theorem aJd (a b c:Nat):aX prog (qG prog) 25 (fun _=>tC T0 fun _=>none) 60 (cA Hg) (fJ 0 [.v (.fl [.q a]),.v (.fl [.q b]),.v (.fl [.q c])]) (ppF a b c)=some ([],.nrm,ppF a b c):=by kernel_rfl
theorem aJc (v3 v4 v5 v6:Value):aX prog (qG prog) 25 (fun _=>tC T0 fun _=>none) 60 (cA (cB Hg)) [.slot 3 (.im v3),.slot 4 (.im v4),.slot 5 (.im v5),.slot 6 (.im v6)] [.slot 7 (.pt 7 0),.row 7 true Ue,.slot 3 (.im v3),.slot 4 (.im v4),.slot 5 (.im v5),.slot 6 (.im v6)]=some ([],.nrm,[.slot 7 (.pt 7 0),.row 7 true Ue,.slot 3 (.im v3),.slot 4 (.im v4),.slot 5 (.im v5),.slot 6 (.im v6)]):=by kernel_rfl
def xOq (base:Nat) (w:World) (ld:Nat→Option (List At)) (T5:Tab5):Ext:={ Ext.none with ld:=ld,old:=fun b o l=>b<base∧w.rangeAt b o (aA l),T2:=WR,T3:=SS,T4:=XB,T5:=T5,T6:=Gy }
theorem Uk (base:Nat) (w:World) (ld:Nat→Option (List At)) {T5:Tab5} (h5:PtOk prog T5):bQ prog { qG prog with x:=xOq base w ld T5 } base w :=
 ⟨(aV _).1,jT (fun b o l h=>h) (fun w' _=>FrAt.none _ _) (fun w' _=>FsAt.none _ _) (EK _) h5 (yQ _)⟩
theorem aJb (base n0:Nat) (W:World) (b c b4 b5 b6:Nat) (Ls:Nat→List At) (ys:Nat→Nat):aX prog { qG prog with x:=xOq base W (assoc [(13,[.q b]),(20,[.q c])]) (T5k Ls ys c) } 25 (fun _=>tC T0 fun _=>none) 80 (cA (cB (cB (cB Hg)))) [.slot 7 (.pt 7 0),.row 7 true (Ls 0),.at 7 base,.at 25 n0,.slot 4 (.im (ptV b4 0)),.slot 5 (.im (ptV b5 0)),.slot 6 (.im (ptV b6 0))] [.slot 7 (.pt 7 0),.row 7 true (Ls 4),.slot 6 (.im (ptV b6 0))]=some ([b4<base∧W.rangeAt b4 0 (aA [At.q b]),dN [At.q b]=4,b5<base∧W.rangeAt b5 0 (aA [At.q c]),dN [At.q c]=4,0<4,aA (Ls 0)=aA (Ls 0),u6 (fw b 0)=u6 (ys 0),aA [At.q c]=aA [At.q c],b5<base∧W.rangeAt b5 0 (aA [At.q c]),dN [At.q c]=4,1<4,aA (Ls 1)=aA (Ls 1),u6 (fw b 1)=u6 (ys 1),aA [At.q c]=aA [At.q c],b5<base∧W.rangeAt b5 0 (aA [At.q c]),dN [At.q c]=4,2<4,aA (Ls 2)=aA (Ls 2),u6 (fw b 2)=u6 (ys 2),aA [At.q c]=aA [At.q c],b5<base∧W.rangeAt b5 0 (aA [At.q c]),dN [At.q c]=4,3<4,aA (Ls 3)=aA (Ls 3),u6 (fw b 3)=u6 (ys 3),aA [At.q c]=aA [At.q c]],.nrm,[.slot 7 (.pt 7 0),.row 7 true (Ls 4),.slot 6 (.im (ptV b6 0))]):=by kernel_rfl
theorem aJa (lo hi r b6:Nat):cX prog (qG prog) 25 (tC (T0.add 64 (Nl lo hi r)) fun _=>none) ((aE pp8).extract 0 2) [.slot 7 (.pt 7 0),.row 7 true [.q lo,.q hi],.slot 6 (.im (ptV b6 0))] [.slot 24 (.fl [.q r]),.slot 6 (.im (ptV b6 0))]=some ([aA [At.q lo,.q hi]=aA [At.q lo,.q hi]],[.slot 24 (.fl [.q r]),.slot 6 (.im (ptV b6 0))]):=by kernel_rfl
section
variable {ops:Array Oper} {o:Oper} {a:Act} {s:Nat} {S:World→Prop}
theorem Uf {b:Nat} (hop:o.op=.slice 113 (.tmp s) none none none) (hg:o.guard=none) (h:a.tmps[s]?=some (ptV b 0)):YieldsIf prog ops S o (.slice (some ⟨b,0,none⟩) 8 8) a :=
 Or.inl ⟨by simp[Region.wanted,hg],fun wx hw=>by
  have hs:dD prog 22=some 1:=by kernel_rfl
  have h':a.tmps[s]?=some (.pointer (some ⟨b,0,none⟩)):=h;simp[execOp,hop,Instr.sliceAt,Instr.sureAddr,run_underlying underlying113,Instr.sliceBounds,Instr.sliceBound,asIntOf,bH hs,Addr.add_mid,Act.eval,h']⟩
theorem Ug {b:Nat} (hop:o.op=.slice 72 (.tmp s) none none none) (hg:o.guard=none) (h:a.tmps[s]?=some (ptV b 0)):YieldsIf prog ops S o (.slice (some ⟨b,0,none⟩) 4 4) a :=
 Or.inl ⟨by simp[Region.wanted,hg],fun wx hw=>by
  have hs:dD prog 22=some 1:=by kernel_rfl
  have h':a.tmps[s]?=some (.pointer (some ⟨b,0,none⟩)):=h;simp[execOp,hop,Instr.sliceAt,Instr.sureAddr,run_underlying underlying72,Instr.sliceBounds,Instr.sliceBound,asIntOf,bH hs,Addr.add_mid,Act.eval,h']⟩
end
theorem aDd {w:World} {a:Act} {b3 b7 x:Nat} {Q:Exit→Act→World→Prop} (hm:oldOf w b3 0 [.q x]) (hO:Own w b7 Ue) (hne:b3≠b7) (h3:a.tmps[3]?=some (ptV b3 0)) (h7:a.tmps[7]?=some (ptV b7 0)) (hdf:a.defers=[]) (hsz:a.tmps.size=25)
  (hQ:∀a' w',a'.defers=[]→a'.tmps.size=25→(∀q,q<10→a'.tmps[q]?=a.tmps[q]?)→Own w' b7 [.q x,.f ⟨0,dB⟩]→Below b7 w w'→Q .normal a' w'):(Code.region 2 (aE pp2) true).wp prog Q a w:=by
 have hd:Below w.heap.size w w.drew:=(Below.refl _ w).drew;refine Code.wp_mono (Q:=iF fun a' w'=>a'.defers=[]∧a'.tmps.size=25∧(∀q,q<10→a'.tmps[q]?=a.tmps[q]?)∧Own w' b7 [.q x,.f ⟨0,dB⟩]∧Below b7 w w') (fun e a3 w3 h => ?_) (cG (fun wx=>True) 2 aI ?_)
 ·obtain⟨rfl,e1,e2,e3,e4,e5⟩:=h;exact hQ _ _ e1 e2 e3 e4 e5
 obtain⟨o0,ho0,hop0,hd0,hg0⟩:∃x,(aE pp2)[0]?=some x∧x.op=.slice 113 (.tmp 7) none none none∧x.dst=some 10∧x.guard=none:=⟨_,rfl,rfl,rfl,rfl⟩
 refine aD (i:=0) (v:=.slice (some ⟨b7,0,none⟩) 8 8) ho0 (by kernel_rfl) (by kernel_rfl) (by kernel_rfl) (by kernel_rfl) (fun _ _ _ h=>iM h) trivial (Uf hop0 hg0 h7) ?_;rw[hd0];obtain⟨o1,ho1,hop1,hd1,hg1⟩:∃x,(aE pp2)[1]?=some x∧x.op=.slice 72 (.tmp 3) none none none∧x.dst=some 11∧x.guard=none:=⟨_,rfl,rfl,rfl,rfl⟩
 refine aD (i:=1) (v:=.slice (some ⟨b3,0,none⟩) 4 4) ho1 (by kernel_rfl) (by kernel_rfl) (by kernel_rfl) (by kernel_rfl) (fun _ _ _ h=>iM h) trivial (Ug hop1 hg1 (aQ h3 (by decide))) ?_;rw[hd1];obtain⟨o2,ho2,hop2,hd2,hg2⟩:∃x,(aE pp2)[2]?=some x∧x.op=.call ⟨.builtin .copy,#[.tmp 10,.tmp 11],#[62,62]⟩∧x.dst=some 12∧x.guard=none:=⟨_,rfl,rfl,rfl,rfl⟩
 have g10:((a.put (some 10) (.slice (some ⟨b7,0,none⟩) 8 8)).put (some 11) (.slice (some ⟨b3,0,none⟩) 4 4)).tmps[10]?=some (.slice (some ⟨b7,0,none⟩) 8 8):=aQ (aT _ _ _ (by rw[hsz]; decide)) (by decide);have g11:((a.put (some 10) (.slice (some ⟨b7,0,none⟩) 8 8)).put (some 11) (.slice (some ⟨b3,0,none⟩) 4 4)).tmps[11]?=some (.slice (some ⟨b3,0,none⟩) 4 4):=aT _ _ _ (by simp only[aH,hsz]; decide);have gq:∀q,q<10→((a.put (some 10) (.slice (some ⟨b7,0,none⟩) 8 8)).put (some 11) (.slice (some ⟨b3,0,none⟩) 4 4)).tmps[q]?=a.tmps[q]?:=fun q hq=>by
  rw[gI _ _ _ _ (fun e=>absurd (Option.some.inj e) (by omega)),gI _ _ _ _ (fun e=>absurd (Option.some.inj e) (by omega))]
 have gz:((a.put (some 10) (.slice (some ⟨b7,0,none⟩) 8 8)).put (some 11) (.slice (some ⟨b3,0,none⟩) 4 4)).tmps.size=25:=by simp only[aH,hsz]
 have gd:((a.put (some 10) (.slice (some ⟨b7,0,none⟩) 8 8)).put (some 11) (.slice (some ⟨b3,0,none⟩) 4 4)).defers=[]:=hdf;generalize (a.put (some 10) (.slice (some ⟨b7,0,none⟩) 8 8)).put (some 11) (.slice (some ⟨b3,0,none⟩) 4 4)=c at *;refine aF (i:=2) (by kernel_rfl) ho2 fun K hK => ?_
 rw[if_pos (by simp[Region.wanted,hg2])];have hOd:=hO.on hd;have hmd:=hm.on hd;have hthere:=hOd.there (o:=0) (n:=4) (Nat.le_of_ble_eq_true rfl);have hcp:=run_copy_cells (P:=prog) w.drew 62 62 o2.type 22 b7 0 8 8 ⟨b3,0,none⟩ 4 4 (aA [At.q x]) underlying62 (by kernel_rfl) rfl (fun j v hj=>by rw[Addr.add_mid]; exact hmd.2 j v hj) (fun j hj=>(hthere j hj).1) (fun j hj=>(hthere j hj).2) (ZP x);have hrun:(execOp c.eval o2).run prog w.drew=.ok (.value (goInt (aA [At.q x]).length)) (w.drew.setCells b7 0 (aA [At.q x])):=by
  unfold execOp;simp only[hop2,resolve,invoke,builtin,Sem.run_bind,Sem.run_pure,Result.andThen_ok,List.map_toArray,List.map_cons,List.map_nil,cR g10,cR g11,hcp]
 refine cD hrun ?_;rw[hd2];have hput:put Ue 0 [.q x]=some [.q x,.f ⟨0,dB⟩]:=rfl;obtain⟨hO2,hW⟩:=hOd.set hput;refine hK.out _ _ (Or.inl rfl) fun _ => ?_
 exact bR (by kernel_rfl) ⟨rfl,gd,by rw[aH]; exact gz,fun q hq=>by rw[gI _ _ _ _ (fun e=>absurd (Option.some.inj e) (by omega))]; exact gq q hq,hO2,(hd.mono (Nat.le_of_lt hO.lt)).trans hW.below⟩
theorem Ac {a b c:Nat} (ha:a<aG) (hb:b<aG) (hc:c<aG) (w0:World):bG prog 33 (.one (.fl [.q ((a+b*c)%lJ)])) [.agg (aA [.q a]).toArray,.agg (aA [.q b]).toArray,.agg (aA [.q c]).toArray] w0:=by
 have hG:∀base w,bQ prog (qG prog) base w:=fun _ _=>(aV _).w _ _
 have hT:∀base w,∀n d:Nat,TabOkW prog T0 base w:=fun _ _ _ _=>(bP _).w _ _
 have hnt:f33.ntmps=25:=aDc;refine cM func33 (cs:=[.v (.fl [.q a]),.v (.fl [.q b]),.v (.fl [.q c])]) (args:=[.agg (aA [.q a]).toArray,.agg (aA [.q b]).toArray,.agg (aA [.q c]).toArray]) (c:=Hg) rfl ⟨rfl,rfl,rfl,trivial⟩ (Nat.le_of_ble_eq_true (by kernel_rfl)) fun x w hA => ?_
 rw[hnt]at hA;rw[Lg];refine wp_seq (aB aI (hT _ _) (hG _ _) (aJd a b c) trivial hA fun x w1 hA => ?_);unfold ppF at hA;obtain⟨b3,hA⟩:=hA.at (k:=3) (l:=[.q a]) (by simp);obtain⟨b4,hA⟩:=hA.at (k:=4) (l:=[.q b]) (by simp);obtain⟨b5,hA⟩:=hA.at (k:=5) (l:=[.q c]) (by simp);obtain⟨b6,hA⟩:=hA.at (k:=6) (l:=zC) (by simp);have m3:oldOf w1 b3 0 [.q a]:=hA.old (k:=3) (by simp) (by simp);have m4:oldOf w1 b4 0 [.q b]:=hA.old (k:=4) (by simp) (by simp);have m5:oldOf w1 b5 0 [.q c]:=hA.old (k:=5) (by simp) (by simp);have m6:Own w1 b6 zC:=hA.own (k:=6) (by simp) (by simp);have hB6:w0.heap.size≤b6:=hA.geq (k:=6) (l:=zC) (by simp) (by simp);have hbl:=hA.below;have hS:=aU (nt:=25) (w:=w1) (a:=x) (ts:=[(3,ptV b3 0),(4,ptV b4 0),(5,ptV b5 0),(6,ptV b6 0)]) hA.defers hA.size (fun z hz=>by
  simp only[List.mem_cons,List.not_mem_nil,or_false]at hz
  rcases hz with rfl|rfl|rfl|rfl
  ·exact hA.ptS (s:=3) (k:=3) (o:=0) (by simp) (by simp)
  ·exact hA.ptS (s:=4) (k:=4) (o:=0) (by simp) (by simp)
  ·exact hA.ptS (s:=5) (k:=5) (o:=0) (by simp) (by simp)
  ·exact hA.ptS (s:=6) (k:=6) (o:=0) (by simp) (by simp))
 clear hA;refine wp_seq (aB aI (hT _ _) (hG _ _) (aJc _ _ _ _) trivial hS fun x w2 hA => ?_);obtain⟨b7,hA⟩:=hA.at (k:=7) (l:=Ue) (by simp);have m7:Own w2 b7 Ue:=hA.own (k:=7) (by simp) (by simp);have hB7:w1.heap.size≤b7:=hA.geq (k:=7) (l:=Ue) (by simp) (by simp);have hb2:=hA.below;have t3:=hA.slot (s:=3) (v:=ptV b3 0) (by simp);have t4:=hA.slot (s:=4) (v:=ptV b4 0) (by simp);have t5:=hA.slot (s:=5) (v:=ptV b5 0) (by simp);have t6:=hA.slot (s:=6) (v:=ptV b6 0) (by simp);have t7:=hA.ptS (s:=7) (k:=7) (o:=0) (b:=b7) (by simp) (by simp);have hdf:=hA.defers;have hsz:=hA.size;clear hA hS;have l3:=m3.1;have l4:=m4.1;have l5:=m5.1;have l6:=m6.lt;have m32:=m3.on hb2;refine wp_seq (aDd m32 m7 (by omega) t3 t7 hdf hsz fun x' w3 d1 d2 d3 d4 hb3 => ?_);have m73:Own w3 b7 (tkL a b c 0):=d4.eq (by
  show _=aA [At.q (a%aG),.q (a/aG)];rw[Nat.mod_eq_of_lt ha,Nat.div_eq_of_lt ha];rfl)
 have hH:=m73.holds (k:=7) (nt:=25) (a:=x') (ts:=[(4,ptV b4 0),(5,ptV b5 0),(6,ptV b6 0)]) d1 d2 rfl ((d3 7 (by decide)).trans t7) (fun z hz=>by
  simp only[List.mem_cons,List.not_mem_nil,or_false]at hz
  rcases hz with rfl|rfl|rfl
  ·exact (d3 4 (by decide)).trans t4
  ·exact (d3 5 (by decide)).trans t5
  ·exact (d3 6 (by decide)).trans t6)
 have m42:=m4.on hb2;have m52:=m5.on hb2;have h4:b4<b7∧w3.rangeAt b4 0 (aA [At.q b]):=⟨by omega,(m42.below hb3 (by omega)).2⟩;have h5:b5<b7∧w3.rangeAt b5 0 (aA [At.q c]):=⟨by omega,(m52.below hb3 (by omega)).2⟩;refine wp_seq (aB aI (hT _ _) (Uk b7 w3 _ ((jL _).add func63 (by kernel_rfl) (by kernel_rfl) (Yv ha hc))) (aJb b7 w3.heap.size w3 b c b4 b5 b6 (tkL a b c) (fw b)) ⟨h4,rfl,h5,rfl,by decide,rfl,rfl,rfl,h5,rfl,by decide,rfl,rfl,rfl,h5,rfl,by decide,rfl,rfl,rfl,h5,rfl,by decide,rfl,rfl,rfl,trivial⟩ hH fun x w4 hA => ?_);clear hH;have hN:WT a b c 4=a+b*c:=aCA hb;have hlt:=LE ha hc 4 (b:=b);rw[hN]at hlt;have hA':Holds 25 b7 w3 [.slot 7 (.pt 7 0),.row 7 true [.q ((a+b*c)%aG),.q ((a+b*c)/aG)],.slot 6 (.im (ptV b6 0))] x w4:=by
  rw[←hN];exact hA
 have hlo:(a+b*c)%aG<aG:=Nat.mod_lt _ (by decide);have hhi:(a+b*c)/aG<aG:=Nat.lt_of_lt_of_le (Nat.div_lt_of_lt_mul hlt) (by decide);have hz:=RR hlo hhi;have e:(a+b*c)/aG*aG+(a+b*c)%aG=a+b*c:=by rw[Nat.mul_comm]; exact Nat.div_add_mod _ _
 rw[e]at hz;generalize (a+b*c)%lJ=r at *;generalize (a+b*c)%aG=lo at *;generalize (a+b*c)/aG=hi at *;clear hA;refine wp_seq (bK (l:=List.range' 0 ((aE pp8).extract 0 2).size++(2::[])) (by kernel_rfl) ?_);refine aJ (c:=tC _ _) (fun _=>((bP _).add func64 (by kernel_rfl) (by kernel_rfl) hz).w _ _) (hG _ _) (aJa lo hi r b6) ⟨rfl,trivial⟩ (by kernel_rfl) hA' fun x5 w5 hA => ?_
 obtain⟨o2,ho2,hop2,hd2,hg2⟩:∃x,(aE pp8)[2]?=some x∧x.op=.store 72 (.tmp 6) (.tmp 24)∧x.dst=none∧x.guard=none:=⟨_,rfl,rfl,rfl,rfl⟩
 have hb5:=hA.below;have m63:=((m6.on hb2).below hb3 (by omega)).below hb5 (by omega);obtain⟨hR,hW⟩:=m63.set (o:=0) (p:=[.q r]) (l':=[.q r]) rfl;refine bE ho2 hg2 (fL (vs:=aA [.q r]) hop2 hd2 (cR (hA.slot (s:=6) (v:=ptV b6 0) (by simp))) (cR (hA.slotF (s:=24) (by simp))) rfl (qE _) Vm (m63.there (o:=0) (n:=4) (Nat.le_of_ble_eq_true rfl)) ?_);have hH:=hR.holds (k:=6) (nt:=25) (a:=x5) (ts:=[]) hA.defers hA.size rfl (hA.slot (s:=6) (v:=ptV b6 0) (by simp)) (fun x hx=>by cases hx);have hs1:=hbl.size;exact wp_ret (cN (l:=[.fl [.q r]]) (r:=.one (.fl [.q r])) (by kernel_rfl) (by kernel_rfl) hH ⟨rfl,(((hbl.trans (hb2.mono hs1)).trans (hb3.mono (by omega))).trans (hb5.mono (by omega))).trans (hW.below.mono hB6)⟩)
abbrev NS:=NP×Nat
def eZ (s:NS):List At:=[.q s.1.1,.q s.1.2,.q s.2]
def yG (s:NS):Int:=if gM s.1=0 then (if s.2<lJ then 0 else 4)else gM s.1
def Gt (c:Int) (z:Bool):Tab:=((((PS.add 41 (Dm c)).add 40 (Od z)).add 77 (aER true)).add 78 (aEU true)).add 31 gTb
theorem QW (c:Int) (z:Bool):TabOk prog (Gt c z):=((((AC.add func41 (by kernel_rfl) (by kernel_rfl) (vQ mX c)).add func40 (by kernel_rfl) (by kernel_rfl) (aAl z)).add func77 (by kernel_rfl) (by kernel_rfl) (Nu NB true)).add func78 (by kernel_rfl) (by kernel_rfl) (Oe PO true)).add func31 (by kernel_rfl) (by kernel_rfl) aFr
theorem Pv (s:NS) (c:Int):cH prog (qG prog) (fun _=>⟨fun _=>Gt c true,fun _=>true,assoc [(8,.bool true)]⟩) f34 60 [.v (.fl (eZ s))]=some ([s.1.1<aG,s.1.2<aG,gM s.1=c,aN .neq .i64 c 0=some (.bool true)],.one (.im (.int .i64 c))):=by kernel_rfl
theorem Pu (s:NS):cH prog (qG prog) (fun _=>⟨fun _=>Gt 0 false,fun _=>true,fun _=>none⟩) f34 60 [.v (.fl (eZ s))]=some ([s.1.1<aG,s.1.2<aG,gM s.1=0,s.2<aG,decide (s.2<lJ)=false],.one (.im (.int .i64 4))):=by kernel_rfl
theorem Ps (s:NS):cH prog (qG prog) (fun _=>⟨fun _=>Gt 0 true,fun _=>true,fun _=>none⟩) f34 60 [.v (.fl (eZ s))]=some ([s.1.1<aG,s.1.2<aG,gM s.1=0,s.2<aG,decide (s.2<lJ)=true],.one (.im (.int .i64 0))):=by kernel_rfl
theorem CW {k:Int} (h:k≠0):aN .neq .i64 k 0=some (.bool true):=by
 show some (Value.bool (k != 0))=_;rw[bne_iff_ne.2 h]
theorem VS (s:NS) (h1:s.1.1<aG) (h2:s.1.2<aG) (h3:s.2<aG) (args:List Value) (w:World) (ha:cP w [.v (.fl (eZ s))] args):bG prog 34 (.one (.im (.int .i64 (yG s)))) args w:=by
 unfold yG;split
 ·rename_i h0;split
  ·exact aK aI (fun _ _=>QW 0 true) (aV _) func34 (Ps s) ⟨h1,h2,h0,h3,decide_eq_true (by assumption),trivial⟩ ha
  ·exact aK aI (fun _ _=>QW 0 false) (aV _) func34 (Pu s) ⟨h1,h2,h0,h3,decide_eq_false (by assumption),trivial⟩ ha
 ·exact aK aI (fun _ _=>QW _ true) (aV _) func34 (Pv s _) ⟨h1,h2,rfl,CW (by assumption),trivial⟩ ha
def Oc (c:Int):gE
 | [.v (.fl l)]=>match IM l with
  | some [a,b,d]=>some ([a<aG,b<aG,d<aG,yG ((a,b),d)=c,aA l=aA (eZ ((a,b),d))],.one (.im (.int .i64 c)))
  | _=>none
 | _=>none
theorem Ti (c:Int):∀cs pre r,Oc c cs=some (pre,r)→bC pre→∀(args:List Value) (w:World),cP w cs args→bG prog 34 r args w:=by
 intro cs pre r hg hp args w ha;unfold Oc at hg;split at hg
 ·rename_i l;split at hg
  ·rename_i a b d hn;cases hg;obtain⟨p1,p2,p3,p4,p5,_⟩:=hp;subst p4
   match args,ha with
   | [x],ha =>
    have e1:x=.agg (aA l).toArray:=ha.1;subst e1;rw[p5];exact VS ((a,b),d) p1 p2 p3 _ w ⟨rfl,trivial⟩
   | [],ha=>exact ha.elim
   | _::_::_,ha=>exact ha.2.elim
  ·cases hg
 ·cases hg
def KU (p:NP) (h s:Nat):NS:=(EG (pN s) (nZ (lS p) h),s)
theorem Ym (p:NP) (h s:Nat):cH prog (qG prog) (fun _=>⟨fun _=>Gt 0 true,fun _=>true,fun _=>none⟩) f42 60 [.v (.fl [.q p.1,.q p.2]),.v (.fl [.q h]),.v (.fl [.q s])]=some ([p.1<aG,p.2<aG,jR p.1 p.2=true,(lS p).1<aG,(lS p).2<aG,jR (lS p).1 (lS p).2=true,(pN s).1<aG,(pN s).2<aG,(nZ (lS p) h).1<aG,(nZ (lS p) h).2<aG,(jR (pN s).1 (pN s).2&&jR (nZ (lS p) h).1 (nZ (lS p) h).2)=true],.one (.fl (eZ (KU p h s)))):=by kernel_rfl
theorem tU {p:NP} (h:OnJ p.1 p.2):p.1<aG∧p.2<aG:=OnJ.w h
theorem nT {p:NP} (h:OnJ p.1 p.2):OnJ (lS p).1 (lS p).2:=by rw[RB h]; exact lD _
theorem xB {p:NP} (h:OnJ p.1 p.2) (n:Nat):OnJ (nZ p n).1 (nZ p n).2:=by rw[CX h]; exact lD _
theorem Cy {p:NP} (hp:OnJ p.1 p.2) (h s:Nat) (args:List Value) (w:World) (ha:cP w [.v (.fl [.q p.1,.q p.2]),.v (.fl [.q h]),.v (.fl [.q s])] args):bG prog 42 (.one (.fl (eZ (KU p h s)))) args w :=
 aK aI (fun _ _=>QW 0 true) (aV _) func42 (Ym p h s) ⟨(tU hp).1,(tU hp).2,AB hp,(tU (nT hp)).1,(tU (nT hp)).2,AB (nT hp),(tU (sG s)).1,(tU (sG s)).2,(tU (xB (nT hp) h)).1,(tU (xB (nT hp) h)).2,by rw[AB (sG s),AB (xB (nT hp) h)]; rfl,trivial⟩ ha
def Dk (p:NP) (h s:Nat) (t:NS):gE
 | [.v (.fl l),.v (.fl m),.v (.fl k)]=>some ([aA l=aA [At.q p.1,.q p.2],aA m=aA [At.q h],aA k=aA [At.q s]],.one (.fl (eZ t)))
 | _=>none
theorem Nx {p:NP} (hp:OnJ p.1 p.2) (h s:Nat):∀cs pre r,Dk p h s (KU p h s) cs=some (pre,r)→bC pre→∀(args:List Value) (w:World),cP w cs args→bG prog 42 r args w:=by
 intro cs pre r hg hq args w ha;unfold Dk at hg;split at hg
 ·rename_i l m k;cases hg;obtain⟨p1,p2,p3,_⟩:=hq
  match args,ha with
  | [x,y,z],ha =>
   have e1:x=.agg (aA l).toArray:=ha.1;have e2:y=.agg (aA m).toArray:=ha.2.1;have e3:z=.agg (aA k).toArray:=ha.2.2.1;subst e1; subst e2; subst e3;rw[p1,p2,p3];exact Cy hp h s _ w ⟨rfl,rfl,rfl,trivial⟩
  | [],ha=>exact ha.elim
  | [_],ha=>exact ha.2.elim
  | [_,_],ha=>exact ha.2.2.elim
  | _::_::_::_::_,ha=>exact ha.2.2.2.elim
 ·cases hg
def UT (r k:NP) (v:Value) (h:Nat):gE
 | [.v (.fl l),.v (.fl m),.v (.im u)]=>some ([aA l=aA [At.q r.1,.q r.2],aA m=aA [At.q k.1,.q k.2],u=v],.one (.fl [.q h]))
 | _=>none
theorem RS {r k:NP} {w:World} {v:Value} {N:Nat} {fm:Nat→Nat} (hb:BV w v N fm) (hN:N≤4096) (hr:OnJ r.1 r.2) (hk:OnJ k.1 k.2) (hDj:Dbj w):∀cs pre q,UT r k v (SE r k fm N) cs=some (pre,q)→bC pre→∀(args:List Value),cP w cs args→bG prog 32 q args w:=by
 intro cs pre q hg hq args ha;unfold UT at hg;split at hg
 ·rename_i l m u;cases hg;obtain⟨p1,p2,p3,_⟩:=hq
  match args,ha with
  | [x,y,z],ha =>
   have e1:x=.agg (aA l).toArray:=ha.1;have e2:y=.agg (aA m).toArray:=ha.2.1;have e3:z=u:=ha.2.2.1;subst e1; subst e2; subst e3; subst p3;rw[p1,p2];exact OV hb hN hr.1.1 hr.1.2 hk.1.1 hk.1.2 hDj
  | [],ha=>exact ha.elim
  | [_],ha=>exact ha.2.elim
  | [_,_],ha=>exact ha.2.2.elim
  | _::_::_::_::_,ha=>exact ha.2.2.2.elim
 ·cases hg
def Ze (s:Nat) (v:Value) (h:Nat):gE
 | [.v (.fl l),.v (.im u)]=>some ([aA l=aA [At.q s],u=v],.one (.fl [.q h]))
 | _=>none
theorem Nt {s:Nat} {w:World} {v:Value} {N:Nat} {fm:Nat→Nat} (hb:BV w v N fm) (hN:N≤4096) (hs:s<RM) (hDj:Dbj w):∀cs pre q,Ze s v (WU s fm N) cs=some (pre,q)→bC pre→∀(args:List Value),cP w cs args→bG prog 30 q args w:=by
 intro cs pre q hg hq args ha;unfold Ze at hg;split at hg
 ·rename_i l u;cases hg;obtain⟨p1,p3,_⟩:=hq
  match args,ha with
  | [x,z],ha =>
   have e1:x=.agg (aA l).toArray:=ha.1;have e3:z=u:=ha.2.1;subst e1; subst e3; subst p3;rw[p1];exact IJ hb hN hs hDj
  | [],ha=>exact ha.elim
  | [_],ha=>exact ha.2.elim
  | _::_::_::_,ha=>exact ha.2.2.elim
 ·cases hg
def Zb (a b c r:Nat):gE
 | [.v (.fl l),.v (.fl m),.v (.fl k)]=>some ([aA l=aA [At.q a],aA m=aA [At.q b],aA k=aA [At.q c]],.one (.fl [.q r]))
 | _=>none
theorem Nq {a b c:Nat} (h1:a<aG) (h2:b<aG) (h3:c<aG):∀cs pre r,Zb a b c ((a+b*c)%lJ) cs=some (pre,r)→bC pre→∀(args:List Value) (w:World),cP w cs args→bG prog 33 r args w:=by
 intro cs pre r hg hq args w ha;unfold Zb at hg;split at hg
 ·rename_i l m k;cases hg;obtain⟨p1,p2,p3,_⟩:=hq
  match args,ha with
  | [x,y,z],ha =>
   have e1:x=.agg (aA l).toArray:=ha.1;have e2:y=.agg (aA m).toArray:=ha.2.1;have e3:z=.agg (aA k).toArray:=ha.2.2.1;subst e1; subst e2; subst e3;rw[p1,p2,p3];exact Ac h1 h2 h3 w
  | [],ha=>exact ha.elim
  | [_],ha=>exact ha.2.elim
  | [_,_],ha=>exact ha.2.2.elim
  | _::_::_::_::_,ha=>exact ha.2.2.2.elim
 ·cases hg
def Gs (c d:Int) (z:Bool) (ch ho:gE):Tab:=((((PS.add 41 (Dm d)).add 34 (Oc c)).add 29 (gLo z)).add 32 ch).add 42 ho
theorem aIA (k:NP) (s:NS) (p:Option Addr) (n m:Nat):cH prog (qG prog) (fun _=>⟨fun _=>Gs 4 0 false (fun _=>none) (fun _=>none),fun _=>true,fun _=>none⟩) f13 60 [.v (.fl [.q k.1,.q k.2]),.v (.im (.slice p n m)),.v (.fl (eZ s))]=some ([k.1<aG,k.2<aG,gM k=0,s.1.1<aG,s.1.2<aG,s.2<aG,yG s=4,aA (eZ s)=aA (eZ s)],.one (.im (.int .i64 4))):=by kernel_rfl
theorem aIz (k:NP) (s:NS) (p:Option Addr) (n m:Nat):cH prog (qG prog) (fun _=>⟨fun _=>Gs 0 0 true (fun _=>none) (fun _=>none),fun _=>true,fun _=>none⟩) f13 60 [.v (.fl [.q k.1,.q k.2]),.v (.im (.slice p n m)),.v (.fl (eZ s))]=some ([k.1<aG,k.2<aG,gM k=0,s.1.1<aG,s.1.2<aG,s.2<aG,yG s=0,aA (eZ s)=aA (eZ s),decide (4096<n)=true],.one (.im (.int .i64 5))):=by kernel_rfl
theorem aIy (k:NP) (s t:NS) (p:Option Addr) (n m h:Nat):cH prog (qG prog) (fun _=>⟨fun _=>Gs 0 0 false (UT s.1 k (.slice p n m) h) (Dk k h s.2 t),fun _=>true,fun _=>none⟩) f13 60 [.v (.fl [.q k.1,.q k.2]),.v (.im (.slice p n m)),.v (.fl (eZ s))]=some ([k.1<aG,k.2<aG,gM k=0,s.1.1<aG,s.1.2<aG,s.2<aG,yG s=0,aA (eZ s)=aA (eZ s),decide (4096<n)=false,aA [At.q s.1.1,.q s.1.2]=aA [At.q s.1.1,.q s.1.2],aA [At.q k.1,.q k.2]=aA [At.q k.1,.q k.2],Value.slice p n m=Value.slice p n m,aA [At.q k.1,.q k.2]=aA [At.q k.1,.q k.2],aA [At.q h]=aA [At.q h],aA [At.q s.2]=aA [At.q s.2],aA (eZ s)=aA (eZ t)],.one (.im (.int .i64 0))):=by kernel_rfl
theorem aIx (k:NP) (s t:NS) (p:Option Addr) (n m h:Nat):cH prog (qG prog) (fun _=>⟨fun _=>Gs 0 0 false (UT s.1 k (.slice p n m) h) (Dk k h s.2 t),fun _=>false,fun _=>none⟩) f13 60 [.v (.fl [.q k.1,.q k.2]),.v (.im (.slice p n m)),.v (.fl (eZ s))]=some ([k.1<aG,k.2<aG,gM k=0,s.1.1<aG,s.1.2<aG,s.2<aG,yG s=0,aA (eZ s)=aA (eZ s),decide (4096<n)=false,aA [At.q s.1.1,.q s.1.2]=aA [At.q s.1.1,.q s.1.2],aA [At.q k.1,.q k.2]=aA [At.q k.1,.q k.2],Value.slice p n m=Value.slice p n m,aA [At.q k.1,.q k.2]=aA [At.q k.1,.q k.2],aA [At.q h]=aA [At.q h],aA [At.q s.2]=aA [At.q s.2],aA (eZ s)≠aA (eZ t)],.one (.im (.int .i64 122))):=by kernel_rfl
def Qz (y z:Bool) (ch no pp:gE):Tab:=((((Rc y).add 29 (gLo z)).add 32 ch).add 30 no).add 33 pp
def vW:List At:=[.f ⟨0,dB⟩,.f ⟨0,dB⟩,.f ⟨0,dB⟩]
theorem aIF (s:Nat) (p:Option Addr) (n m k h q:Nat):cH prog (qG prog) (fun _=>⟨fun _=>Qz true false (UT (pN k) (pN s) (.slice p n m) h) (Ze s (.slice p n m) k) (Zb k h s q),fun _=>true,fun _=>none⟩) f9 60 [.v (.fl [.q s]),.v (.im (.slice p n m))]=some ([s<aG,jI s=true,decide (4096<n)=false,aA [At.q s]=aA [At.q s],Value.slice p n m=Value.slice p n m,aA [At.q (pN k).1,.q (pN k).2]=aA [At.q (pN k).1,.q (pN k).2],aA [At.q (pN s).1,.q (pN s).2]=aA [At.q (pN s).1,.q (pN s).2],Value.slice p n m=Value.slice p n m,aA [At.q k]=aA [At.q k],aA [At.q h]=aA [At.q h],aA [At.q s]=aA [At.q s]],.many [.fl (eZ (pN k,q)),.im (.int .i64 0)]):=by kernel_rfl
theorem aIE (s:Nat) (p:Option Addr) (n m:Nat):cH prog (qG prog) (fun _=>⟨fun _=>Qz true true (fun _=>none) (fun _=>none) (fun _=>none),fun _=>true,fun _=>none⟩) f9 60 [.v (.fl [.q s]),.v (.im (.slice p n m))]=some ([s<aG,jI s=true,decide (4096<n)=true],.many [.fl vW,.im (.int .i64 5)]):=by kernel_rfl
theorem aID (s:Nat) (p:Option Addr) (n m:Nat):cH prog (qG prog) (fun _=>⟨fun _=>Qz false true (fun _=>none) (fun _=>none) (fun _=>none),fun _=>true,fun _=>none⟩) f9 60 [.v (.fl [.q s]),.v (.im (.slice p n m))]=some ([s<aG,jI s=false],.many [.fl vW,.im (.int .i64 121)]):=by kernel_rfl
theorem iW {f:Nat}:∀w:World,∀cs pre r,(fun _:List CA=>(none:Option (List Prop×RV))) cs=some (pre,r)→bC pre→∀(args:List Value),cP w cs args→bG prog f r args w:=fun _ _ _ _ h=>nomatch h
theorem QC {w:World} {c d:Int} {z:Bool} {ch ho:gE} (h1:∀w',Below w.heap.size w w'→∀cs pre r,ch cs=some (pre,r)→bC pre→∀(args:List Value),cP w' cs args→bG prog 32 r args w')
  (h2:∀w',Below w.heap.size w w'→∀cs pre r,ho cs=some (pre,r)→bC pre→∀(args:List Value),cP w' cs args→bG prog 42 r args w'):TabOkW prog (Gs c d z ch ho) w.heap.size w :=
 TabOkW.add (TabOkW.add ((((AC.add func41 (by kernel_rfl) (by kernel_rfl) (vQ mX d)).add func34 (by kernel_rfl) (by kernel_rfl) (Ti c)).add func29 (by kernel_rfl) (by kernel_rfl) (aFx z)).w _ _) func32 (by kernel_rfl) (by kernel_rfl) h1) func42 (by kernel_rfl) (by kernel_rfl) h2
theorem ZB {w:World} {y z:Bool} {ch no pp:gE} (h1:∀w',Below w.heap.size w w'→∀cs pre r,ch cs=some (pre,r)→bC pre→∀(args:List Value),cP w' cs args→bG prog 32 r args w')
  (h2:∀w',Below w.heap.size w w'→∀cs pre r,no cs=some (pre,r)→bC pre→∀(args:List Value),cP w' cs args→bG prog 30 r args w')
  (h3:∀w',Below w.heap.size w w'→∀cs pre r,pp cs=some (pre,r)→bC pre→∀(args:List Value),cP w' cs args→bG prog 33 r args w'):TabOkW prog (Qz y z ch no pp) w.heap.size w :=
 TabOkW.add (TabOkW.add (TabOkW.add (((As y).add func29 (by kernel_rfl) (by kernel_rfl) (aFx z)).w _ _) func32 (by kernel_rfl) (by kernel_rfl) h1) func30 (by kernel_rfl) (by kernel_rfl) h2) func33 (by kernel_rfl) (by kernel_rfl) h3
theorem kV {p:NP} (h:gM p=0):OnJ p.1 p.2:=by
 apply Classical.byContradiction;intro hn;rw[JY hn]at h;exact absurd h (by decide)
theorem aGC {p:NP} (h:gM p=0):p.1<aG∧p.2<aG:=tU (kV h)
theorem Wl {s t:NS} (h1:s.1.1<aG) (h2:s.1.2<aG) (h3:s.2<aG) (t1:t.1.1<aG) (t2:t.1.2<aG) (t3:t.2<aG):aA (eZ s)=aA (eZ t)↔s=t:=by
 constructor
 ·intro h;have h':w4 s.1.1++(w4 s.1.2++(w4 s.2++[]))=w4 t.1.1++(w4 t.1.2++(w4 t.2++[])):=h;have l:∀x y:Nat,(w4 x).length=(w4 y).length:=fun _ _=>rfl
  obtain⟨a1,h'⟩:=List.append_inj h' (l _ _);obtain⟨a2,h'⟩:=List.append_inj h' (l _ _);obtain⟨a3,_⟩:=List.append_inj h' (l _ _);have f:∀x y:Nat,w4 x=w4 y→aA [At.q x]=aA [At.q y]:=fun x y e=>by
   show w4 x++[]=w4 y++[];rw[e]
  have e1:=(vI h1 t1).1 (f _ _ a1);have e2:=(vI h2 t2).1 (f _ _ a2);have e3:=(vI h3 t3).1 (f _ _ a3);exact Prod.ext (Prod.ext e1 e2) e3
 ·rintro rfl
  rfl
theorem Yp {k:NP} (hk:OnJ k.1 k.2) (h s:Nat):OnJ (KU k h s).1.1 (KU k h s).1.2:=by
 have e:(KU k h s).1=cj (fB.grp.add (jp (sG s)) (jp (xB (nT hk) h))):=SN (p:=pN s) (q:=nZ (lS k) h) (sG s) (xB (nT hk) h);rw[e];exact lD _
theorem aEz (k:NP) (h s:Nat):(KU k h s).2=s:=rfl
theorem JX {s:NS} (hs:yG s=0):gM s.1=0:=by
 unfold yG at hs;split at hs
 ·assumption
 ·exact hs
def vfN (k:NP) (fm:Nat→Nat) (N:Nat) (s:NS):Int:=if yG s=4 then 4 else if 4096<N then 5 else by classical exact if s=KU k (SE s.1 k fm N) s.2 then 0 else 122
theorem BN {w:World} {p:Option Addr} {N m:Nat} {fm:Nat→Nat} {k:NP} {s:NS} (hb:BV w (.slice p N m) N fm) (hk:gM k=0) (h1:s.1.1<aG) (h2:s.1.2<aG) (h3:s.2<aG) (hs:yG s=4∨yG s=0) (hDj:Dbj w) :
  bG prog 13 (.one (.im (.int .i64 (vfN k fm N s)))) [.agg (aA [At.q k.1,.q k.2]).toArray,.slice p N m,.agg (aA (eZ s)).toArray] w:=by
 have hG:bQ prog (qG prog) w.heap.size w:=(aV _).w _ _;have hkw:=aGC hk;have ha:cP w [.v (.fl [.q k.1,.q k.2]),.v (.im (.slice p N m)),.v (.fl (eZ s))] [.agg (aA [At.q k.1,.q k.2]).toArray,.slice p N m,.agg (aA (eZ s)).toArray]:=⟨rfl,rfl,rfl,trivial⟩;unfold vfN
 rcases hs with hs|hs
 ·rw[if_pos hs];exact bZ aI (fun _ _=>QC (fun w' _=>iW w') (fun w' _=>iW w')) hG func13 (aIA k s p N m) ⟨hkw.1,hkw.2,hk,h1,h2,h3,hs,rfl,trivial⟩ ha
 ·have hsr:=JX hs;rw[if_neg (by rw[hs]; decide)];split
  ·rename_i hN;exact bZ aI (fun _ _=>QC (fun w' _=>iW w') (fun w' _=>iW w')) hG func13 (aIz k s p N m) ⟨hkw.1,hkw.2,hk,h1,h2,h3,hs,rfl,decide_eq_true hN,trivial⟩ ha
  ·rename_i hN;have hN':N≤4096:=by omega
   have hch:∀w',Below w.heap.size w w'→∀cs pre r,UT s.1 k (.slice p N m) (SE s.1 k fm N) cs=some (pre,r)→bC pre→∀(args:List Value),cP w' cs args→bG prog 32 r args w':=fun w' hw=>RS (hb.on hw) hN' (kV hsr) (kV hk) (hDj.on hDj.lt hw)
   have hho:∀w',Below w.heap.size w w'→∀cs pre r,Dk k (SE s.1 k fm N) s.2 (KU k (SE s.1 k fm N) s.2) cs=some (pre,r)→bC pre→∀(args:List Value),cP w' cs args→bG prog 42 r args w':=fun w' _ cs pre r hg hp args ha=>Nx (kV hk) _ _ cs pre r hg hp args w' ha
   generalize SE s.1 k fm N=h at *;have hon:=tU (Yp (kV hk) h s.2);have h32:(KU k h s.2).2<aG:=by rw[aEz]; exact h3
   generalize KU k h s.2=t at *;have hiff:=Wl h1 h2 h3 hon.1 hon.2 h32;split
   ·rename_i he;exact bZ aI (fun _ _=>QC hch hho) hG func13 (aIy k s t p N m h) ⟨hkw.1,hkw.2,hk,h1,h2,h3,hs,rfl,decide_eq_false hN,rfl,rfl,rfl,rfl,rfl,rfl,hiff.2 he,trivial⟩ ha
   ·rename_i he;exact bZ aI (fun _ _=>QC hch hho) hG func13 (aIx k s t p N m h) ⟨hkw.1,hkw.2,hk,h1,h2,h3,hs,rfl,decide_eq_false hN,rfl,rfl,rfl,rfl,rfl,rfl,fun q=>he (hiff.1 q),trivial⟩ ha
def wH (s:Nat) (fm:Nat→Nat) (N:Nat):NS:=(pN (WU s fm N),(WU s fm N+SE (pN (WU s fm N)) (pN s) fm N*s)%lJ)
theorem Bb (s:Nat) (fm:Nat→Nat) (N:Nat):WU s fm N<lJ:=Ei _ _ _ _
theorem OW (r k:NP) (fm:Nat→Nat) (N:Nat):SE r k fm N<lJ:=Ei _ _ _ _
def Jn (s N:Nat):Int:=if jI s=true then (if 4096<N then 5 else 0)else 121
theorem pZ {w:World} {p:Option Addr} {N m s:Nat} {fm:Nat→Nat} (hb:BV w (.slice p N m) N fm) (hs:s<aG) (hDj:Dbj w) :
  bG prog 9 (if Jn s N=0 then .many [.fl (eZ (wH s fm N)),.im (.int .i64 0)]else .many [.fl vW,.im (.int .i64 (Jn s N))]) [.agg (aA [At.q s]).toArray,.slice p N m] w:=by
 have hG:bQ prog (qG prog) w.heap.size w:=(aV _).w _ _;have ha:cP w [.v (.fl [.q s]),.v (.im (.slice p N m))] [.agg (aA [At.q s]).toArray,.slice p N m]:=⟨rfl,rfl,trivial⟩;unfold Jn
 by_cases hz:jI s=true
 ·have hsl:s<lJ:=(of_decide_eq_true hz).2;simp only[if_pos hz]
  by_cases hN:4096<N
  ·simp only[if_pos hN];rw[if_neg (by decide)];exact bZ aI (fun _ _=>ZB (fun w' _=>iW w') (fun w' _=>iW w') (fun w' _=>iW w')) hG func9 (aIE s p N m) ⟨hs,hz,decide_eq_true hN,trivial⟩ ha
  ·simp only[if_neg hN,if_true];have hN':N≤4096:=by omega
   exact bZ aI (fun _ _=>ZB (fun w' hw=>RS (hb.on hw) hN' (sG _) (sG _) (hDj.on hDj.lt hw)) (fun w' hw=>Nt (hb.on hw) hN' (Nat.lt_trans hsl (by decide)) (hDj.on hDj.lt hw)) (fun w' _ cs pre r hg hp args ha=>Nq (Nat.lt_trans (Bb _ _ _) NE) (Nat.lt_trans (OW _ _ _ _) NE) hs cs pre r hg hp args w' ha)) hG func9 (aIF s p N m (WU s fm N) (SE (pN (WU s fm N)) (pN s) fm N) _) ⟨hs,hz,decide_eq_false hN,rfl,rfl,rfl,rfl,rfl,rfl,rfl,rfl,trivial⟩ ha
 ·simp only[if_neg hz];rw[if_neg (by decide)];exact bZ aI (fun _ _=>ZB (fun w' _=>iW w') (fun w' _=>iW w') (fun w' _=>iW w')) hG func9 (aID s p N m) ⟨hs,by simpa using hz,trivial⟩ ha
theorem aDb:eI lJ:=cL
theorem Tm:cj JB=(bX,bY):=Prod.ext (aJv zL) (aEb zL)
theorem aEd:JB≠fB.grp.zero:=fun h=>by
 have h1:(cj JB).1=(cj fB.grp.zero).1:=by rw[h]
 rw[Tm]at h1;have h2:(cj fB.grp.zero).1=0:=by kernel_rfl
 rw[h2]at h1;exact absurd h1 (by decide)
theorem Sk {g:JP} (h0:fB.grp.ns lJ g=fB.grp.zero) (h:g≠fB.grp.zero):∀k,0<k→k<lJ→fB.grp.ns k g≠fB.grp.zero :=
 fB.grp.exact (l:=[lJ]) (Nat.mul_one lJ) (fun q hq=>by rw[List.mem_singleton.1 hq]; exact aDb) h0 fun q hq=>by
  rw[List.mem_singleton.1 hq,Nat.div_self DB,fB.grp.ns_one];exact h
theorem aKy:∀k,0<k→k<lJ→fB.grp.ns k JB≠fB.grp.zero:=Sk SH aEd
theorem QU {n:Nat} (h:n<aG):pN n=cj (fB.grp.ns n JB):=by
 have:=Ak n;rw[show wv n=n from fG h]at this;exact this
theorem aJj:pN 1=(bX,bY):=by rw[QU (by decide),fB.grp.ns_one,Tm]
theorem Yo {s k h S:Nat} (hs:s<aG) (hk:k<aG) (hh:h<aG) (hS:S<aG):(KU (pN s) h S).1=pN k↔fB.grp.ns S JB=fB.grp.ns (k+s*h) JB:=by
 have e:(KU (pN s) h S).1=cj (fB.grp.add (fB.grp.ns S JB) (fB.grp.neg (fB.grp.ns (s*h) JB))):=by
  show EG (pN S) (nZ (lS (pN s)) h)=_;rw[QU hs,QU hS,aJm,aJp,show wv h=h from fG hh,aHq,fB.grp.ns_neg,←fB.grp.ns_mul]
 rw[e,QU hk,fB.grp.ns_add];constructor
 ·intro h;have h:=aAI h;rw[←h,fB.grp.assoc,fB.grp.nadd,fB.grp.addz]
 ·intro h;rw[h,fB.grp.assoc,fB.grp.addn,fB.grp.addz]
theorem Jq {s:Nat} (h:jI s=true):0<s∧s<lJ:=by
 have:=of_decide_eq_true h;exact⟨Nat.pos_of_ne_zero this.1,this.2⟩
theorem aCU (s:Nat) (fm:Nat→Nat) (N:Nat):fB.grp.ns (wH s fm N).2 JB=fB.grp.ns (WU s fm N+s*SE (wH s fm N).1 (pN s) fm N) JB:=by
 show fB.grp.ns ((WU s fm N+SE (wH s fm N).1 (pN s) fm N*s)%lJ) JB=_;rw[fB.grp.ns_modz SH,Nat.mul_comm]
theorem YZ (s:Nat) (fm:Nat→Nat) (N:Nat):(wH s fm N).2<lJ:=Nat.mod_lt _ DB
theorem aCV (s:Nat) (fm:Nat→Nat) (N:Nat):yG (wH s fm N)=0:=by
 unfold yG;rw[if_pos (show gM (wH s fm N).1=0 from Al _),if_pos (YZ s fm N)]
theorem aIH (s:Nat) (fm:Nat→Nat) (N:Nat):(wH s fm N).1=pN (WU s fm N):=rfl
theorem Jm {s:Nat} {fm:Nat→Nat} {N h':Nat} (hs:jI s=true) (hh:h'<lJ):wH s fm N=KU (pN s) h' (wH s fm N).2↔SE (wH s fm N).1 (pN s) fm N=h':=by
 obtain⟨s0,sl⟩:=Jq hs;have lw:∀{x:Nat},x<lJ→x<aG:=fun h=>Nat.lt_trans h NE
 have h1:wH s fm N=KU (pN s) h' (wH s fm N).2↔(KU (pN s) h' (wH s fm N).2).1=pN (WU s fm N):=by
  rw[←aIH s fm N];constructor
  ·intro e; exact (congrArg Prod.fst e).symm
  ·intro e; exact Prod.ext e.symm rfl
 rw[h1,Yo (lw sl) (lw (Bb _ _ _)) (lw hh) (lw (YZ _ _ _)),aCU];have hc:=OW (wH s fm N).1 (pN s) fm N;generalize SE (wH s fm N).1 (pN s) fm N=h at *;constructor
 ·intro e;rw[fB.grp.ns_add,fB.grp.ns_add]at e;have e:=fB.grp.cancel e;rw[fB.grp.ns_mul,fB.grp.ns_mul]at e;refine fB.grp.ns_inj (Sk ?_ (aKy s s0 sl)) hc hh e;rw[←fB.grp.ns_mul,Nat.mul_comm,fB.grp.ns_mul,SH,fB.grp.ns_zero]
 ·rintro rfl
  rfl
theorem Kb (v:Value):cH prog (qG prog) (fun _=>⟨fun _=>T0,fun _=>true,fun _=>none⟩) f26 60 [.v (.im v)]=some ([],.one (.im v)):=by kernel_rfl
theorem aFw:∀cs pre r,Zf cs=some (pre,r)→bC pre→∀(args:List Value) (w:World),cP w cs args→bG prog 26 r args w:=by
 intro cs pre r hg hp args w ha;unfold Zf at hg;split at hg
 ·rename_i v;cases hg;exact aK aI (fun _ _=>bP _) (aV prog) func26 (Kb v) trivial ha
 ·cases hg
def Tx:Tab:=T0.add 88 Zc
theorem Xu:TabOk prog Tx:=(bP _).add func88 (by kernel_rfl) (by kernel_rfl) aFt
theorem Ay (s:ByteArray):cH prog (qG prog) (fun n=>⟨fun _=>Tx,fun _=>true,fun _=>none⟩) f59 60 [.v (.im (.string s))]=some ([s.size≤maxLen],.one (.fl [.q (eV s.data.toList).1])):=by kernel_rfl
theorem aAj:∀cs pre r,Dj cs=some (pre,r)→bC pre→∀(args:List Value) (w:World),cP w cs args→bG prog 59 r args w:=by
 intro cs pre r hg hp args w ha;unfold Dj at hg;split at hg
 ·rename_i s;cases hg;exact aK aI (fun _ _=>Xu) (aV _) func59 (Ay s) hp ha
 ·cases hg
def Tu:Tab:=T0.add 59 Dj
theorem Xs:TabOk prog Tu:=(bP _).add func59 (by kernel_rfl) (by kernel_rfl) aAj
theorem MF:cH prog (qG prog) (fun n=>⟨fun _=>Tu,fun _=>true,fun _=>none⟩) f27 60 []=some ([aFO.size≤maxLen,dgY.size≤maxLen],.one (.fl [.q bX,.q bY])):=by kernel_rfl
theorem Kq (w:World):bG prog 27 (.one (.fl [.q bX,.q bY])) [] w:=aK aI (fun _ _=>Xs) (aV _) func27 MF ⟨aFQ,aFP,trivial⟩ (args:=[]) trivial
def Tt (z y:Bool) (m:Nat):Nat→Tab:=fun s=>((T0.add 26 Zf).add 27 (g0 (.one (.fl [.q bX,.q bY])))).add 10 (gPu (bif Nat.blt s m then z else y))
theorem Xr (z y:Bool) (m s:Nat):TabOk prog (Tt z y m s):=(((bP _).add func26 (by kernel_rfl) (by kernel_rfl) aFw).add func27 (by kernel_rfl) (by kernel_rfl) (uU Kq)).add func10 (by kernel_rfl) (by kernel_rfl) (aAi _)
theorem Up:cH prog (qG prog) (fun _=>⟨Tt true false 8,fun _=>true,fun _=>none⟩) f8 60 []=some ([1<aG,jI 1=true,0<aG,jI 0=false,aA [At.q (pN 1).1,.q (pN 1).2]=aA [At.q bX,.q bY]],.one (.im (.bool true))):=by kernel_rfl
theorem XL (w:World):bG prog 8 (.one (.im (.bool true))) [] w :=
 aK aI (fun _ s=>Xr true false 8 s) (aV _) func8 Up ⟨by decide,decide_eq_true ⟨by decide,by decide⟩,by decide,decide_eq_false (fun h=>h.1 rfl),by rw[aJj],trivial⟩ (args:=[]) trivial
def Dh (s:Nat) (v:Value) (R:RV):gE
 | [.v (.fl l),.v (.im u)]=>some ([aA l=aA [At.q s],u=v],R)
 | _=>none
def Yt (k:NP) (v:Value) (s:NS) (c:Int):gE
 | [.v (.fl l),.v (.im u),.v (.fl m)]=>some ([aA l=aA [At.q k.1,.q k.2],u=v,aA m=aA (eZ s)],.one (.im (.int .i64 c)))
 | _=>none
theorem DK {s:Nat} {v:Value} {R:RV} {w:World} (h:bG prog 9 R [.agg (aA [At.q s]).toArray,v] w):∀cs pre r,Dh s v R cs=some (pre,r)→bC pre→∀(args:List Value),cP w cs args→bG prog 9 r args w:=by
 intro cs pre r hg hp args ha;unfold Dh at hg;split at hg
 ·rename_i l u;cases hg
  match args,ha with
  | [x,z],ha =>
   have e1:x=.agg (aA l).toArray:=ha.1;have e3:z=u:=ha.2.1;rw[e1,e3,hp.1,hp.2.1];exact h
  | [],ha=>exact ha.elim
  | [_],ha=>exact ha.2.elim
  | _::_::_::_,ha=>exact ha.2.2.elim
 ·cases hg
theorem Nk {k:NP} {v:Value} {s:NS} {c:Int} {w:World} (h:bG prog 13 (.one (.im (.int .i64 c))) [.agg (aA [At.q k.1,.q k.2]).toArray,v,.agg (aA (eZ s)).toArray] w):∀cs pre r,Yt k v s c cs=some (pre,r)→bC pre→∀(args:List Value),cP w cs args→bG prog 13 r args w:=by
 intro cs pre r hg hp args ha;unfold Yt at hg;split at hg
 ·rename_i l u m;cases hg
  match args,ha with
  | [x,y,z],ha =>
   have e1:x=.agg (aA l).toArray:=ha.1;have e2:y=u:=ha.2.1;have e3:z=.agg (aA m).toArray:=ha.2.2.1;rw[e1,e2,e3,hp.1,hp.2.1,hp.2.2.1];exact h
  | [],ha=>exact ha.elim
  | [_],ha=>exact ha.2.elim
  | [_,_],ha=>exact ha.2.2.elim
  | _::_::_::_::_,ha=>exact ha.2.2.2.elim
 ·cases hg
theorem Jl {w:World} {p:Option Addr} {N m s:Nat} {fm:Nat→Nat} (hb:BV w (.slice p N m) N fm) (hs:s<aG) (hDj:Dbj w) (hz:jI s=true) (hN:4096<N):bG prog 9 (.many [.fl vW,.im (.int .i64 5)]) [.agg (aA [At.q s]).toArray,.slice p N m] w:=by
 have h:=pZ hb hs hDj;have e:Jn s N=5:=by unfold Jn; rw[if_pos hz,if_pos hN]
 rw[e,if_neg (by decide)]at h;exact h
theorem Jk {w:World} {p:Option Addr} {N m s:Nat} {fm:Nat→Nat} (hb:BV w (.slice p N m) N fm) (hs:s<aG) (hDj:Dbj w) (hz:jI s=false):bG prog 9 (.many [.fl vW,.im (.int .i64 121)]) [.agg (aA [At.q s]).toArray,.slice p N m] w:=by
 have h:=pZ hb hs hDj;have e:Jn s N=121:=by unfold Jn; rw[if_neg (by rw[hz]; decide)]
 rw[e,if_neg (by decide)]at h;exact h
theorem Jj {w:World} {p:Option Addr} {N m s:Nat} {fm:Nat→Nat} (hb:BV w (.slice p N m) N fm) (hs:s<aG) (hDj:Dbj w) (hz:jI s=true) (hN:N≤4096):bG prog 9 (.many [.fl (eZ (wH s fm N)),.im (.int .i64 0)]) [.agg (aA [At.q s]).toArray,.slice p N m] w:=by
 have h:=pZ hb hs hDj;have e:Jn s N=0:=by unfold Jn; rw[if_pos hz,if_neg (by omega)]
 rw[if_pos e]at h;exact h
theorem aIG (s:Nat) (fm:Nat→Nat) (N:Nat):(wH s fm N).1.1<aG∧(wH s fm N).1.2<aG∧(wH s fm N).2<aG:=⟨(tU (sG _)).1,(tU (sG _)).2,Nat.lt_trans (YZ s fm N) NE⟩
end Go.Proofs.YtpjlhhpjpnacmaaGreatDoor.Ex
