/- Ea08 -/
import Derived.Test.YtpbljiejmfahcaaGreatDoorEa07
import Derived.Test.YtpbljiejmfahcaaGreatDoorEa04
import Derived.Test.YtpbljiejmfahcaaGreatDoorEa05
import Derived.Test.YtpbljiejmfahcaaGreatDoorProg
set_option maxRecDepth 100000
set_option linter.unusedVariables false
set_option linter.unusedSimpArgs false
set_option linter.unnecessarySimpa false
noncomputable section
namespace Go.Proofs.YtpbljiejmfahcaaGreatDoor
open Go.Proofs.Tryz
open Go.ChangeShapes Go.WideShapes Go.ChangeAt Go.RowKit
def kZ (A:Nat→Nat→Nat) (j:Nat):Nat:=aC (A j 0) (A j 1) (A j 2) (A j 3)
def GP (P:Nat→Nat) (j:Nat):Nat:=aC (P (j*4)) (P (j*4+1)) (P (j*4+2)) (P (j*4+3))
def FF (P:Nat→Nat) (j:Nat):Prop:=cC (P (j*4)) (P (j*4+1)) (P (j*4+2)) (P (j*4+3))
def putP (P:Nat→Nat) (k q0 q1 q2 q3:Nat):Nat→Nat:=iG (iG (iG (iG P (k*4) q0) (k*4+1) q1) (k*4+2) q2) (k*4+3) q3
theorem oD (P:Nat→Nat) (k q0 q1 q2 q3:Nat):GP (putP P k q0 q1 q2 q3) k=aC q0 q1 q2 q3∧(cC q0 q1 q2 q3→FF (putP P k q0 q1 q2 q3) k):=by
 have e0:putP P k q0 q1 q2 q3 (k*4)=q0:=by unfold putP iG; rw[if_neg (by omega),if_neg (by omega),if_neg (by omega),if_pos rfl]
 have e1:putP P k q0 q1 q2 q3 (k*4+1)=q1:=by unfold putP iG; rw[if_neg (by omega),if_neg (by omega),if_pos rfl]
 have e2:putP P k q0 q1 q2 q3 (k*4+2)=q2:=by unfold putP iG; rw[if_neg (by omega),if_pos rfl]
 have e3:putP P k q0 q1 q2 q3 (k*4+3)=q3:=by unfold putP iG; rw[if_pos rfl]
 unfold GP FF;rw[e0,e1,e2,e3];exact⟨rfl,id⟩
theorem gT (P:Nat→Nat) (k q0 q1 q2 q3 j:Nat) (h:j≠k):GP (putP P k q0 q1 q2 q3) j=GP P j∧(FF P j→FF (putP P k q0 q1 q2 q3) j):=by
 have e:∀i,i<4→putP P k q0 q1 q2 q3 (j*4+i)=P (j*4+i):=fun i hi=>by
  unfold putP iG; rw[if_neg (by omega),if_neg (by omega),if_neg (by omega),if_neg (by omega)]
 have e0:putP P k q0 q1 q2 q3 (j*4)=P (j*4):=e 0 (by omega);unfold GP FF;rw[e0,e 1 (by omega),e 2 (by omega),e 3 (by omega)];exact⟨rfl,id⟩
theorem RowIs.putP {w:World} {b n:Nat} {P:Nat→Nat} (h:RowIs w b (n*4) P) {k:Nat} (hk:k<n) (q0 q1 q2 q3:Nat) :
  RowIs ((((w.setCell ⟨b,k*4,none⟩ (.int .u64 (q0:Nat))).setCell ⟨b,k*4+1,none⟩ (.int .u64 (q1:Nat))).setCell ⟨b,k*4+2,none⟩ (.int .u64 (q2:Nat))).setCell ⟨b,k*4+3,none⟩ (.int .u64 (q3:Nat))) b (n*4) (putP P k q0 q1 q2 q3) :=
 (((h.set (i:=k*4) (by omega) (v:=q0)).set (i:=k*4+1) (by omega) (v:=q1)).set (i:=k*4+2) (by omega) (v:=q2)).set (i:=k*4+3) (by omega) (v:=q3)
theorem Mem.poke {w wr:World} {rs:List (Nat×Nat×Nat×Nat×Nat)} (h:Mem w wr rs) {c i:Nat} (hw:w.heap.size≤c) (hne:∀r,r∈rs→r.1≠c) (v:Value):Mem w (wr.setCell ⟨c,i,none⟩ v) rs :=
 ⟨h.1.setCell (p:=⟨c,i,none⟩) hw v,fun r hr=>⟨by rw[World.size_setCell]; exact (h.2 r hr).1,(h.2 r hr).2.other (fun e=>hne r hr e.symm) v⟩⟩
theorem NB {F:FC} {E:Nat→Nat} {P:Nat→Nat} {k q0 q1 q2 q3:Nat} (hq:cC q0 q1 q2 q3) (hv:aC q0 q1 q2 q3=kp F (pU F.M E k)) (h:∀j,j<k→FF P j∧GP P j=kp F (pU F.M E j)) :
  ∀j,j<k+1→FF (putP P k q0 q1 q2 q3) j∧GP (putP P k q0 q1 q2 q3) j=kp F (pU F.M E j):=fun j hj=>by
 by_cases e:j=k
 ·subst e;exact⟨(oD P j q0 q1 q2 q3).2 hq,by rw[(oD P j q0 q1 q2 q3).1,hv]⟩
 ·have:=h j (by omega);exact⟨(gT P k q0 q1 q2 q3 j e).2 this.1,by rw[(gT P k q0 q1 q2 q3 j e).1,this.2]⟩
theorem ZW {F:FC} (hF:F.Ok) {gr:Nat} (hr:Root F.M gr) {E:Nat→Nat} {j:Nat} (hE:∀k,k≤j→E k<F.M) (hz:E j≠0):kp F (pU F.M E (j+1)^(F.M-2)*E j%F.M)=kp F (pU F.M E j^(F.M-2)):=by
 have h2:2≤F.M:=by have:=hF.gt; omega
 have hp:=KC hr h2 (E:=E) (j:=j) (fun k h=>hE k (by omega));have e:pU F.M E (j+1)=pU F.M E j*E j%F.M:=by show (if E j=0 then _ else _)=_; rw[if_neg hz]
 rw[e,GE hr h2 hp.1 hp.2 (by omega) (hE j (Nat.le_refl _)),vQ]
theorem Im {F:FC} (hF:F.Ok) {gr:Nat} (hr:Root F.M gr) {E:Nat→Nat} {j:Nat} (hE:∀k,k≤j→E k<F.M) (hz:E j≠0):pU F.M E (j+1)^(F.M-2)*pU F.M E j%F.M=E j^(F.M-2)%F.M:=by
 have h2:2≤F.M:=by have:=hF.gt; omega
 have hp:=KC hr h2 (E:=E) (j:=j) (fun k h=>hE k (by omega));have e:pU F.M E (j+1)=E j*pU F.M E j%F.M:=by show (if E j=0 then _ else _)=_; rw[if_neg hz,Nat.mul_comm]
 rw[e,GE hr h2 (by omega) (hE j (Nat.le_refl _)) hp.1 hp.2]
theorem ZV {F:FC} (hF:F.Ok) {a:Nat} (hz:a=0):a^(F.M-2)%F.M=0:=by
 have:=hF.gt;subst hz;rw[Nat.zero_pow (by omega),Nat.zero_mod]
def Df (F:FC) (len:Nat) (A:Nat→Nat→Nat) (w:World) (e:Ending) (w':World):Prop :=
 ∃(bo:Nat) (O:Nat→Nat),e=.returned (.slice (some ⟨bo,0,none⟩) len len)∧w.heap.size≤bo∧bo<w'.heap.size∧RowIs w' bo (len*4) O∧(∀j,j<len→FF O j∧GP O j=kZ A j^(F.M-2)%F.M)∧Below w.heap.size w w'
set_option maxRecDepth 20000 in
set_option maxHeartbeats 4000000 in
theorem vW (F:FC) (hF:F.Ok) (gr:Nat) (hroot:Root F.M gr) (b g off len cap:Nat) (A:Nat→Nat→Nat) (hA:LOk len A) (hlA:∀j,j<len→kZ A j<F.M) (hm:len≤65536) (w:World) (hk:KIs w b F) (hg:0<len→g<w.heap.size) (hl:LAt w g off len A) :
  Calls prog 142 #[.pointer (some ⟨b,0,none⟩),.slice (some ⟨g,off,none⟩) len cap] w (Df F len A w):=by
 obtain⟨o,hmk,ho⟩:=Zf len hm;obtain⟨o2,hmk2,ho2⟩:=Zg len hm;have HO2:=Lib.hid ho2;clear ho2;have R0:=Lib.hid (ho w _ rfl);have KW:=Lib.hid hk;have HRt:=Lib.hid hroot;clear hroot;have HLA:=Lib.hid hlA;clear hlA;have HK:=Lib.hid (hk.same ((Below.refl _ _).alloc (Nat.le_refl _) o));have HL:=Lib.hid hl;have HG:=Lib.hid hg;clear hg;have HA:=Lib.hid hA;have HF:=Lib.hid hF;clear hk hl hA hF ho
 go_enter func142,ntmps142
 go_wp2_with fail;refine (oF F HF.out b _ HK.out).mono ?_
 rintro e w1 ⟨p0,p1,p2,p3,rfl,hp,hv,hbl⟩
 have R1:=Lib.hid (R0.out.below hbl (by simp));have K1:=Lib.hid (HK.out.same hbl);have B1:=Lib.hid ((Below.refl _ w).alloc (Nat.le_refl _) o |>.trans (hbl.mono (by simp)));have S1:w.heap.size<w1.heap.size:=by have:=hbl.size; simp at this; omega
 have HV:=Lib.hid hv;clear hv hbl R0 HK;go_wp2_with fail;have M0:=Lib.hid (((Mem.nil w).on B1.out).new w1.heap.size p0 p1 p2 p3 104 rfl);have RA:=Lib.hid (R1.out.alloc S1 (.cells #[.int .u64 p0,.int .u64 p1,.int .u64 p2,.int .u64 p3] 104))
 go_loopw [19] (fun t wr=>∃(k q0 q1 q2 q3:Nat) (P:Nat→Nat),k≤len∧t=.int .i64 k∧cC q0 q1 q2 q3∧Hid (aC q0 q1 q2 q3=kp F (pU F.M (kZ A) k))∧Hid (RowIs wr w.heap.size (len*4) P)∧Hid (∀j,j<k→FF P j∧GP P j=kp F (pU F.M (kZ A) j))∧Hid (Mem w wr [(w1.heap.size,q0,q1,q2,q3)])) (fun t _=>len-(intOf t).toNat)
 case atStart=>exact⟨0,p0,p1,p2,p3,_,Nat.zero_le _,rfl,hp,HV,RA,Lib.hid (fun j h=>absurd h (by omega)),M0⟩
 case round =>
  obtain⟨k,q0,q1,q2,q3,P,hk,rfl,hq,HQ,RP,HP,HM⟩:=hrel;clear RA M0 R1 K1 B1 HV
  by_cases hlt:k<len
  ·obtain⟨a0,a1,a2,a3,e0,e1,e2,e3⟩:∃a0 a1 a2 a3:Nat,a0=A k 0∧a1=A k 1∧a2=A k 2∧a3=A k 3:=⟨_,_,_,_,rfl,rfl,rfl,rfl⟩
   have hc:=(HL.out.same HG.out HM.out.1) k hlt;have hok:=HA.out k hlt;rw[←e0,←e1,←e2,←e3]at hc hok;have c0:=hc.1; have c1:=hc.2.1; have c2:=hc.2.2.1; have c3:=hc.2.2.2;have HE:=Lib.hid (show kZ A k=aC a0 a1 a2 a3 by unfold kZ; rw[←e0,←e1,←e2,←e3]);have HO:=Lib.hid hok;clear e0 e1 e2 e3 hok hc;have Rr:=HM.out.row (b:=w1.heap.size) (c0:=q0) (c1:=q1) (c2:=q2) (c3:=q3) (by simp);have x0:=Rr.c0; have x1:=Rr.c1; have x2:=Rr.c2; have x3:=Rr.c3;have ltr:=HM.out.lt (b:=w1.heap.size) (c0:=q0) (c1:=q1) (c2:=q2) (c3:=q3) (by simp);have lta:w.heap.size<wr.heap.size:=by omega
   have ltg:g<wr.heap.size:=by have:=HG.out (by omega); omega
   have i0:=RP.out.cell (i:=k*4) (by omega); have i1:=RP.out.cell (i:=k*4+1) (by omega); have i2:=RP.out.cell (i:=k*4+2) (by omega); have i3:=RP.out.cell (i:=k*4+3) (by omega);have f0:=RP.out.free (i:=k*4) (by omega); have f1:=RP.out.free (i:=k*4+1) (by omega); have f2:=RP.out.free (i:=k*4+2) (by omega); have f3:=RP.out.free (i:=k*4+3) (by omega);have ne1:¬w.heap.size=w1.heap.size:=by omega
   have ne1':¬w1.heap.size=w.heap.size:=by omega
   clear Rr;have HN:=Lib.hid (NB hq HQ.out HP.out);have RPs:=RP.out.putP hlt q0 q1 q2 q3;have szs:((((wr.setCell ⟨w.heap.size,k*4,none⟩ (.int .u64 (q0:Nat))).setCell ⟨w.heap.size,k*4+1,none⟩ (.int .u64 (q1:Nat))).setCell ⟨w.heap.size,k*4+2,none⟩ (.int .u64 (q2:Nat))).setCell ⟨w.heap.size,k*4+3,none⟩ (.int .u64 (q3:Nat))).heap.size=wr.heap.size:=by simp only[World.size_setCell]
   have hne:∀r,r∈[(w1.heap.size,q0,q1,q2,q3)]→r.1≠w.heap.size:=by intro r hr; simp at hr; subst hr; exact ne1'
   have HMs:=(((HM.out.poke (i:=k*4) (Nat.le_refl _) hne (.int .u64 (q0:Nat))).poke (i:=k*4+1) (Nat.le_refl _) hne (.int .u64 (q1:Nat))).poke (i:=k*4+2) (Nat.le_refl _) hne (.int .u64 (q2:Nat))).poke (i:=k*4+3) (Nat.le_refl _) hne (.int .u64 (q3:Nat));have RN:=Lib.hid (RPs.alloc (by rw[szs]; exact lta) (.cells #[.int .u64 a0,.int .u64 a1,.int .u64 a2,.int .u64 a3] 27));have HMN:=Lib.hid (HMs.new wr.heap.size a0 a1 a2 a3 27 szs.symm);clear RPs szs hne HMs
   by_cases hz:aC a0 a1 a2 a3=0
   ·have EQ:=GO HO.out hz;have HS:=Lib.hid (show aC q0 q1 q2 q3=kp F (pU F.M (kZ A) (k+1)) by rw[HQ.out]; unfold pU; rw[if_pos (HE.out.trans hz)]; cases k<;>rfl);clear hz;go_wp2_with fail
    go_roundw
    case rel=>exact⟨k+1,q0,q1,q2,q3,_,by omega,by go_num,hq,HS,RN,HN,Lib.hid (HMN.out.sub (fun r hr=>List.mem_cons_of_mem _ hr))⟩
    case measure=>simp[intOf]; omega
   ·have EQ:=Ay HO.out hz;have HZ:=Lib.hid hz;clear hz;go_wp2_with fail;clear EQ c0 c1 c2 c3 x0 x1 x2 x3 i0 i1 i2 i3 f0 f1 f2 f3;obtain⟨W8,hW8⟩:∃W8,W8=(((((wr.setCell ⟨w.heap.size,k*4,none⟩ (.int .u64 (q0:Nat))).setCell ⟨w.heap.size,k*4+1,none⟩ (.int .u64 (q1:Nat))).setCell ⟨w.heap.size,k*4+2,none⟩ (.int .u64 (q2:Nat))).setCell ⟨w.heap.size,k*4+3,none⟩ (.int .u64 (q3:Nat))).alloc (.cells #[.int .u64 a0,.int .u64 a1,.int .u64 a2,.int .u64 a3] 27)):=⟨_,rfl⟩
    rw[←hW8]at RN HMN ⊢;have z8:wr.heap.size<W8.heap.size:=HMN.out.lt (b:=wr.heap.size) (c0:=a0) (c1:=a1) (c2:=a2) (c3:=a3) (by simp);clear hW8;refine cF (fun wx=>Below W8.heap.size W8 wx) 6 (by kernel_rfl) ?_;have HS:=bI W8.heap.size W8 1;have HM8:=Lib.hid HS;refine aE (i:=0) (v:=.pointer (some ⟨b,0,none⟩)) rfl (by kernel_rfl) (by kernel_rfl) (by kernel_rfl) (by kernel_rfl) (fun _ _ _ h=>h) HS (Or.inl ⟨by kernel_rfl,fun wx hx => ?_⟩) ?_
    ·clear HS hx;go_simp
    simp only[Act.put,List.setIfInBounds_toArray,List.set_cons_zero,List.set_cons_succ];refine aE (i:=1) (v:=.agg #[.int .u64 q0,.int .u64 q1,.int .u64 q2,.int .u64 q3]) rfl (by kernel_rfl) (by kernel_rfl) (by kernel_rfl) (by kernel_rfl) (fun _ _ _ h=>h) HS (Or.inl ⟨by kernel_rfl,fun wx hx => ?_⟩) ?_
    ·have hm:=HMN.out.on hx;have kr:=hm.row (b:=w1.heap.size) (c0:=q0) (c1:=q1) (c2:=q2) (c3:=q3) (by simp);have y0:=kr.c0; have y1:=kr.c1; have y2:=kr.c2; have y3:=kr.c3;clear kr;clear hm;clear HS hx;go_simp
    simp only[Act.put,List.setIfInBounds_toArray,List.set_cons_zero,List.set_cons_succ];refine aE (i:=2) (v:=.pointer (some ⟨b,0,none⟩)) rfl (by kernel_rfl) (by kernel_rfl) (by kernel_rfl) (by kernel_rfl) (fun _ _ _ h=>h) HS (Or.inl ⟨by kernel_rfl,fun wx hx => ?_⟩) ?_
    ·clear HS hx;go_simp
    simp only[Act.put,List.setIfInBounds_toArray,List.set_cons_zero,List.set_cons_succ];refine aE (i:=3) (v:=.agg #[.int .u64 a0,.int .u64 a1,.int .u64 a2,.int .u64 a3]) rfl (by kernel_rfl) (by kernel_rfl) (by kernel_rfl) (by kernel_rfl) (fun _ _ _ h=>h) HS (Or.inl ⟨by kernel_rfl,fun wx hx => ?_⟩) ?_
    ·have hm:=HMN.out.on hx;have kr:=hm.row (b:=wr.heap.size) (c0:=a0) (c1:=a1) (c2:=a2) (c3:=a3) (by simp);have y0:=kr.c0; have y1:=kr.c1; have y2:=kr.c2; have y3:=kr.c3;clear kr;clear hm;clear HS hx;go_simp
    simp only[Act.put,List.setIfInBounds_toArray,List.set_cons_zero,List.set_cons_succ];clear HS;refine aM (i:=4) (by kernel_rfl) rfl (fun K hK => ?_);go_simp;refine (gX F HF.out b a0 a1 a2 a3 HO.out _ (KW.out.same (HMN.out.on HM8.out).1)).mono ?_
    rintro e w2 ⟨s0,s1,s2,s3,rfl,hs,hv,hbl⟩
    have HS:=HM8.out.trans (hbl.mono HM8.out.size);clear HM8;have HM8:=Lib.hid HS;have HV:=Lib.hid hv;clear hv hbl;refine hK.out _ _ (Or.inr HS) (fun _ => ?_);clear hK K;clear HS;refine aM (i:=5) (by kernel_rfl) rfl (fun K hK => ?_);go_simp;refine (dE F HF.out b q0 q1 q2 q3 s0 s1 s2 s3 hq hs (by rw[HV.out]; exact FX HF.out _) _ (KW.out.same (HMN.out.on HM8.out).1)).mono ?_
    rintro e w3 ⟨t0,t1,t2,t3,rfl,ht,hv,hbl⟩
    have HS:=HM8.out.trans (hbl.mono HM8.out.size);clear HM8;have HM8:=Lib.hid HS;have HT:=Lib.hid (show aC t0 t1 t2 t3=kp F (pU F.M (kZ A) (k+1)) by
     rw[hv,HV.out,HQ.out,mZ HF.out,←HE.out]; show _=kp F (if kZ A k=0 then _ else _); rw[if_neg (fun h=>HZ.out (HE.out.symm.trans h))])
    clear hv hbl HV;refine hK.out _ _ (Or.inr HS) (fun _ => ?_);clear hK K;clear HS;have M9:=Lib.hid ((HMN.out.on HM8.out).sub (rs':=[(w1.heap.size,q0,q1,q2,q3)]) (fun r hr=>List.mem_cons_of_mem _ hr));have R9:=Lib.hid (RN.out.below HM8.out (by omega));have kr:=M9.out.row (b:=w1.heap.size) (c0:=q0) (c1:=q1) (c2:=q2) (c3:=q3) (by simp);have y0:=kr.c0; have y1:=kr.c1; have y2:=kr.c2; have y3:=kr.c3; have yf:=kr.fr;clear kr;have lr:w1.heap.size<w3.heap.size:=M9.out.lt (b:=w1.heap.size) (c0:=q0) (c1:=q1) (c2:=q2) (c3:=q3) (by simp);clear RN HMN HM8;refine aM (i:=6) (by kernel_rfl) rfl (fun K hK => ?_);go_simp;refine hK.out _ _ (Or.inl rfl) (fun _ => ?_);clear hK K;refine cK (by kernel_rfl) ?_;go_wp2_with fail
    go_roundw
    case rel=>exact⟨k+1,t0,t1,t2,t3,_,by omega,by go_num,ht,HT,Lib.hid ((((R9.out.other ne1' _).other ne1' _).other ne1' _).other ne1' _),HN,Lib.hid (M9.out.put t0 t1 t2 t3 (by omega) (fun r hr=>by cases hr))⟩
    case measure=>simp[intOf]; omega
  ·obtain rfl:len=k:=by omega
   obtain⟨wo,rfl⟩:∃wo,wo=wr:=⟨_,rfl⟩
   have Rr:=HM.out.row (b:=w1.heap.size) (c0:=q0) (c1:=q1) (c2:=q2) (c3:=q3) (by simp);have x0:=Rr.c0; have x1:=Rr.c1; have x2:=Rr.c2; have x3:=Rr.c3;have ltr:=HM.out.lt (b:=w1.heap.size) (c0:=q0) (c1:=q1) (c2:=q2) (c3:=q3) (by simp);have lta:w.heap.size<wo.heap.size:=by omega
   have M2:=Lib.hid (HM.out.on ((Below.refl _ _).alloc (Nat.le_refl _) o2));have R2:=Lib.hid (RP.out.alloc lta o2);have O2:=Lib.hid (HO2.out wo _ rfl);clear Rr hk hlt HO2;go_wp2_with fail;refine (nE F HF.out (pU F.M (kZ A) len) b q0 q1 q2 q3 hq HQ.out _ (KW.out.same M2.out.1)).mono ?_
   rintro e w2 ⟨s0,s1,s2,s3,rfl,hs,hv,hbl⟩
   have sz2:wo.heap.size<w2.heap.size:=by have:=hbl.size; simp at this; omega
   have HV:=Lib.hid hv;have M3:=Lib.hid (M2.out.on hbl);have R3:=Lib.hid (R2.out.below hbl (by simp; omega));have O3:=Lib.hid (O2.out.below hbl (by simp));clear hv hbl M2 R2 O2 x0 x1 x2 x3;go_wp2_with fail;have M4:=Lib.hid ((M3.out.new w2.heap.size s0 s1 s2 s3 104 rfl).sub (rs':=[(w2.heap.size,s0,s1,s2,s3)]) (fun r hr=>by simp at hr; subst hr; simp));have R4:=Lib.hid (R3.out.alloc (by omega) (.cells #[.int .u64 s0,.int .u64 s1,.int .u64 s2,.int .u64 s3] 104));have O4:=Lib.hid (O3.out.alloc sz2 (.cells #[.int .u64 s0,.int .u64 s1,.int .u64 s2,.int .u64 s3] 104));clear M3 R3 O3 HM RP HQ
   go_loopw [11] (fun t wx=>∃(m r0 r1 r2 r3:Nat) (x:Int) (O:Nat→Nat),m≤len∧t=.int .i64 x∧Hid (x=(m:Int)-1)∧cC r0 r1 r2 r3∧Hid (aC r0 r1 r2 r3=kp F (pU F.M (kZ A) m^(F.M-2)))∧Hid (RowIs wx w.heap.size (len*4) P)∧Hid (RowIs wx wo.heap.size (len*4) O)∧Hid (∀j,j<m→FF O j∧GP O j=0)∧Hid (∀j,m≤j→j<len→FF O j∧GP O j=kZ A j^(F.M-2)%F.M)∧Hid (Mem w wx [(w2.heap.size,r0,r1,r2,r3)])) (fun t _=>(intOf t+1).toNat)
   case atStart=>exact⟨len,s0,s1,s2,s3,_,_,Nat.le_refl _,rfl,Lib.hid rfl,hs,HV,R4,O4,Lib.hid (fun j h=>⟨Vt,rfl⟩),Lib.hid (fun j h1 h2=>absurd h2 (by omega)),M4⟩
   case round =>
    obtain⟨m,r0,r1,r2,r3,x,O,hml,rfl,hx,hr,HR,RP,RO,HZ,HD,HM⟩:=hrel;clear M4 R4 O4 HV;have ltx:=HM.out.lt (b:=w2.heap.size) (c0:=r0) (c1:=r1) (c2:=r2) (c3:=r3) (by simp);have lto:wo.heap.size<wr.heap.size:=by omega
    have lta':w.heap.size<wr.heap.size:=by omega
    rcases Nat.eq_zero_or_pos m with rfl|hmp
    ·obtain rfl:x = -1:=by rw[hx.out]; rfl
     go_wp2_with fail;go_ret;exact⟨wo.heap.size,O,rfl,by omega,lto,RO.out,fun j h=>HD.out j (by omega) h,HM.out.1⟩
    ·obtain⟨j,rfl⟩:∃j,m=j+1:=⟨m-1,by omega⟩
     obtain rfl:x=(j:Int):=by rw[hx.out]; omega
     have hjl:j<len:=by omega
     obtain⟨a0,a1,a2,a3,e0,e1,e2,e3⟩:∃a0 a1 a2 a3:Nat,a0=A j 0∧a1=A j 1∧a2=A j 2∧a3=A j 3:=⟨_,_,_,_,rfl,rfl,rfl,rfl⟩
     have hc:=(HL.out.same HG.out HM.out.1) j hjl;have hok:=HA.out j hjl;rw[←e0,←e1,←e2,←e3]at hc hok;have c0:=hc.1; have c1:=hc.2.1; have c2:=hc.2.2.1; have c3:=hc.2.2.2;have HE:=Lib.hid (show kZ A j=aC a0 a1 a2 a3 by unfold kZ; rw[←e0,←e1,←e2,←e3]);have HO:=Lib.hid hok;have HA4:=Lib.hid (And.intro e0 (And.intro e1 (And.intro e2 e3)));clear e0 e1 e2 e3 hok hc;have ltg:g<wr.heap.size:=by have:=HG.out (by omega); omega
     have bjl:(j:Int)<(len:Int):=by omega
     by_cases hz:aC a0 a1 a2 a3=0
     ·have EQ:=GO HO.out hz;have HS:=Lib.hid (show aC r0 r1 r2 r3=kp F (pU F.M (kZ A) j^(F.M-2)) by rw[HR.out]; show kp F ((if kZ A j=0 then _ else _)^_)=_; rw[if_pos (HE.out.trans hz)]);have HZn:=Lib.hid (fun i (h:i<j)=>HZ.out i (Nat.lt_succ_of_lt h));have HDn:=Lib.hid (show ∀i,j≤i→i<len→FF O i∧GP O i=kZ A i^(F.M-2)%F.M from fun i h1 h2=>by
       by_cases e:i=j
       ·subst e; exact⟨(HZ.out i (by omega)).1,by rw[(HZ.out i (by omega)).2,ZV HF.out (HE.out.trans hz)]⟩
       ·exact HD.out i (by omega) h2)
      clear hz;go_wp2_with fail
      go_roundw
      case rel=>exact⟨j,r0,r1,r2,r3,_,O,by omega,rfl,Lib.hid (by omega),hr,HS,RP,RO,HZn,HDn,HM⟩
      case measure=>simp[intOf]<;>omega
     ·have EQ:=Ay HO.out hz;have HZ':=Lib.hid hz;clear hz;go_wp2_with fail;clear EQ c0 c1 c2 c3;obtain⟨h0,h1,h2,h3,g0,g1,g2,g3⟩:∃h0 h1 h2 h3:Nat,h0=P (j*4)∧h1=P (j*4+1)∧h2=P (j*4+2)∧h3=P (j*4+3):=⟨_,_,_,_,rfl,rfl,rfl,rfl⟩
      have hh:=(HP.out j hjl).1;have eh:=(HP.out j hjl).2;unfold FF at hh;unfold GP at eh;rw[←g0,←g1,←g2,←g3]at hh eh;have HC:=Lib.hid (show ∀wx,Below wr.heap.size wr wx→wx.cell? ⟨w.heap.size,j*4,none⟩=some (.int .u64 (h0:Nat))∧wx.cell? ⟨w.heap.size,j*4+1,none⟩=some (.int .u64 (h1:Nat))∧wx.cell? ⟨w.heap.size,j*4+2,none⟩=some (.int .u64 (h2:Nat))∧wx.cell? ⟨w.heap.size,j*4+3,none⟩=some (.int .u64 (h3:Nat))from fun wx hx=>by
       have q:=RP.out.below hx lta';rw[g0,g1,g2,g3];exact⟨q.cell (by omega),q.cell (by omega),q.cell (by omega),q.cell (by omega)⟩)
      have EH:=Lib.hid eh;have lh:Hid (aC h0 h1 h2 h3<F.M):=Lib.hid (by rw[eh]; exact FX HF.out _);clear eh g0 g1 g2 g3;refine cF (fun wx=>Below wr.heap.size wr wx) 12 (by kernel_rfl) ?_;have HS:=bI wr.heap.size wr 1;have HB:=Lib.hid HS;refine aE (i:=0) (v:=.slice (some ⟨wo.heap.size,0,none⟩) len len) rfl (by kernel_rfl) (by kernel_rfl) (by kernel_rfl) (by kernel_rfl) (fun _ _ _ h=>h) HS (Or.inl ⟨by kernel_rfl,fun wx hx => ?_⟩) ?_
      ·clear HS hx;go_simp
      simp only[Act.put,List.setIfInBounds_toArray,List.set_cons_zero,List.set_cons_succ];refine aE (i:=1) (v:=.int .i64 (j:Nat)) rfl (by kernel_rfl) (by kernel_rfl) (by kernel_rfl) (by kernel_rfl) (fun _ _ _ h=>h) HS (Or.inl ⟨by kernel_rfl,fun wx hx => ?_⟩) ?_
      ·clear HS hx;go_simp
      simp only[Act.put,List.setIfInBounds_toArray,List.set_cons_zero,List.set_cons_succ];refine aE (i:=2) (v:=.pointer (some ⟨b,0,none⟩)) rfl (by kernel_rfl) (by kernel_rfl) (by kernel_rfl) (by kernel_rfl) (fun _ _ _ h=>h) HS (Or.inl ⟨by kernel_rfl,fun wx hx => ?_⟩) ?_
      ·clear HS hx;go_simp
      simp only[Act.put,List.setIfInBounds_toArray,List.set_cons_zero,List.set_cons_succ];refine aE (i:=3) (v:=.pointer (some ⟨b,0,none⟩)) rfl (by kernel_rfl) (by kernel_rfl) (by kernel_rfl) (by kernel_rfl) (fun _ _ _ h=>h) HS (Or.inl ⟨by kernel_rfl,fun wx hx => ?_⟩) ?_
      ·clear HS hx;go_simp
      simp only[Act.put,List.setIfInBounds_toArray,List.set_cons_zero,List.set_cons_succ];refine aE (i:=4) (v:=.agg #[.int .u64 r0,.int .u64 r1,.int .u64 r2,.int .u64 r3]) rfl (by kernel_rfl) (by kernel_rfl) (by kernel_rfl) (by kernel_rfl) (fun _ _ _ h=>h) HS (Or.inl ⟨by kernel_rfl,fun wx hx => ?_⟩) ?_
      ·have hm:=HM.out.on hx;have kr:=hm.row (b:=w2.heap.size) (c0:=r0) (c1:=r1) (c2:=r2) (c3:=r3) (by simp);have y0:=kr.c0; have y1:=kr.c1; have y2:=kr.c2; have y3:=kr.c3;clear kr;clear hm;clear HS hx;go_simp
      simp only[Act.put,List.setIfInBounds_toArray,List.set_cons_zero,List.set_cons_succ];refine aE (i:=5) (v:=.slice (some ⟨w.heap.size,0,none⟩) len len) rfl (by kernel_rfl) (by kernel_rfl) (by kernel_rfl) (by kernel_rfl) (fun _ _ _ h=>h) HS (Or.inl ⟨by kernel_rfl,fun wx hx => ?_⟩) ?_
      ·clear HS hx;go_simp
      simp only[Act.put,List.setIfInBounds_toArray,List.set_cons_zero,List.set_cons_succ];refine aE (i:=6) (v:=.int .i64 (j:Nat)) rfl (by kernel_rfl) (by kernel_rfl) (by kernel_rfl) (by kernel_rfl) (fun _ _ _ h=>h) HS (Or.inl ⟨by kernel_rfl,fun wx hx => ?_⟩) ?_
      ·clear HS hx;go_simp
      simp only[Act.put,List.setIfInBounds_toArray,List.set_cons_zero,List.set_cons_succ];refine aE (i:=7) (v:=.pointer (some ⟨w.heap.size,j*4,none⟩)) rfl (by kernel_rfl) (by kernel_rfl) (by kernel_rfl) (by kernel_rfl) (fun _ _ _ h=>h) HS (Or.inl ⟨by kernel_rfl,fun wx hx => ?_⟩) ?_
      ·clear HS hx;go_simp
      simp only[Act.put,List.setIfInBounds_toArray,List.set_cons_zero,List.set_cons_succ];refine aE (i:=8) (v:=.agg #[.int .u64 h0,.int .u64 h1,.int .u64 h2,.int .u64 h3]) rfl (by kernel_rfl) (by kernel_rfl) (by kernel_rfl) (by kernel_rfl) (fun _ _ _ h=>h) HS (Or.inl ⟨by kernel_rfl,fun wx hx => ?_⟩) ?_
      ·have hc:=HC.out wx hx;have y0:=hc.1; have y1:=hc.2.1; have y2:=hc.2.2.1; have y3:=hc.2.2.2;clear hc;clear HS hx;go_simp
      simp only[Act.put,List.setIfInBounds_toArray,List.set_cons_zero,List.set_cons_succ];clear HS;refine aM (i:=9) (by kernel_rfl) rfl (fun K hK => ?_);go_simp;refine (dE F HF.out b r0 r1 r2 r3 h0 h1 h2 h3 hr hh lh.out _ (KW.out.same (HM.out.on HB.out).1)).mono ?_
      rintro e w3 ⟨v0,v1,v2,v3,rfl,hvv,hv,hbl⟩
      have HS:=HB.out.trans (hbl.mono HB.out.size);clear HB;have HB:=Lib.hid HS;have HV:=Lib.hid (show aC v0 v1 v2 v3=kp F (pU F.M (kZ A) (j+1)^(F.M-2)*pU F.M (kZ A) j%F.M) by rw[hv,HR.out,EH.out,mZ HF.out]);clear hv hbl;refine hK.out _ _ (Or.inr HS) (fun _ => ?_);clear hK K;clear HS;refine aM (i:=10) (by kernel_rfl) rfl (fun K hK => ?_);go_simp;refine (RK F HF.out b v0 v1 v2 v3 hvv _ (KW.out.same (HM.out.on HB.out).1)).mono ?_
      rintro e w4 ⟨t0,t1,t2,t3,rfl,ht,hv,hbl⟩
      have HS:=HB.out.trans (hbl.mono HB.out.size);clear HB;have HB:=Lib.hid HS;have HT:=Lib.hid (show aC t0 t1 t2 t3=kZ A j^(F.M-2)%F.M by
       rw[hv,HV.out,Rc HF.out _ (Nat.mod_lt _ HF.out.pos)];exact Im HF.out HRt.out (fun i h=>HLA.out i (by omega)) (fun h=>HZ'.out (HE.out.symm.trans h)))
      clear hv hbl HV;refine hK.out _ _ (Or.inr HS) (fun _ => ?_);clear hK K;clear HS;refine aM (i:=11) (by kernel_rfl) rfl (fun K hK => ?_);go_simp;refine hK.out _ _ (Or.inr HB.out) (fun _ => ?_);clear hK K;have RO4:=Lib.hid (RO.out.below HB.out lto);have RP4:=Lib.hid (RP.out.below HB.out lta');have HM4:=Lib.hid (HM.out.on HB.out);have sz4:=HB.out.size;have i0:=RO4.out.cell (i:=j*4) (by omega); have i1:=RO4.out.cell (i:=j*4+1) (by omega); have i2:=RO4.out.cell (i:=j*4+2) (by omega); have i3:=RO4.out.cell (i:=j*4+3) (by omega);have f0:=RO4.out.free (i:=j*4) (by omega); have f1:=RO4.out.free (i:=j*4+1) (by omega); have f2:=RO4.out.free (i:=j*4+2) (by omega); have f3:=RO4.out.free (i:=j*4+3) (by omega);have lo4:wo.heap.size<w4.heap.size:=by omega
      clear HC RO RP HM HB;refine aM (i:=12) (by kernel_rfl) rfl (fun K hK => ?_);go_simp;refine hK.out _ _ (Or.inl rfl) (fun _ => ?_);clear hK K;refine cK (by kernel_rfl) ?_;go_wp2_with fail;clear i0 i1 i2 i3 f0 f1 f2 f3;have HDn:=Lib.hid (show ∀i,j≤i→i<len→FF (putP O j t0 t1 t2 t3) i∧GP (putP O j t0 t1 t2 t3) i=kZ A i^(F.M-2)%F.M from fun i h1 h2=>by
       by_cases e:i=j
       ·subst e; exact⟨(oD O i t0 t1 t2 t3).2 ht,by rw[(oD O i t0 t1 t2 t3).1,HT.out]⟩
       ·have q:=HD.out i (by omega) h2;exact⟨(gT O j t0 t1 t2 t3 i e).2 q.1,by rw[(gT O j t0 t1 t2 t3 i e).1,q.2]⟩)
      have HZn:=Lib.hid (show ∀i,i<j→FF (putP O j t0 t1 t2 t3) i∧GP (putP O j t0 t1 t2 t3) i=0 from fun i h1=>by
       have q:=HZ.out i (by omega);exact⟨(gT O j t0 t1 t2 t3 i (by omega)).2 q.1,by rw[(gT O j t0 t1 t2 t3 i (by omega)).1,q.2]⟩)
      have ne5:wo.heap.size≠w.heap.size:=by omega
      have ne6:∀r,r∈[(w2.heap.size,r0,r1,r2,r3)]→r.1≠wo.heap.size:=by intro r hr; simp at hr; subst hr; show w2.heap.size≠_; omega
      have RO5:=Lib.hid (RO4.out.putP hjl t0 t1 t2 t3);have RP5:=Lib.hid ((((RP4.out.other (i:=j*4) ne5 (.int .u64 (t0:Nat))).other (i:=j*4+1) ne5 (.int .u64 (t1:Nat))).other (i:=j*4+2) ne5 (.int .u64 (t2:Nat))).other (i:=j*4+3) ne5 (.int .u64 (t3:Nat)));have HM5:=Lib.hid ((((HM4.out.poke (i:=j*4) (by omega) ne6 (.int .u64 (t0:Nat))).poke (i:=j*4+1) (by omega) ne6 (.int .u64 (t1:Nat))).poke (i:=j*4+2) (by omega) ne6 (.int .u64 (t2:Nat))).poke (i:=j*4+3) (by omega) ne6 (.int .u64 (t3:Nat)));obtain⟨W5,hW5⟩:∃W5,W5=((((w4.setCell ⟨wo.heap.size,j*4,none⟩ (.int .u64 (t0:Nat))).setCell ⟨wo.heap.size,j*4+1,none⟩ (.int .u64 (t1:Nat))).setCell ⟨wo.heap.size,j*4+2,none⟩ (.int .u64 (t2:Nat))).setCell ⟨wo.heap.size,j*4+3,none⟩ (.int .u64 (t3:Nat))):=⟨_,rfl⟩
      rw[←hW5]at RO5 RP5 HM5 ⊢;have lt5:w2.heap.size<W5.heap.size:=HM5.out.lt (b:=w2.heap.size) (c0:=r0) (c1:=r1) (c2:=r2) (c3:=r3) (by simp);have lo5:wo.heap.size<W5.heap.size:=by omega
      have la5:w.heap.size<W5.heap.size:=by omega
      clear hW5 RO4 RP4 HM4 ne6 HT HZ HD HP lh EH;have HC:=Lib.hid (show ∀wx,Below W5.heap.size W5 wx→wx.cell? ⟨g,off+j*4,none⟩=some (.int .u64 (a0:Nat))∧wx.cell? ⟨g,off+j*4+1,none⟩=some (.int .u64 (a1:Nat))∧wx.cell? ⟨g,off+j*4+2,none⟩=some (.int .u64 (a2:Nat))∧wx.cell? ⟨g,off+j*4+3,none⟩=some (.int .u64 (a3:Nat))from fun wx hx=>by
       have q:=(HL.out.same HG.out (HM5.out.on hx).1) j hjl;rw[←HA4.out.1,←HA4.out.2.1,←HA4.out.2.2.1,←HA4.out.2.2.2]at q;exact q)
      refine cF (fun wx=>Below W5.heap.size W5 wx) 9 (by kernel_rfl) ?_;have HS:=bI W5.heap.size W5 1;have HB:=Lib.hid HS;refine aE (i:=0) (v:=.pointer (some ⟨b,0,none⟩)) rfl (by kernel_rfl) (by kernel_rfl) (by kernel_rfl) (by kernel_rfl) (fun _ _ _ h=>h) HS (Or.inl ⟨by kernel_rfl,fun wx hx => ?_⟩) ?_
      ·clear HS hx;go_simp
      simp only[Act.put,List.setIfInBounds_toArray,List.set_cons_zero,List.set_cons_succ];refine aE (i:=1) (v:=.agg #[.int .u64 r0,.int .u64 r1,.int .u64 r2,.int .u64 r3]) rfl (by kernel_rfl) (by kernel_rfl) (by kernel_rfl) (by kernel_rfl) (fun _ _ _ h=>h) HS (Or.inl ⟨by kernel_rfl,fun wx hx => ?_⟩) ?_
      ·have hm:=HM5.out.on hx;have kr:=hm.row (b:=w2.heap.size) (c0:=r0) (c1:=r1) (c2:=r2) (c3:=r3) (by simp);have y0:=kr.c0; have y1:=kr.c1; have y2:=kr.c2; have y3:=kr.c3;clear kr;clear hm;clear HS hx;go_simp
      simp only[Act.put,List.setIfInBounds_toArray,List.set_cons_zero,List.set_cons_succ];refine aE (i:=2) (v:=.pointer (some ⟨b,0,none⟩)) rfl (by kernel_rfl) (by kernel_rfl) (by kernel_rfl) (by kernel_rfl) (fun _ _ _ h=>h) HS (Or.inl ⟨by kernel_rfl,fun wx hx => ?_⟩) ?_
      ·clear HS hx;go_simp
      simp only[Act.put,List.setIfInBounds_toArray,List.set_cons_zero,List.set_cons_succ];refine aE (i:=3) (v:=.slice (some ⟨g,off,none⟩) len cap) rfl (by kernel_rfl) (by kernel_rfl) (by kernel_rfl) (by kernel_rfl) (fun _ _ _ h=>h) HS (Or.inl ⟨by kernel_rfl,fun wx hx => ?_⟩) ?_
      ·clear HS hx;go_simp
      simp only[Act.put,List.setIfInBounds_toArray,List.set_cons_zero,List.set_cons_succ];refine aE (i:=4) (v:=.int .i64 (j:Nat)) rfl (by kernel_rfl) (by kernel_rfl) (by kernel_rfl) (by kernel_rfl) (fun _ _ _ h=>h) HS (Or.inl ⟨by kernel_rfl,fun wx hx => ?_⟩) ?_
      ·clear HS hx;go_simp
      simp only[Act.put,List.setIfInBounds_toArray,List.set_cons_zero,List.set_cons_succ];refine aE (i:=5) (v:=.pointer (some ⟨g,off+j*4,none⟩)) rfl (by kernel_rfl) (by kernel_rfl) (by kernel_rfl) (by kernel_rfl) (fun _ _ _ h=>h) HS (Or.inl ⟨by kernel_rfl,fun wx hx => ?_⟩) ?_
      ·clear HS hx;go_simp
      simp only[Act.put,List.setIfInBounds_toArray,List.set_cons_zero,List.set_cons_succ];refine aE (i:=6) (v:=.agg #[.int .u64 a0,.int .u64 a1,.int .u64 a2,.int .u64 a3]) rfl (by kernel_rfl) (by kernel_rfl) (by kernel_rfl) (by kernel_rfl) (fun _ _ _ h=>h) HS (Or.inl ⟨by kernel_rfl,fun wx hx => ?_⟩) ?_
      ·have hc:=HC.out wx hx;have y0:=hc.1; have y1:=hc.2.1; have y2:=hc.2.2.1; have y3:=hc.2.2.2;clear hc;clear HS hx;go_simp
      simp only[Act.put,List.setIfInBounds_toArray,List.set_cons_zero,List.set_cons_succ];clear HS;refine aM (i:=7) (by kernel_rfl) rfl (fun K hK => ?_);go_simp;refine (gX F HF.out b a0 a1 a2 a3 HO.out _ (KW.out.same (HM5.out.on HB.out).1)).mono ?_
      rintro e w6 ⟨s0,s1,s2,s3,rfl,hs,hv,hbl⟩
      have HS:=HB.out.trans (hbl.mono HB.out.size);clear HB;have HB:=Lib.hid HS;have HV:=Lib.hid hv;clear hv hbl;refine hK.out _ _ (Or.inr HS) (fun _ => ?_);clear hK K;clear HS;refine aM (i:=8) (by kernel_rfl) rfl (fun K hK => ?_);go_simp;refine (dE F HF.out b r0 r1 r2 r3 s0 s1 s2 s3 hr hs (by rw[HV.out]; exact FX HF.out _) _ (KW.out.same (HM5.out.on HB.out).1)).mono ?_
      rintro e w7 ⟨v0,v1,v2,v3,rfl,hvv,hv,hbl⟩
      have HS:=HB.out.trans (hbl.mono HB.out.size);clear HB;have HB:=Lib.hid HS;have HT:=Lib.hid (show aC v0 v1 v2 v3=kp F (pU F.M (kZ A) j^(F.M-2)) by
       rw[hv,HV.out,HR.out,mZ HF.out,←HE.out];exact ZW HF.out HRt.out (fun i h=>HLA.out i (by omega)) (fun h=>HZ'.out (HE.out.symm.trans h)))
      clear hv hbl HV;refine hK.out _ _ (Or.inr HS) (fun _ => ?_);clear hK K;clear HS;have M9:=Lib.hid (HM5.out.on HB.out);have R9:=Lib.hid (RP5.out.below HB.out la5);have O9:=Lib.hid (RO5.out.below HB.out lo5);have kr:=M9.out.row (b:=w2.heap.size) (c0:=r0) (c1:=r1) (c2:=r2) (c3:=r3) (by simp);have y0:=kr.c0; have y1:=kr.c1; have y2:=kr.c2; have y3:=kr.c3; have yf:=kr.fr;clear kr;have lr:w2.heap.size<w7.heap.size:=M9.out.lt (b:=w2.heap.size) (c0:=r0) (c1:=r1) (c2:=r2) (c3:=r3) (by simp);have nea:w2.heap.size≠w.heap.size:=by omega
      have neo:w2.heap.size≠wo.heap.size:=by omega
      clear HM5 RP5 RO5 HB HC;refine aM (i:=9) (by kernel_rfl) rfl (fun K hK => ?_);go_simp;refine hK.out _ _ (Or.inl rfl) (fun _ => ?_);clear hK K;refine cK (by kernel_rfl) ?_;go_wp2_with fail
      go_roundw
      case rel=>exact⟨j,v0,v1,v2,v3,_,_,by omega,rfl,Lib.hid (by omega),hvv,HT,Lib.hid ((((R9.out.other nea _).other nea _).other nea _).other nea _),Lib.hid ((((O9.out.other neo _).other neo _).other neo _).other neo _),HZn,HDn,Lib.hid (M9.out.put v0 v1 v2 v3 (by omega) (fun r hr=>by cases hr))⟩
      case measure=>simp[intOf]<;>omega
set_option maxRecDepth 20000 in
set_option maxHeartbeats 4000000 in
theorem Ap (f:Int) (F:FC) (hf:FieldIs f F) (g off len cap:Nat) (A:Nat→Nat→Nat) (hA:LOk len A) (hm:len≤9223372036854775807) (w:World) (hg:0<len→g<w.heap.size) (hl:LAt w g off len A) (h1:len≤65536) (h2:∀k,k<len→kZ A k<F.M) :
  Calls prog 123 #[.int .i64 f,.slice (some ⟨g,off,none⟩) len cap] w fun e w'=>∃(bo:Nat) (O:Nat→Nat),e=.returned (.tuple #[.slice (some ⟨bo,0,none⟩) len len,.int .i64 0])∧w.heap.size≤bo∧bo<w'.heap.size∧RowIs w' bo (len*4) O∧(∀j,j<len→FF O j∧GP O j=kZ A j^(F.M-2)%F.M)∧Below w.heap.size w w':=by
 obtain⟨gr,hroot⟩:=hf.root;have HRt:=Lib.hid hroot;have HL:=Lib.hid hl;have HG:=Lib.hid hg;clear hg;have HA:=Lib.hid hA;have HLA:=Lib.hid h2;clear hroot hl hA h2
 go_enter func123,ntmps123
 go_wp2_with fail;refine (gD f F hf _).mono ?_
 rintro e w1 ⟨rfl,hbl⟩
 have HB:=Lib.hid hbl;clear hbl;have KK:=Lib.hid (KIs.new w1 F 106);have B2:=Lib.hid (HB.out.alloc HB.out.size (.cells #[.int .u64 F.m0,.int .u64 F.m1,.int .u64 F.m2,.int .u64 F.m3,.int .u64 F.inv,.int .u64 F.s0,.int .u64 F.s1,.int .u64 F.s2,.int .u64 F.s3] 106));have sz1:=HB.out.size;have bc:¬(65536:Int)<(len:Int):=by omega
 go_wp2_with fail;refine (rG F hf.ok w1.heap.size g off len cap A HA.out hm _ KK.out (fun h=>by have:=HG.out h; simp; omega) (HL.out.same HG.out B2.out)).mono ?_
 rintro e w2 ⟨⟨t,rfl,ht⟩,hb2⟩
 obtain rfl:t=true:=ht.2 (fun k hk=>HLA.out k hk);have K2:=Lib.hid (KK.out.same hb2);have B3:=Lib.hid (B2.out.trans (hb2.mono B2.out.size));have sz2:=B3.out.size;clear ht hb2 KK B2;go_wp2_with fail;refine (vW F hf.ok gr HRt.out w1.heap.size g off len cap A HA.out HLA.out h1 _ K2.out (fun h=>by have:=HG.out h; omega) (HL.out.same HG.out B3.out)).mono ?_
 rintro e w3 ⟨bo,O,rfl,h3,h4,h5,h6,h7⟩
 have H5:=Lib.hid h5;have H6:=Lib.hid h6;have H7:=Lib.hid h7;clear h5 h6 h7 K2;go_wp2_with fail
 go_ret2
 exact⟨bo,O,rfl,by omega,h4,H5.out,H6.out,B3.out.trans (H7.out.mono B3.out.size)⟩
set_option maxRecDepth 20000 in
set_option maxHeartbeats 4000000 in
theorem LI (p:Option Addr) (cap b:Nat) (w:World) :
  Calls prog 141 #[.pointer (some ⟨b,0,none⟩),.slice p 0 cap] w fun e w'=>e=.returned (.bool true)∧w'=w:=by
 go_enter func141,ntmps141
 go_wp2_with fail;refine wp_loop_rounds 2 ?_;rw[rounds_succ];go_wp2_with fail;go_ret;exact⟨rfl,rfl⟩
open Go.RowKit
def FIs (W:World) (o:Option Addr) (len:Nat) (A:Nat→Nat→Nat):Prop:=len*32≤140737488351232∧LOk len A∧(0<len→∃g off,o=some ⟨g,off,none⟩∧g<W.heap.size∧LAt W g off len A)
theorem FIs.on {W w:World} {o:Option Addr} {len:Nat} {A:Nat→Nat→Nat} (h:FIs W o len A) (hb:Below W.heap.size W w):FIs w o len A:=by
 refine⟨h.1,h.2.1,fun hl => ?_⟩;obtain⟨g,off,e,hg,hc⟩:=h.2.2 hl;exact⟨g,off,e,Nat.lt_of_lt_of_le hg hb.size,hc.same (fun _=>hg) hb⟩
def Ct (M:Nat) (len:Nat) (A:Nat→Nat→Nat):Prop:=∀k,k<len→kZ A k<M
theorem vY (F:FC) (hF:F.Ok) (b:Nat) (o:Option Addr) (len cap:Nat) (A:Nat→Nat→Nat) (w:World) (hk:KIs w b F) (h:FIs w o len A) :
  Calls prog 141 #[.pointer (some ⟨b,0,none⟩),.slice o len cap] w fun e w'=>(∃t:Bool,e=.returned (.bool t)∧(t=true↔Ct F.M len A))∧Below w.heap.size w w':=by
 by_cases h0:0<len
 ·obtain⟨g,off,rfl,hg,hc⟩:=h.2.2 h0;exact rG F hF b g off len cap A h.2.1 (by have:=h.1; omega) w hk (fun _=>hg) hc
 ·obtain rfl:len=0:=by omega
  refine (LI o cap b w).mono ?_
  rintro e w' ⟨he,rfl⟩
  exact⟨⟨true,he,fun _ k hk=>absurd hk (by omega),fun _=>rfl⟩,Below.refl _ _⟩
def GT (M:Nat) (X Y:Nat→Nat):Nat→Nat
 | 0=>0
 | n+1=>(GT M X Y n+X n*Y n)%M
theorem Bn {F:FC} (hF:F.Ok) {s x y d:Nat} (h:s*F.R%F.M=d):(s+x*y*F.Ri%F.M)%F.M*F.R%F.M=(d+x*y)%F.M:=by
 have e1:(s+x*y*F.Ri%F.M)%F.M*F.R%F.M=(s*F.R+x*y*F.Ri*F.R)%F.M:=by
  rw[Nat.mod_mul_mod,Nat.add_mul,Nat.add_mod,Nat.mod_mul_mod,←Nat.add_mod]
 have e2:x*y*F.Ri*F.R%F.M=x*y%F.M:=by rw[Nat.mul_right_comm]; exact kP hF _
 rw[e1,Nat.add_mod,h,e2,Nat.add_mod_mod]
set_option maxHeartbeats 4000000 in
theorem Jq (f:Int) (F:FC) (hf:FieldIs f F) (p q:Option Addr) (la ca lb cb:Nat) (A B:Nat→Nat→Nat) (h1:la=lb) (h2:la≤65536) (ia:Ct F.M la A) (ib:Ct F.M lb B) (w:World) (hA:FIs w p la A) (hB:FIs w q lb B) :
  Calls prog 144 #[.int .i64 f,.slice p la ca,.slice q lb cb] w (Vr 0 (GT F.M (kZ A) (kZ B) la) w):=by
 subst h1;have hok:=hf.ok;have hpos:=hf.ok.pos;have IA:=Lib.hid ia;have IB:=Lib.hid ib;clear ia ib;have HA:=Lib.hid hA;have HB:=Lib.hid hB;clear hA hB
 go_enter func144,ntmps144
 go_wp2_with fail;have HM:=Lib.hid ((Mem.nil w).new (w.heap.size) 0 0 0 0 27 (by simp));refine (gD f F hf _).mono ?_
 rintro e w1 ⟨rfl,hbl⟩
 have KK:=Lib.hid (KIs.new w1 F 106);have B1:=Lib.hid (HM.out.on hbl);clear HM hbl;have HM:=Lib.hid (show Mem w (w1.alloc (.cells #[.int .u64 F.m0,.int .u64 F.m1,.int .u64 F.m2,.int .u64 F.m3,.int .u64 F.inv,.int .u64 F.s0,.int .u64 F.s1,.int .u64 F.s2,.int .u64 F.s3] 106)) [(w.heap.size,0,0,0,0)]from B1.out.on ((Below.refl _ _).alloc (Nat.le_refl _) _));clear B1;have t1:decide ((65536:Int)<(la:Int))=false:=decide_eq_false (by omega);go_wp2_with fail;refine (vY F hf.ok w1.heap.size p la ca A _ KK.out (HA.out.on HM.out.1)).mono ?_
 rintro e w2 ⟨⟨t,rfl,ht⟩,hbl⟩
 obtain rfl:t=true:=ht.2 IA.out;have KK':=Lib.hid (KK.out.same hbl);have HM':=Lib.hid (HM.out.on hbl);clear hbl KK ht;have KK:=KK';clear KK';clear HM;have HM:=HM';clear HM';go_wp2_with fail;refine (vY F hf.ok w1.heap.size q la cb B _ KK.out (HB.out.on HM.out.1)).mono ?_
 rintro e w3 ⟨⟨t,rfl,ht⟩,hbl⟩
 obtain rfl:t=true:=ht.2 IB.out;have KK':=Lib.hid (KK.out.same hbl);have HM':=Lib.hid (HM.out.on hbl);clear hbl KK ht;have KK:=KK';clear KK';clear HM;have HM:=HM';clear HM';go_wp2_with fail;have kl:w1.heap.size<w3.heap.size:=KK.out.lt;have ls:w.heap.size<w3.heap.size:=HM.out.lt (b:=w.heap.size) (c0:=0) (c1:=0) (c2:=0) (c3:=0) (by simp);have HM':=Lib.hid (HM.out.new w3.heap.size 0 0 0 0 27 rfl);have KK':=Lib.hid (KK.out.same ((Below.refl _ w3).alloc (Nat.le_refl _) (.cells #[.int .u64 (0:Nat),.int .u64 (0:Nat),.int .u64 (0:Nat),.int .u64 (0:Nat)] 27)));clear KK;have KK:=KK';clear KK';clear HM;have HM:=HM';clear HM';obtain⟨W5,hW5⟩:∃W5,W5=(w3.alloc (.cells #[.int .u64 (0:Nat),.int .u64 (0:Nat),.int .u64 (0:Nat),.int .u64 (0:Nat)] 27)):=⟨_,rfl⟩
 obtain⟨gs,hgs⟩:∃gs,gs=w3.heap.size:=⟨_,rfl⟩
 rw[←hgs]at HM kl ls ⊢;clear hgs hW5 W5
 go_loopw [43] (fun t wr=>∃(k s0 s1 s2 s3:Nat),k≤la∧t=.int .i64 k∧cC s0 s1 s2 s3∧Hid (aC s0 s1 s2 s3<F.M∧aC s0 s1 s2 s3*F.R%F.M=GT F.M (kZ A) (kZ B) k)∧Hid (Mem w wr [(gs,s0,s1,s2,s3),(w.heap.size,0,0,0,0)])∧Hid (KIs wr w1.heap.size F)) (fun t _=>la-(intOf t).toNat)
 case atStart=>exact⟨0,0,0,0,0,Nat.zero_le _,rfl,Vt,Lib.hid ⟨hpos,by rw[show aC 0 0 0 0=0 from rfl,Nat.zero_mul,Nat.zero_mod]; rfl⟩,HM,KK⟩
 case round =>
  clear HM KK;obtain⟨k,s0,s1,s2,s3,hk,rfl,hs,HV,HM,KK⟩:=hrel
  by_cases hlt:k<la
  ·obtain⟨g,off,rfl,hg,hla⟩:=HA.out.2.2 (by omega);obtain⟨g2,off2,rfl,hg2,hlb⟩:=HB.out.2.2 (by omega);obtain⟨a0,a1,a2,a3,e0,e1,e2,e3⟩:∃a0 a1 a2 a3:Nat,a0=A k 0∧a1=A k 1∧a2=A k 2∧a3=A k 3:=⟨_,_,_,_,rfl,rfl,rfl,rfl⟩
   obtain⟨b0,b1,b2,b3,d0,d1,d2,d3⟩:∃b0 b1 b2 b3:Nat,b0=B k 0∧b1=B k 1∧b2=B k 2∧b3=B k 3:=⟨_,_,_,_,rfl,rfl,rfl,rfl⟩
   have hoka:=HA.out.2.1 k hlt;have hokb:=HB.out.2.1 k hlt;have hva:kZ A k=aC a0 a1 a2 a3:=by unfold kZ; rw[←e0,←e1,←e2,←e3]
   have hvb:kZ B k=aC b0 b1 b2 b3:=by unfold kZ; rw[←d0,←d1,←d2,←d3]
   have hlb':aC b0 b1 b2 b3<F.M:=by rw[←hvb]; exact IB.out k hlt
   rw[←e0,←e1,←e2,←e3]at hoka;rw[←d0,←d1,←d2,←d3]at hokb;have HCA:=Lib.hid (show ∀wx,Below w.heap.size w wx→wx.cell? ⟨g,off+k*4,none⟩=some (.int .u64 (a0:Nat))∧wx.cell? ⟨g,off+k*4+1,none⟩=some (.int .u64 (a1:Nat))∧wx.cell? ⟨g,off+k*4+2,none⟩=some (.int .u64 (a2:Nat))∧wx.cell? ⟨g,off+k*4+3,none⟩=some (.int .u64 (a3:Nat))from fun wx hx=>by
    have q:=(hla.same (fun _=>hg) hx) k hlt;rw[←e0,←e1,←e2,←e3]at q;exact q)
   have HCB:=Lib.hid (show ∀wx,Below w.heap.size w wx→wx.cell? ⟨g2,off2+k*4,none⟩=some (.int .u64 (b0:Nat))∧wx.cell? ⟨g2,off2+k*4+1,none⟩=some (.int .u64 (b1:Nat))∧wx.cell? ⟨g2,off2+k*4+2,none⟩=some (.int .u64 (b2:Nat))∧wx.cell? ⟨g2,off2+k*4+3,none⟩=some (.int .u64 (b3:Nat))from fun wx hx=>by
    have q:=(hlb.same (fun _=>hg2) hx) k hlt;rw[←d0,←d1,←d2,←d3]at q;exact q)
   have HO:=Lib.hid (And.intro hoka hokb);have HE:=Lib.hid (And.intro hva (And.intro hvb hlb'));clear e0 e1 e2 e3 d0 d1 d2 d3 hla hlb hoka hokb hva hvb hlb';go_wp2_with fail;refine cF (fun wx=>Below wr.heap.size wr wx) 11 (by kernel_rfl) ?_;have HS:=bI wr.heap.size wr 1;have H8:=Lib.hid HS;refine aE (i:=0) (v:=.agg #[.int .u64 s0,.int .u64 s1,.int .u64 s2,.int .u64 s3]) rfl (by kernel_rfl) (by kernel_rfl) (by kernel_rfl) (by kernel_rfl) (fun _ _ _ h=>h) HS (Or.inl ⟨by kernel_rfl,fun wx hx => ?_⟩) ?_
   ·have kr:=(HM.out.on hx).row (b:=gs) (c0:=s0) (c1:=s1) (c2:=s2) (c3:=s3) (by simp);have x0:=kr.c0; have x1:=kr.c1; have x2:=kr.c2; have x3:=kr.c3;clear kr;clear HS hx;go_simp
   simp only[Act.put,List.setIfInBounds_toArray,List.set_cons_zero,List.set_cons_succ];refine aE (i:=1) (v:=.slice (some ⟨g,off,none⟩) la ca) rfl (by kernel_rfl) (by kernel_rfl) (by kernel_rfl) (by kernel_rfl) (fun _ _ _ h=>h) HS (Or.inl ⟨by kernel_rfl,fun wx hx => ?_⟩) ?_
   ·clear HS hx;go_simp
   simp only[Act.put,List.setIfInBounds_toArray,List.set_cons_zero,List.set_cons_succ];refine aE (i:=2) (v:=.int .i64 k) rfl (by kernel_rfl) (by kernel_rfl) (by kernel_rfl) (by kernel_rfl) (fun _ _ _ h=>h) HS (Or.inl ⟨by kernel_rfl,fun wx hx => ?_⟩) ?_
   ·clear HS hx;go_simp
   simp only[Act.put,List.setIfInBounds_toArray,List.set_cons_zero,List.set_cons_succ];refine aE (i:=3) (v:=.pointer (some ⟨g,off+k*4,none⟩)) rfl (by kernel_rfl) (by kernel_rfl) (by kernel_rfl) (by kernel_rfl) (fun _ _ _ h=>h) HS (Or.inl ⟨by kernel_rfl,fun wx hx => ?_⟩) ?_
   ·clear HS hx;go_simp
   simp only[Act.put,List.setIfInBounds_toArray,List.set_cons_zero,List.set_cons_succ];refine aE (i:=4) (v:=.agg #[.int .u64 a0,.int .u64 a1,.int .u64 a2,.int .u64 a3]) rfl (by kernel_rfl) (by kernel_rfl) (by kernel_rfl) (by kernel_rfl) (fun _ _ _ h=>h) HS (Or.inl ⟨by kernel_rfl,fun wx hx => ?_⟩) ?_
   ·have q:=HCA.out wx (HM.out.on hx).1;have x0:=q.1; have x1:=q.2.1; have x2:=q.2.2.1; have x3:=q.2.2.2;clear q;clear HS hx;go_simp
   simp only[Act.put,List.setIfInBounds_toArray,List.set_cons_zero,List.set_cons_succ];refine aE (i:=5) (v:=.slice (some ⟨g2,off2,none⟩) la cb) rfl (by kernel_rfl) (by kernel_rfl) (by kernel_rfl) (by kernel_rfl) (fun _ _ _ h=>h) HS (Or.inl ⟨by kernel_rfl,fun wx hx => ?_⟩) ?_
   ·clear HS hx;go_simp
   simp only[Act.put,List.setIfInBounds_toArray,List.set_cons_zero,List.set_cons_succ];refine aE (i:=6) (v:=.int .i64 k) rfl (by kernel_rfl) (by kernel_rfl) (by kernel_rfl) (by kernel_rfl) (fun _ _ _ h=>h) HS (Or.inl ⟨by kernel_rfl,fun wx hx => ?_⟩) ?_
   ·clear HS hx;go_simp
   simp only[Act.put,List.setIfInBounds_toArray,List.set_cons_zero,List.set_cons_succ];refine aE (i:=7) (v:=.pointer (some ⟨g2,off2+k*4,none⟩)) rfl (by kernel_rfl) (by kernel_rfl) (by kernel_rfl) (by kernel_rfl) (fun _ _ _ h=>h) HS (Or.inl ⟨by kernel_rfl,fun wx hx => ?_⟩) ?_
   ·clear HS hx;go_simp
   simp only[Act.put,List.setIfInBounds_toArray,List.set_cons_zero,List.set_cons_succ];refine aE (i:=8) (v:=.agg #[.int .u64 b0,.int .u64 b1,.int .u64 b2,.int .u64 b3]) rfl (by kernel_rfl) (by kernel_rfl) (by kernel_rfl) (by kernel_rfl) (fun _ _ _ h=>h) HS (Or.inl ⟨by kernel_rfl,fun wx hx => ?_⟩) ?_
   ·have q:=HCB.out wx (HM.out.on hx).1;have x0:=q.1; have x1:=q.2.1; have x2:=q.2.2.1; have x3:=q.2.2.2;clear q;clear HS hx;go_simp
   simp only[Act.put,List.setIfInBounds_toArray,List.set_cons_zero,List.set_cons_succ];clear HS;refine aM (i:=9) (by kernel_rfl) rfl (fun K hK => ?_);go_simp;refine (dE F hok w1.heap.size a0 a1 a2 a3 b0 b1 b2 b3 HO.out.1 HO.out.2 HE.out.2.2 _ (KK.out.same H8.out)).mono ?_
   rintro e v1 ⟨p0,p1,p2,p3,rfl,hp,hv,hbl⟩
   have HVp:=Lib.hid hv;clear hv;have HS:=H8.out.trans (hbl.mono H8.out.size);clear H8 hbl;have H8:=Lib.hid HS;refine hK.out _ _ (Or.inr HS) (fun _ => ?_);clear hK K;clear HS;refine aM (i:=10) (by kernel_rfl) rfl (fun K hK => ?_);go_simp;refine (vE F hok w1.heap.size s0 s1 s2 s3 p0 p1 p2 p3 hs hp HV.out.1 (by rw[HVp.out]; exact Nat.mod_lt _ hpos) _ (KK.out.same H8.out)).mono ?_
   rintro e v2 ⟨u0,u1,u2,u3,rfl,hu,hv,hbl⟩
   have HVu:=Lib.hid (show aC u0 u1 u2 u3<F.M∧aC u0 u1 u2 u3*F.R%F.M=GT F.M (kZ A) (kZ B) (k+1) by
    rw[hv,HVp.out];refine⟨Nat.mod_lt _ hpos,?_⟩;rw[Bn hok HV.out.2,←HE.out.1,←HE.out.2.1];rfl)
   clear hv;have HS:=H8.out.trans (hbl.mono H8.out.size);clear H8 hbl;have H8:=Lib.hid HS;refine hK.out _ _ (Or.inr HS) (fun _ => ?_);clear hK K;clear HS;have HM':=Lib.hid (HM.out.on H8.out);have KK':=Lib.hid (KK.out.same H8.out);clear HM KK H8;have HM:=HM';have KK:=KK';clear HM' KK';have kr:=HM.out.row (b:=gs) (c0:=s0) (c1:=s1) (c2:=s2) (c3:=s3) (by simp);have y0:=kr.c0; have y1:=kr.c1; have y2:=kr.c2; have y3:=kr.c3; have yf:=kr.fr;clear kr;have yl:=HM.out.lt (b:=gs) (c0:=s0) (c1:=s1) (c2:=s2) (c3:=s3) (by simp);refine aM (i:=11) (by kernel_rfl) rfl (fun K hK => ?_);go_simp;have HM':=Lib.hid (HM.out.put u0 u1 u2 u3 (by omega) (by intro r hr; simp at hr; subst hr; show w.heap.size≠gs; omega));have KK':=Lib.hid (KK.out.set4 (d:=gs) (by omega) u0 u1 u2 u3);clear HM KK;have HM:=HM';have KK:=KK';clear HM' KK';refine hK.out _ _ (Or.inl rfl) (fun _ => ?_);clear hK K;refine cK (by kernel_rfl) ?_;go_wp2_with fail
   go_roundw
   case rel=>exact⟨k+1,u0,u1,u2,u3,by omega,by go_num,hu,HVu,HM,KK⟩
   case measure=>simp[intOf]; omega
  ·obtain rfl:la=k:=by omega
   obtain⟨wo,rfl⟩:∃wo,wo=wr:=⟨_,rfl⟩
   have kr:=HM.out.row (b:=gs) (c0:=s0) (c1:=s1) (c2:=s2) (c3:=s3) (by simp);have x0:=kr.c0; have x1:=kr.c1; have x2:=kr.c2; have x3:=kr.c3;clear kr;have xl:=HM.out.lt (b:=gs) (c0:=s0) (c1:=s1) (c2:=s2) (c3:=s3) (by simp);clear hk hlt;go_wp2_with fail;refine (gX F hok w1.heap.size s0 s1 s2 s3 hs _ KK.out).mono ?_
   rintro e w4 ⟨u0,u1,u2,u3,rfl,hu,hv,hbl⟩
   have HVu:=Lib.hid (show aC u0 u1 u2 u3=GT F.M (kZ A) (kZ B) la by rw[hv]; exact HV.out.2);have HM':=Lib.hid (HM.out.on hbl);clear hv hbl x0 x1 x2 x3 xl;clear HM;have HM:=HM';clear HM';have kr:=HM.out.row (b:=w.heap.size) (c0:=0) (c1:=0) (c2:=0) (c3:=0) (by simp);have y0:=kr.c0; have y1:=kr.c1; have y2:=kr.c2; have y3:=kr.c3; have yf:=kr.fr;clear kr;have yl:=HM.out.lt (b:=w.heap.size) (c0:=0) (c1:=0) (c2:=0) (c3:=0) (by simp);go_wp2_with fail;refine bodyPost_ret (v:=.tuple #[.agg #[.int .u64 u0,.int .u64 u1,.int .u64 u2,.int .u64 u3],.int .i64 0]) (by simp[results,results144,go_sem, *]) rfl ?_;refine⟨_,_,_,_,rfl,hu,HVu.out,?_⟩;exact bF HM.out.1 (Nat.le_refl _) _ _ _ _
end Go.Proofs.YtpbljiejmfahcaaGreatDoor
namespace Go.Proofs.YtpbljiejmfahcaaGreatDoor.Ex
open Go.Proofs.Tryz
open Go.RowKit
theorem zZ {nt:Nat} {w:World} {a:Act} {ts:List (Nat×AV)} (hd:a.defers=[]) (hs:a.tmps.size=nt) (ht:∀x∈ts,a.tmps[x.1]?=some (x.2.den fun _=>(w.heap.size,0,0))):Holds nt w.heap.size w (ts.map fun x=>.slot x.1 x.2) a w:=by
 refine⟨hd,hs,Below.refl _ _,Nat.le_refl _,fun _=>(w.heap.size,0,0),fun φ hφ => ?_,fun k k' o' l l' h1 => ?_,fun k l h1 => ?_,Nat.le_refl _,fun p h1 h2=>⟨rfl,rfl⟩,Shape.refl _⟩
 ·obtain⟨x,hx,rfl⟩:=List.mem_map.1 hφ;exact ht x hx
 ·obtain⟨x,_,e⟩:=List.mem_map.1 h1; cases e
 ·obtain⟨x,_,e⟩:=List.mem_map.1 h1; cases e
def LM (w:World) (b N:Nat) (f:Nat→Nat):Prop:=b<w.heap.size∧w.rangeAt b 0 (aA (bP (el f) 0 N))
theorem LM.on {w w':World} {b N:Nat} {f:Nat→Nat} (h:LM w b N f) (hb:Below w.heap.size w w'):LM w' b N f:=⟨Nat.lt_of_lt_of_le h.1 hb.size,cZ hb h.1 h.2⟩
theorem LM.lv {w:World} {b N:Nat} {f:Nat→Nat} (h:LM w b N f) (hf:∀j,j<N→f j<aF):LV w (aV b 0 N N) N f:=⟨_,N,rfl,Nat.le_refl _,hf,fun _=>⟨b,0,rfl,h.1,h.2⟩⟩
theorem Nx {w:World} {bo j:Nat} {O:Nat→Nat} {n x:Nat} (h:Go.Proofs.YtpbljiejmfahcaaGreatDoor.RowIs w bo (n*4) O) (hj:j<n) (ho:FF O j) (hx:GP O j=x) (hlt:x<aF):w.rangeAt bo (j*4) (aA [At.q x]):=by
 obtain⟨e0,e1,e2,e3⟩:=jN ho hlt hx;have hf:aA [At.q x]=[.int .u64 (O (j*4):Nat),.int .u64 (O (j*4+1):Nat),.int .u64 (O (j*4+2):Nat),.int .u64 (O (j*4+3):Nat)]:=by
  show w4 x++[]=_;rw[List.append_nil];unfold w4;rw[←e0,←e1,←e2,←e3]
 rw[hf];intro q v hq;have h0:=(h (j*4) (by omega)).1;have h1:=(h (j*4+1) (by omega)).1;have h2:=(h (j*4+2) (by omega)).1;have h3:=(h (j*4+3) (by omega)).1
 match q with
 | 0=>cases hq; exact h0
 | 1=>cases hq; exact h1
 | 2=>cases hq; exact h2
 | 3=>cases hq; exact h3
 | q+4=>simp at hq
theorem qJ {w:World} {b:Nat} {f:Nat→Nat}:∀(n s o:Nat),(∀j,j<n→w.rangeAt b (o+j*4) (aA [At.q (f (s+j))]))→w.rangeAt b o (aA (bP (el f) s n))
 | 0,s,o,h=>fun j v hj=>by simp[bP,aA]at hj
 | n+1,s,o,h=>by
  have h0:=h 0 (by omega);have ih:=qJ (b:=b) (f:=f) n (s+1) (o+4) fun j hj=>by
   have:=h (j+1) (by omega);rw[show o+(j+1)*4=o+4+j*4 by omega,show s+(j+1)=s+1+j by omega]at this;exact this
  intro j v hj;have e:aA (bP (el f) s (n+1))=aA [At.q (f s)]++aA (bP (el f) (s+1) n):=aJ [At.q (f s)] _;rw[e]at hj
  by_cases hlt:j<4
  ·rw[List.getElem?_append_left (by rw[aL]; exact hlt)]at hj;have:=h0 j v hj
   rwa [Nat.zero_mul,Nat.add_zero]at this
  ·rw[List.getElem?_append_right (by rw[aL]; show 4≤j; omega),aL]at hj;have:=ih (j-4) v hj
   rwa [show o+4+(j-4)=o+j by omega]at this
theorem LD {w:World} {b N:Nat} {f:Nat→Nat} (h:LM w b N f) (hN:N≤65536) (hf:∀j,j<N→f j<RM) :
  Calls prog 123 [.int .i64 2,aV b 0 N N].toArray w fun e w'=>∃bo,e=.returned (.tuple #[aV bo 0 N N,.int .i64 0])∧Below w.heap.size w w'∧w.heap.size≤bo∧LM w' bo N (fun j=>inv (f j)):=by
 have hl:LAt w b 0 N (fun j c=>fw (f j) c):=fun k hk=>by
  have hc:w.rangeAt b (0+k*4) (aA [At.q (f k)]):=(mW h.1 h.2 hk).2;have hc:w.rangeAt b (0+k*4) [.int .u64 (fw (f k) 0:Nat),.int .u64 (fw (f k) 1:Nat),.int .u64 (fw (f k) 2:Nat),.int .u64 (fw (f k) 3:Nat)]:=hc;exact⟨hc 0 _ rfl,hc 1 _ rfl,hc 2 _ rfl,hc 3 _ rfl⟩
 have he:∀j,j<N→kZ (fun j c=>fw (f j) c) j=f j:=fun j hj=>fA (kO (hf j hj))
 refine (Ap 2 Go.Proofs.YtpbljiejmfahcaaGreatDoor.FR GJ b 0 N N (fun j c=>fw (f j) c) (fun k hk=>fH _) (by omega) w (fun _=>h.1) hl hN (fun k hk=>by rw[he k hk]; exact hf k hk)).mono ?_
 rintro e w' ⟨bo,O,rfl,h1,h2,h3,h4,hb⟩
 refine⟨bo,rfl,hb,h1,h2,qJ N 0 0 fun j hj => ?_⟩;obtain⟨k1,k2⟩:=h4 j hj;rw[he j hj]at k2;rw[Nat.zero_add,Nat.zero_add];exact Nx h3 hj k1 k2 (kO (LE _))
noncomputable abbrev ivF:Func:=f109
def kF:Code:=(f109.body).getD .skip
def LA:Code:=kD (kD (cB (cA (cB (cB kF)))))
def Ij:Code:=cB (cB (cB kF))
theorem Ii:kF=.seq (cA kF) (.seq (cA (cB kF)) (.seq (.seq (cA (cA (cB (cB kF)))) (.block 0 (.loop LA))) (.seq (.region 7 (aD (cA Ij)) false) (cB Ij)))):=by kernel_rfl
theorem Zx:ivF.ntmps=29:=by kernel_rfl
def xM8 (N:Nat):Ext:={ Ext.none with mks:=assoc [(8,(N,sA N))],T2:=Dt,T3:=Dg,T4:=Dr,T5:=kI,T6:=Ds }
theorem Nq (N:Nat) (base:Nat) (w:World):bO prog { qG prog with x:=xM8 N } base w :=
 ⟨(aW _).1,iZ (fun b o l h=>h.elim) (fun w' _=>FrAt.none _ _) (fun w' _=>FsAt.none _ _)⟩
def Rj (wd N:Nat) (Z:List At):List Fact:=[.slot 0 (.im (iI wd)),.slot 3 (.sl 8 0 N N),.row 8 true Z]
def SE (wd N i:Nat) (Z:List At):List Fact:=.slot 10 (.im (iI N)) :: .slot 11 (.im (iI i))::Rj wd N Z
theorem Zv (wd:Nat):bE prog (qG prog) 29 (fun _=>tC T0 fun _=>none) 60 (cA kF) (fT 0 [.v (.im (iI wd))]) [.slot 0 (.im (iI wd))]=some ([],.nrm,[.slot 0 (.im (iI wd))]):=by kernel_rfl
theorem Zu (wd N:Nat):bE prog { qG prog with x:=xM8 N } 29 (fun _=>tC T0 (assoc [(6,iI (2*wd)),(7,iI N)])) 60 (cA (cB kF)) [.slot 0 (.im (iI wd))] (Rj wd N (sA N))=some ([aN .mul .i64 2 (Int.ofNat wd)=some (iI (2*wd)),aN .sub .i64 (Int.ofNat (2*wd)) 1=some (iI N),∃e,∀w:World,(Instr.makeSlice 92 (iI N) (iI N)).run prog w=.ok (.slice (some ⟨w.heap.size,0,none⟩) N N) (w.alloc (.cells (aA (sA N)).toArray e))],.nrm,Rj wd N (sA N)):=by kernel_rfl
theorem Zt (wd N:Nat) (Z:List At):bE prog (qG prog) 29 (fun _=>tC T0 fun _=>none) 60 (cA (cA (cB (cB kF)))) (Rj wd N Z) (SE wd N 0 Z)=some ([],.nrm,SE wd N 0 Z):=by kernel_rfl
def xI (i:Nat) (Z:List At) (gen:Nat→Option Value):Ext:={ Ext.none with idx:=assoc [(21,i)],st:=assoc [(21,Z)],gen:=gen,T2:=Dt,T3:=Dg,T4:=Dr,T5:=kI,T6:=Ds }
theorem Vw (i:Nat) (Z:List At) (gen:Nat→Option Value) (base:Nat) (w:World):bO prog { qG prog with x:=xI i Z gen } base w :=
 ⟨(aW _).1,iZ (fun b o l h=>h.elim) (fun w' _=>FrAt.none _ _) (fun w' _=>FsAt.none _ _)⟩
theorem Zw (wd N i:Nat) (Z Z':List At):bE prog { qG prog with x:=xI i Z' (assoc [(19,u6 (wd+i))]) } 29 (fun _=>tC UD (assoc [(12,.bool true),(18,iI (wd+i)),(22,iI (i+1))])) 60 LA (SE wd N i Z) (SE wd N (i+1) Z')=some ([aN .lss .i64 (Int.ofNat i) (Int.ofNat N)=some (.bool true),aN .add .i64 (Int.ofNat wd) (Int.ofNat i)=some (iI (wd+i)),∀w:World,(convert 3 22 (iI (wd+i))).run prog w=.ok (u6 (wd+i)) w,wd+i<18446744073709551616,Int.ofNat i=Int.ofNat i,i<N,put Z (0+i*4) [.q (wd+i)]=some Z',aN .add .i64 (Int.ofNat i) 1=some (iI (i+1))],.nrm,SE wd N (i+1) Z'):=by kernel_rfl
theorem aEE (wd N i:Nat) (Z:List At):bE prog (qG prog) 29 (fun _=>tC T0 (assoc [(12,.bool false)])) 60 LA (SE wd N i Z) (SE wd N i Z)=some ([aN .lss .i64 (Int.ofNat i) (Int.ofNat N)=some (.bool false)],.ex 0,SE wd N i Z):=by kernel_rfl
theorem Zz (v:Value):eH prog (qG prog) 29 (tC T0 fun _=>none) ((aD (cA Ij)).extract 0 1) [.slot 3 (.im v)] [.slot 24 (.im v)]=some ([],[.slot 24 (.im v)]):=by kernel_rfl
theorem Zy (v:Value):eH prog (qG prog) 29 (tC T0 fun _=>none) ((aD (cA Ij)).extract 2 6) [.slot 25 (.tu [.im v,.im (.int .i64 0)])] [.slot 3 (.im v)]=some ([],[.slot 3 (.im v)]):=by kernel_rfl
theorem aEF (v:Value):bE prog (qG prog) 29 (fun _=>tC T0 fun _=>none) 60 (cB Ij) [.slot 3 (.im v)] [.slot 2 (.im v)]=some ([],.rt,[.slot 2 (.im v)]):=by kernel_rfl
theorem ZS {w0:World} {wd N:Nat} (h:2*wd=N+1) (hN:N≤64):Calls prog 109 [iI wd].toArray w0 fun e w'=>∃bo,e=.returned (aV bo 0 N N)∧Below w0.heap.size w0 w'∧w0.heap.size≤bo∧LM w' bo N (fun j=>inv (wd+j)):=by
 have hG:∀base w,bO prog (qG prog) base w:=fun _ _=>(aW _).w _ _
 have hT:∀base w,∀n d:Nat,TabOkW prog T0 base w:=fun _ _ _ _=>(bT _).w _ _
 refine cQ func109 (cs:=[.v (.im (iI wd))]) (args:=[iI wd]) (c:=kF) rfl ⟨rfl,trivial⟩ (Nat.le_of_ble_eq_true (by kernel_rfl)) fun a w hA => ?_
 have hnt:f109.ntmps=29:=Zx;rw[hnt]at hA;rw[Ii];refine wp_seq (aB aI (hT _ _) (hG _ _) (Zv wd) trivial hA fun a w hA => ?_);refine wp_seq (aB aI (hT _ _) (Nq N _ _) (Zu wd N) ⟨Me (i:=2) (by omega),by rw[show N=2*wd-1 by omega]; exact qT (i:=2*wd) (k:=1) (by omega) (by omega),PA (t:=92) (e:=27) (z:=[.q 0]) (v:=.int .u64 0) (n:=4) (by8:=32) (by kernel_rfl) (by kernel_rfl) rfl uD (by omega) (by omega) (by omega),trivial⟩ hA fun a w hA => ?_);refine wp_seq (wp_seq (aB aI (hT _ _) (hG _ _) (Zt wd N _) trivial hA fun a w hA => ?_));refine wp_block ?_;have hz:sA N=mL (el fun j=>wd+j) [.q 0] N 0:=(ZG _ _ _).symm;rw[hz]at hA;refine kE aI (fun i=>SE wd N i (mL (el fun j=>wd+j) [.q 0] N i)) N (fun i hi => ?_) (.ex 0) (by simp) (SE wd N N (mL (el fun j=>wd+j) [.q 0] N N)) ⟨_,_,_,_,hG _ _,hT _ _,aEE wd N N _,dS (Nat.le_refl _),trivial⟩ hA fun a w hA => ?_
 ·exact⟨_,_,_,_,Vw i _ _ _ _,fun _ _=>FE.w _ _,Zw wd N i _ (mL (el fun j=>wd+j) [.q 0] N (i+1)),fB hi,sO (by omega),BX (by omega),by omega,rfl,hi,EB (f:=el fun j=>wd+j) (c:=4) (fun _=>rfl) rfl hi (Nat.zero_add _),gM (k:=1) (by omega),trivial⟩
 simp only[EA.out,Exit.then,Exit.inBlock,if_true];rw[ZF]at hA;obtain⟨b,hA⟩:=hA.at (k:=8) (l:=bP (el fun j=>wd+j) 0 N) (by simp[SE,Rj]);have hL:LM w b N (fun j=>wd+j):=hA.old (k:=8) (by simp[SE,Rj]) (by simp);have hbl:=hA.below;have hS:=bB (nt:=29) (w:=w) (a:=a) (ts:=[(3,aV b 0 N N)]) hA.defers hA.size (fun x hx=>by
  cases List.mem_singleton.1 hx;exact (hA.im (s:=3) (k:=8) (o:=0) (n:=N) (m:=N) (b:=b) (by simp[SE,Rj]) (by simp)).slot (by simp))
 clear hA;refine wp_seq (bQ (l:=List.range' 0 ((aD (cA Ij)).extract 0 1).size++(1::(List.range' 2 ((aD (cA Ij)).extract 2 6).size++[]))) (by kernel_rfl) ?_);refine aU (c:=tC T0 _) (hT _ _ 0) (hG _ _) (Zz _) trivial (by kernel_rfl) hS fun a2 w2 hA => ?_
 obtain⟨o1,ho1,⟨ts1,hop1⟩,hd1,hg1⟩:∃x,(aD (cA Ij))[1]?=some x∧(∃ts,x.op=.call ⟨.value (.func 123),#[.const (.int .i64 2),.tmp 24],ts⟩)∧x.dst=some 25∧x.guard=none:=⟨_,rfl,⟨_,rfl⟩,rfl,rfl⟩
 have hr:∀j,j<N→wd+j<RM:=fun j hj=>Nat.lt_of_lt_of_le (show wd+j<200 by omega) (by decide)
 refine bM ho1 hg1 (dI hop1 (vs:=[.int .i64 2,aV b 0 N N]) (List.cons_eq_cons.2 ⟨rfl,List.cons_eq_cons.2 ⟨cU (hA.slot (s:=24) (by simp)),rfl⟩⟩) (fun args=>bR func123 (by kernel_rfl) (by kernel_rfl) args _) (LD (hL.on hA.below) (by omega) hr) fun e w3 hw => ?_);obtain⟨bo,rfl,hb3,hge,hM⟩:=hw;refine⟨_,rfl,?_⟩;rw[hd1];have hB3:=hbl.trans ((hA.below.mono hbl.size).trans (hb3.mono (Nat.le_trans hbl.size hA.below.size)));have hS:=zZ (nt:=29) (w:=w3) (a:=a2.put (some 25) (.tuple #[aV bo 0 N N,.int .i64 0])) (ts:=[(25,.tu [.im (aV bo 0 N N),.im (.int .i64 0)])]) hA.defers (by rw[aG]; exact hA.size) (fun x hx=>by
  cases List.mem_singleton.1 hx;exact aY _ _ _ (by rw[hA.size]; decide))
 refine aU (c:=tC T0 _) (hT _ _ 0) (hG _ _) (Zy _) trivial (by kernel_rfl) hS fun a4 w4 hA4 => ?_
 clear hS;show (cB Ij).wp _ _ _ _;refine aB aI (hT _ _) (hG _ _) (aEF _) trivial hA4 fun a5 w5 hA5 => ?_
 exact cT (l:=[.im (aV bo 0 N N)]) (r:=.one (.im (aV bo 0 N N))) (by kernel_rfl) (by kernel_rfl) hA5 ⟨bo,rfl,hB3.trans (hA5.below.mono hB3.size),Nat.le_trans (Nat.le_trans hbl.size hA.below.size) hge,hM.on hA5.below⟩
theorem YZ {w:World} {p:Option Addr} {N m:Nat} {f:Nat→Nat} (h:LV w (.slice p N m) N f) (hN:N≤65536):FIs w p N (fun j c=>fw (f j) c):=by
 obtain⟨p',m',e,h2,h3,h4⟩:=h;cases e;refine⟨by omega,fun k hk=>fH _,fun h0 => ?_⟩;obtain⟨b,o,rfl,hb,hr⟩:=h4 h0;refine⟨b,o,rfl,hb,fun k hk => ?_⟩;have hc:w.rangeAt b (o+k*4) (aA [At.q (f k)]):=(mW hb hr hk).2;have hc:w.rangeAt b (o+k*4) [.int .u64 (fw (f k) 0:Nat),.int .u64 (fw (f k) 1:Nat),.int .u64 (fw (f k) 2:Nat),.int .u64 (fw (f k) 3:Nat)]:=hc;exact⟨hc 0 _ rfl,hc 1 _ rfl,hc 2 _ rfl,hc 3 _ rfl⟩
theorem Ba {f:Nat→Nat} {j:Nat} (h:f j<aF):kZ (fun j c=>fw (f j) c) j=f j:=fA h
theorem Bl {f g X Y:Nat→Nat}:∀n,(∀j,j<n→X j=f j)→(∀j,j<n→Y j=g j)→GT RM X Y n=Bm f g n
 | 0,_,_=>rfl
 | n+1,h1,h2=>by
  show (GT RM X Y n+X n*Y n)%RM=(Bm f g n+(f n*g n)%RM)%RM;rw[Bl n (fun j hj=>h1 j (by omega)) (fun j hj=>h2 j (by omega)),h1 n (by omega),h2 n (by omega),Nat.add_mod_mod]
theorem SV {w:World} {v v2:Value} {N:Nat} {f g:Nat→Nat} (hv:LV w v N f) (hv2:LV w v2 N g) (hN:N≤65536) (hf:oU N f) (hg:oU N g):bD prog 144 (.many [.fl [.q (Bm f g N)],.im (.int .i64 0)]) [.int .i64 2,v,v2] w:=by
 obtain⟨p,m,rfl,_⟩:=id hv;obtain⟨q,m2,rfl,_⟩:=id hv2;have e1:∀j,j<N→kZ (fun j c=>fw (f j) c) j=f j:=fun j hj=>Ba (kO (hf j hj))
 have e2:∀j,j<N→kZ (fun j c=>fw (g j) c) j=g j:=fun j hj=>Ba (kO (hg j hj))
 refine (Jq 2 Go.Proofs.YtpbljiejmfahcaaGreatDoor.FR GJ p q N m N m2 _ _ rfl hN (fun k hk=>by rw[e1 k hk]; exact hf k hk) (fun k hk=>by rw[e2 k hk]; exact hg k hk) w (YZ hv hN) (YZ hv2 hN)).mono ?_
 rintro e w' ⟨s0,s1,s2,s3,rfl,hs,hw,hb⟩
 rw[show GT Go.Proofs.YtpbljiejmfahcaaGreatDoor.FR.M _ _ N=Bm f g N from Bl N e1 e2]at hw;obtain⟨rfl,rfl,rfl,rfl⟩:=jN hs (kO (Bj f g N)) hw;exact⟨rfl,hb⟩
def Sh (v v2:Value) (N:Nat) (f g:Nat→Nat):gE
 | [.v (.im (.int .i64 2)),.v (.im u),.v (.im t)]=>some ([u=v,t=v2],.many [.fl [.q (Bm f g N)],.im (.int .i64 0)])
 | _=>none
theorem Jh {w:World} {v v2:Value} {N:Nat} {f g:Nat→Nat} (hv:LV w v N f) (hv2:LV w v2 N g) (hN:N≤65536) (hf:oU N f) (hg:oU N g):∀cs pre r,Sh v v2 N f g cs=some (pre,r)→aT pre→∀(args:List Value),cD w cs args→bD prog 144 r args w:=by
 intro cs pre r hg' hp args ha;unfold Sh at hg';split at hg'
 ·cases hg'
  match args,ha with
  | [a1,a2,a3],ha =>
   have h1:a1=.int .i64 2:=ha.1;have h2:a2=_:=ha.2.1;have h3:a3=_:=ha.2.2.1;obtain⟨rfl,rfl,_⟩:=hp;subst h1; subst h2; subst h3;exact SV hv hv2 hN hf hg
  | [],ha=>exact ha.elim
  | [_],ha=>exact ha.2.elim
  | [_,_],ha=>exact ha.2.2.elim
  | _::_::_::_::_,ha=>exact ha.2.2.2.elim
 ·cases hg'
theorem LV.piece {w:World} {b o N m i k:Nat} {f:Nat→Nat} (h:LV w (aV b o N m) N f) (hi:i+k≤N):LV w (aV b (o+i*4) k (m-i)) k (fun j=>f (i+j)):=by
 obtain⟨p',m',e,h2,h3,h4⟩:=h;cases e;refine⟨_,_,rfl,by omega,fun j hj=>h3 _ (by omega),fun h0 => ?_⟩;obtain⟨b',o',e,hb,hr⟩:=h4 (by omega);cases e;refine⟨b,o+i*4,rfl,hb,?_⟩;have key:∀(n s:Nat),i+s+n≤N→w.rangeAt b (o+(i+s)*4) (aA (bP (el fun j=>f (i+j)) s n)):=fun n=>by
  induction n with
  | zero=>intro s _ j v hj; simp[bP,aA]at hj
  | succ n ih =>
   intro s hs j v hj;have hj:(aA (el (fun j=>f (i+j)) s++bP (el fun j=>f (i+j)) (s+1) n))[j]?=some v:=hj;rw[aJ]at hj
   by_cases hj4:j<4
   ·rw[List.getElem?_append_left (by exact hj4)]at hj;exact (mW hb hr (show i+s<N by omega)).2 j v hj
   ·rw[List.getElem?_append_right (by show 4≤j; omega)]at hj;have:=ih (s+1) (by omega) (j-4) v hj
    rwa [show o+(i+(s+1))*4+(j-4)=o+(i+s)*4+j by omega]at this
 exact key k 0 (by omega)
theorem WB {b o N m i j:Nat} (h1:i≤j) (h2:j≤m) (h3:i<m) (w:World):(Instr.sliceAt 92 (aV b o N m) (some (iI i)) (some (iI j)) none).run prog w=.ok (aV b (o+i*4) (j-i) (m-i)) w:=by
 have hmi:¬m=i:=by omega
 have hu:prog.underlying 92=some (.slice 27):=underlying92;have hs:cL prog 27=some 4:=by kernel_rfl
 simp[Instr.sliceAt,Instr.slice,run_underlying hu,Instr.sliceBounds,Instr.sliceBound,asIntOf,bA hs,Addr.add_mid,Nat.add_assoc,h1,h2,hmi,aV,iI]
 try omega
def aFH (v v2:Value) (N:Nat) (f g:Nat→Nat):Tab:=T0.add 144 (Sh v v2 N f g)
theorem Oy (v v2:Value) (N:Nat) (f g:Nat→Nat):bZ prog (qG prog) (fun _=>tC (aFH v v2 N f g) fun _=>none) f127 60 [.v (.im v),.v (.im v2)]=some ([v=v,v2=v2],.one (.fl [.q (Bm f g N)])):=by kernel_rfl
theorem Bo {w:World} {v v2:Value} {N:Nat} {f g:Nat→Nat} (hv:LV w v N f) (hv2:LV w v2 N g) (hN:N≤65536) (hf:oU N f) (hg:oU N g):bD prog 127 (.one (.fl [.q (Bm f g N)])) [v,v2] w :=
 bC aI (fun _ _=>TabOkW.add ((bT _).w _ _) func144 (by kernel_rfl) (by kernel_rfl) (fun w' hw=>Jh (hv.on hw) (hv2.on hw) hN hf hg)) ((aW _).w _ _) func127 (Oy v v2 N f g) ⟨rfl,rfl,trivial⟩ (args:=[v,v2]) ⟨rfl,rfl,trivial⟩
def rP (wd fl pt:Nat) (cs is:Value):List At:=[.c (iI wd),.c (iI fl),.c (iI pt),.c cs,.c is]
theorem Fm (w:World) (wd fl pt i ib M:Nat) (cs:Value):bZ prog { qG prog with x:=xO w (fun _=>none) (fun _=>none) (assoc [(13,aV ib (0+i*4) (i+wd-i) (M-i))]) } (fun _=>tC T0 (assoc [(12,iI (i+wd))])) f128 60 [.v (.fl (rP wd fl pt cs (aV ib 0 M M))),.v (.im (iI i))]=some ([aN .add .i64 (Int.ofNat i) (Int.ofNat wd)=some (iI (i+wd)),∀w:World,(Instr.sliceAt 92 (aV ib 0 M M) (some (iI i)) (some (iI (i+wd))) none).run prog w=.ok (aV ib (0+i*4) (i+wd-i) (M-i)) w],.one (.im (aV ib (0+i*4) (i+wd-i) (M-i)))):=by kernel_rfl
theorem QQ {w:World} {wd fl pt i ib M:Nat} {cs:Value} (hi:i<M) (hw:i+wd≤M) (hM:M≤65536):bD prog 128 (.one (.im (aV ib (0+i*4) wd (M-i)))) [.agg (aA (rP wd fl pt cs (aV ib 0 M M))).toArray,iI i] w:=by
 have h:=bC (w:=w) aI (fun _ _=>(bT _).w _ _) (eK w _ _ _) func128 (Fm w wd fl pt i ib M cs) ⟨sO (by omega),fun w=>WB (by omega) hw hi w,trivial⟩ (args:=[.agg (aA (rP wd fl pt cs (aV ib 0 M M))).toArray,iI i]) ⟨rfl,rfl,trivial⟩
 rwa [show i+wd-i=wd by omega]at h
theorem Fl (wd fl pt r:Nat) (cs is:Value):bZ prog (qG prog) (fun _=>tC T0 (assoc [(9,iI (fl/2)),(12,.bool true)])) f125 60 [.v (.fl (rP wd fl pt cs is)),.v (.im (iI r))]=some ([aN .quo .i64 (Int.ofNat fl) 2=some (iI (fl/2)),aN .lss .i64 (Int.ofNat r) (Int.ofNat (fl/2))=some (.bool true)],.one (.im (iI wd))):=by kernel_rfl
theorem Fk (wd fl pt r:Nat) (cs is:Value):bZ prog (qG prog) (fun _=>tC T0 (assoc [(9,iI (fl/2)),(12,.bool false),(19,iI (fl/2+pt)),(20,.bool true)])) f125 60 [.v (.fl (rP wd fl pt cs is)),.v (.im (iI r))]=some ([aN .quo .i64 (Int.ofNat fl) 2=some (iI (fl/2)),aN .lss .i64 (Int.ofNat r) (Int.ofNat (fl/2))=some (.bool false),aN .add .i64 (Int.ofNat (fl/2)) (Int.ofNat pt)=some (iI (fl/2+pt)),aN .geq .i64 (Int.ofNat r) (Int.ofNat (fl/2+pt))=some (.bool true)],.one (.im (iI wd))):=by kernel_rfl
theorem Fj (wd fl pt r:Nat) (cs is:Value):bZ prog (qG prog) (fun _=>tC T0 (assoc [(9,iI (fl/2)),(12,.bool false),(19,iI (fl/2+pt)),(20,.bool false)])) f125 60 [.v (.fl (rP wd fl pt cs is)),.v (.im (iI r))]=some ([aN .quo .i64 (Int.ofNat fl) 2=some (iI (fl/2)),aN .lss .i64 (Int.ofNat r) (Int.ofNat (fl/2))=some (.bool false),aN .add .i64 (Int.ofNat (fl/2)) (Int.ofNat pt)=some (iI (fl/2+pt)),aN .geq .i64 (Int.ofNat r) (Int.ofNat (fl/2+pt))=some (.bool false)],.one (.im (iI 1))):=by kernel_rfl
theorem YD {i n:Nat}:aN .geq .i64 (Int.ofNat i) (Int.ofNat n)=some (.bool (decide (n≤i))):=by
 show some (Value.bool (decide ((i:Int)≥(n:Int))))=_;congr 2;exact decide_eq_decide.2 ⟨fun h=>by omega,fun h=>by omega⟩
theorem WM {w:World} {wd fl pt r:Nat} {cs is:Value} (hf:fl≤65536) (hp:pt≤65536):bD prog 125 (.one (.im (iI (rz wd fl pt r)))) [.agg (aA (rP wd fl pt cs is)).toArray,iI r] w:=by
 have hq:aN .quo .i64 (Int.ofNat fl) 2=some (iI (fl/2)):=YC (k:=2) (by omega) (by omega);have hT:∀n d:Nat,TabOkW prog T0 w.heap.size w:=fun _ _=>(bT _).w _ _
 have hG:bO prog (qG prog) w.heap.size w:=(aW _).w _ _;unfold rz
 by_cases h1:r<fl/2
 ·rw[if_pos h1];exact bC aI hT hG func125 (Fl wd fl pt r cs is) ⟨hq,fB h1,trivial⟩ (args:=[.agg (aA (rP wd fl pt cs is)).toArray,iI r]) ⟨rfl,rfl,trivial⟩
 ·rw[if_neg h1]
  by_cases h2:fl/2+pt≤r
  ·rw[if_pos h2];exact bC aI hT hG func125 (Fk wd fl pt r cs is) ⟨hq,dS (by omega),sO (by omega),by rw[YD,decide_eq_true h2],trivial⟩ (args:=[.agg (aA (rP wd fl pt cs is)).toArray,iI r]) ⟨rfl,rfl,trivial⟩
  ·rw[if_neg h2];exact bC aI hT hG func125 (Fj wd fl pt r cs is) ⟨hq,dS (by omega),sO (by omega),by rw[YD,decide_eq_false h2],trivial⟩ (args:=[.agg (aA (rP wd fl pt cs is)).toArray,iI r]) ⟨rfl,rfl,trivial⟩
noncomputable abbrev clF:Func:=f124
def pR:Code:=(f124.body).getD .skip
def Tx:Code:=cA (cB (cB pR))
theorem Kl:pR=.seq (cA pR) (.seq (cA (cB pR)) (.seq (.region 3 (aD Tx) false) .ret)):=by kernel_rfl
theorem aCf:clF.ntmps=8:=by kernel_rfl
theorem aCe (v:Value):bE prog (qG prog) 8 (fun _=>tC T0 fun _=>none) 60 (cA pR) (fT 0 [.v (.im v)]) [.slot 0 (.im v)]=some ([],.nrm,[.slot 0 (.im v)]):=by kernel_rfl
theorem aCd (w:World) (v:Value):bE prog { qG prog with x:=xO w (fun _=>none) (fun _=>none) (assoc [(4,.bool false)]) } 8 (fun _=>tC T0 fun _=>none) 60 (cA (cB pR)) [.slot 0 (.im v)] [.slot 0 (.im v)]=some ([gN .eql 92 (.tmp 3) (.const (.slice none 0 0)) v (.slice none 0 0) (.bool false)],.nrm,[.slot 0 (.im v)]):=by kernel_rfl
theorem aCc (v u:Value):eH prog (qG prog) 8 (tC T0 fun _=>none) ((aD Tx).extract 1 2) [.slot 5 (.im u),.slot 0 (.im v)] [.slot 6 (.im v),.slot 5 (.im u)]=some ([],[.slot 6 (.im v),.slot 5 (.im u)]):=by kernel_rfl
theorem aCb (v:Value):eH prog (qG prog) 8 (tC T0 fun _=>none) ((aD Tx).extract 3 4) [.slot 7 (.im v)] [.slot 2 (.im v)]=some ([],[.slot 2 (.im v)]):=by kernel_rfl
theorem Sz (d:Nat) (b o n m:Nat) (w:World):(Op.equalIn (d+1) 92 (aV b o n m) (.slice none 0 0)).run prog w=.ok false w:=by
 have hu:prog.underlying 92=some (.slice 27):=underlying92;simp[Op.equalIn,aV,run_underlying hu]
theorem Ow (x y:Operand) (b o n m:Nat):gN .eql 92 x y (aV b o n m) (.slice none 0 0) (.bool false):=fun w=>by
 have hu:prog.underlying 92=some (.slice 27):=underlying92;have h:=Sz 9999 b o n m w;have e:Op.maxDepth=9999+1:=rfl;simp[eqGuard,binOp,go_sem,run_underlying hu,Op.equal,e,h,show aV b o n m=Value.slice (some ⟨b,o,none⟩) n m from rfl]at h ⊢;simp[h]
theorem Kt (w:World):(Instr.buildSlice 92 0 #[]).run prog w=.ok (aV w.heap.size 0 0 0) (w.alloc (.cells #[] 27)):=by
 obtain⟨ht,i,z,hi,hz,hsize,hby,hzs,hsz⟩:=lD SO;simp[Instr.buildSlice,run_underlying ht,sizeOf,typeInfo,hi,newRow,aV,Instr.fill,show Array.range 0 = #[] by simp[Array.range]]
theorem GZ (f:Nat→Nat):∀(n s:Nat),∀v∈aA (bP (el f) s n),v.oneCell'=true
 | 0,s,v,h=>by simp[bP,aA]at h
 | n+1,s,v,h=>by
  have e:aA (bP (el f) s (n+1))=aA [At.q (f s)]++aA (bP (el f) (s+1) n):=aJ [At.q (f s)] _;rw[e]at h
  rcases List.mem_append.1 h with h|h
  ·exact WT _ v h
  ·exact GZ f n (s+1) v h
theorem Ca {w0:World} {b o N m:Nat} {f:Nat→Nat} (hv:LV w0 (aV b o N m) N f) (h0:0<N) (hN:N≤131072) :
  Calls prog 124 [aV b o N m].toArray w0 fun e w'=>∃c cap,e=.returned (aV c 0 N cap)∧N≤cap∧Below w0.heap.size w0 w'∧w0.heap.size≤c∧Own w' c (bP (el f) 0 N):=by
 have hG:∀base w,bO prog (qG prog) base w:=fun _ _=>(aW _).w _ _
 have hT:∀base w,∀n d:Nat,TabOkW prog T0 base w:=fun _ _ _ _=>(bT _).w _ _
 have hnt:f124.ntmps=8:=aCf;refine cQ func124 (cs:=[.v (.im (aV b o N m))]) (args:=[aV b o N m]) (c:=pR) rfl ⟨rfl,trivial⟩ (Nat.le_of_ble_eq_true (by kernel_rfl)) fun a w hA => ?_
 rw[hnt]at hA;rw[Kl];refine wp_seq (aB aI (hT _ _) (hG _ _) (aCe _) trivial hA fun a w hA => ?_);refine wp_seq (aB aI (hT _ _) (eK w0 _ _ _) (aCd w0 _) ⟨Ow _ _ _ _ _ _,trivial⟩ hA fun a w hA => ?_);have t0:=hA.slot (s:=0) (v:=aV b o N m) (by simp);have hd:=hA.defers;have hsz:=hA.size;have hbl:=hA.below;clear hA;refine wp_seq (bQ (l:=0::(List.range' 1 ((aD Tx).extract 1 2).size++(2::(List.range' 3 ((aD Tx).extract 3 4).size++[])))) (by kernel_rfl) ?_);obtain⟨o0,ho0,hop0,hd0,hg0⟩:∃x,(aD Tx)[0]?=some x∧x.op=.buildSlice 92 0 #[]∧x.dst=some 5∧x.guard=none:=⟨_,rfl,rfl,rfl,rfl⟩
 have hrun0:(execOp a.eval o0).run prog w=.ok (.value (aV w.heap.size 0 0 0)) (w.alloc (.cells #[] 27)):=by
  simp[execOp,hop0,Kt w]
 refine bM ho0 hg0 (cO hrun0 ?_);rw[hd0];have hb1:Below w.heap.size w (w.alloc (.cells #[] 27)):=(Below.refl _ w).alloc (Nat.le_refl _) _;have hap:AppAt (w.alloc (.cells #[] 27)) w.heap.size 27 4 0 0:=⟨#[],World.alloc_heap_new _ _,Nat.le_refl _,Nat.zero_le _,rfl⟩;generalize hc0:w.heap.size=c0 at hap;have hc0':w0.heap.size≤c0:=by rw[←hc0]; exact hbl.size
 generalize w.alloc (.cells #[] 27)=w1 at *;have hb1:Below w0.heap.size w0 w1:=hbl.trans (hb1.mono (by rw[hc0]; exact hc0'));have hS:=bB (nt:=8) (w:=w1) (a:=a.put (some 5) (aV c0 0 0 0)) (ts:=[(5,aV c0 0 0 0),(0,aV b o N m)]) hd (by rw[aG]; exact hsz) (fun x hx=>by
  simp only[List.mem_cons,List.not_mem_nil,or_false]at hx
  rcases hx with rfl|rfl
  ·exact aY _ _ _ (by rw[hsz]; decide)
  ·exact aS t0 (by simp))
 refine aU (c:=tC T0 _) (hT _ _ 0) (hG _ _) (aCc _ _) trivial (by kernel_rfl) hS fun a2 w2 hA => ?_
 obtain⟨o2,ho2,⟨ty,hop2⟩,hd2,hg2⟩:∃x,(aD Tx)[2]?=some x∧(∃ty:Nat,x.op=.call ⟨.builtin .append,#[.tmp 5,.tmp 6],#[92,92]⟩∧x.type=ty)∧x.dst=some 7∧x.guard=none:=⟨_,rfl,⟨_,rfl,rfl⟩,rfl,rfl⟩
 have hv2:=hv.on (hb1.trans (hA.below.mono hb1.size));obtain⟨p',m',e,_,_,h4⟩:=hv2;cases e;obtain⟨b',o',e,hb',hr⟩:=h4 h0;cases e;obtain⟨c,cap,w3,hr',a1,q2,q3,q4,a5,a6,a7⟩:=uT (P:=prog) w2 (ty:=o2.type) SO (u:=aV c0 0 0 0) (n:=0) (xs:=[]) (Or.inr ⟨c0,0,rfl,hap.shape hA.shape,fun j v hj=>by simp at hj,rfl⟩) (ad:=⟨b,o,none⟩) (m:=N) (c:=m) (news:=aA (bP (el f) 0 N)) (nO f N 0) (fun j v hj=>by
  have e:(⟨b,o,none⟩:Addr).add j=⟨b,o+j,none⟩:=by simp[Addr.add]
  rw[e];exact hr j v hj) (GZ f N 0) h0 (by omega) (by unfold maxLen; omega)
 rw[Nat.zero_add]at hr';have hcap:N≤cap:=by obtain⟨_,_,h,_⟩:=a1; omega
 have hrun2:(execOp a2.eval o2).run prog w2=.ok (.value (aV c 0 N cap)) w3:=by
  unfold execOp;simp only[hop2.1,resolve,invoke,builtin,Sem.run_bind,Sem.run_pure,Result.andThen_ok,List.map_toArray,List.map_cons,List.map_nil,cU (hA.slot (s:=5) (v:=aV c0 0 0 0) (by simp)),cU (hA.slot (s:=6) (v:=aV b o N m) (by simp))];rw[show aV b o N m=Value.slice (some ⟨b,o,none⟩) N m from rfl,hr'];rfl
 refine bM ho2 hg2 (cO hrun2 ?_);rw[hd2];have hb2:Below w0.heap.size w0 w2:=hb1.trans (hA.below.mono hb1.size);have hb3:Below w0.heap.size w0 w3:=hb2.grown a5 hb2.size (fun k hk=>by
  have:k=c0:=by simpa[aV,Value.ownBlock,eq_comm]using hk
  omega)
 have hcge:w0.heap.size≤c:=by
  rcases a7 with h|⟨cap0,h⟩
  ·exact Nat.le_trans hb2.size h
  ·have:c0=c:=by simp only[aV,Value.slice.injEq,Option.some.injEq,Addr.mk.injEq]at h; exact h.1.1
   omega
 have hS3:=bB (nt:=8) (w:=w3) (a:=a2.put (some 7) (aV c 0 N cap)) (ts:=[(7,aV c 0 N cap)]) hA.defers (by rw[aG]; exact hA.size) (fun x hx=>by
  cases List.mem_singleton.1 hx;exact aY _ _ _ (by rw[hA.size]; decide))
 refine aU (c:=tC T0 _) (hT _ _ 0) (hG _ _) (aCb _) trivial (by kernel_rfl) hS3 fun a4 w4 hA4 => ?_
 have hO:Own w3 c (bP (el f) 0 N):=⟨q2,q3,q4⟩;exact wp_ret (cT (l:=[.im (aV c 0 N cap)]) (r:=.one (.im (aV c 0 N cap))) (by kernel_rfl) (by kernel_rfl) hA4 ⟨c,cap,rfl,hcap,hb3.trans (hA4.below.mono hb3.size),hcge,hO.on hA4.below⟩)
noncomputable abbrev aEo:Func:=f112
def fY:Code:=(f112.body).getD .skip
def Vb:Code:=cB (cB (cB (cB fY)))
def fP:Code:=kD (kD (cB (cA Vb)))
def Hc:Code:=kD (cA (cB (cB fP)))
def pm1:Code:=cA (cB Hc)
def pm2:Code:=cA (cB (cB Hc))
def pm3:Code:=cA (cB (cB (cB Hc)))
def Ha:Code:=kD (kD (cB pm1))
def Gz:Code:=kD (kD (cB pm2))
def Gy:Code:=kD (kD (cB pm3))
theorem Gx:fY=.seq (cA fY) (.seq (cA (cB fY)) (.seq (cA (cB (cB fY))) (.seq (.region 3 (aD (cA (cB (cB (cB fY))))) false) (.seq (.seq (cA (cA Vb)) (.block 0 (.loop fP))) (cB Vb))))):=by kernel_rfl
theorem Gw:fP=.seq (cA fP) (.seq (cA (cB fP)) (.seq (.block 1 (.seq (cA Hc) (.seq (.seq (cA pm1) (.block 2 (.loop Ha))) (.seq (.seq (cA pm2) (.block 4 (.loop Gz))) (.seq (.seq (cA pm3) (.block 6 (.loop Gy))) (cB (cB (cB (cB Hc))))))))) (cB (cB (cB fP))))):=by kernel_rfl
theorem Xv:aEo.ntmps=89:=by kernel_rfl
def vD (pb wd R r b6 m6 b7 m7:Nat) (l6 l7:List At):List Fact:=[.slot 2 (.im (ptV pb 0)),.slot 5 (.im (iI wd)),.slot 6 (.sl 1006 0 wd m6),.row 1006 true l6,.at 1006 b6,.slot 7 (.sl 1007 0 wd m7),.row 1007 true l7,.at 1007 b7,.slot 26 (.im (iI R)),.slot 27 (.im (iI r))]
def ON (pb wd R r b6 m6 b7 m7:Nat) (l6 l7:List At):List Fact:=.slot 8 (.im (iI r))::vD pb wd R r b6 m6 b7 m7 l6 l7
def Qa (cv:Value) (j pb wd R r b6 m6 b7 m7:Nat) (l6 l7:List At):List Fact:=.slot 39 (.im cv) :: .slot 40 (.im (iI wd)) :: .slot 41 (.im (iI j))::ON pb wd R r b6 m6 b7 m7 l6 l7
def Pz (k j pb wd R r b6 m6 b7 m7:Nat) (l6 l7:List At):List Fact:=.slot 58 (.im (iI k)) :: .slot 59 (.im (iI j))::ON pb wd R r b6 m6 b7 m7 l6 l7
def Py (j pb wd R r b6 m6 b7 m7:Nat) (l6 l7:List At):List Fact:=.slot 72 (.im (iI wd)) :: .slot 73 (.im (iI j))::ON pb wd R r b6 m6 b7 m7 l6 l7
def zM (w:World) (idx:Nat→Option Nat) (ld st:Nat→Option (List At)) (gen:Nat→Option Value):Ext:={ Ext.none with idx:=idx,ld:=ld,st:=st,gen:=gen,old:=oldOf w,T2:=Dt,T3:=Dg,T4:=Dr,T5:=kI,T6:=Ds }
theorem jS (w:World) (idx:Nat→Option Nat) (ld st:Nat→Option (List At)) (gen:Nat→Option Value):bO prog { qG prog with x:=zM w idx ld st gen } w.heap.size w :=
 ⟨(aW _).1,iZ (fun b o l h=>h) (fun w' _=>FrAt.none _ _) (fun w' _=>FsAt.none _ _)⟩
def Vv (N:Nat):Ext:={ Ext.none with mks:=assoc [(17,(N,sA N))],T2:=Dt,T3:=Dg,T4:=Dr,T5:=kI,T6:=Ds }
theorem Dy (N:Nat) (base:Nat) (w:World):bO prog { qG prog with x:=Vv N } base w :=
 ⟨(aW _).1,iZ (fun b o l h=>h.elim) (fun w' _=>FrAt.none _ _) (fun w' _=>FsAt.none _ _)⟩
section
variable (w:World) (pb wd R r b6 m6 b7 m7:Nat) (l6 l7:List At)
theorem Xz:bE prog (qG prog) 89 (fun _=>tC T0 (assoc [(28,.bool true)])) 60 (cA fP) (vD pb wd R r b6 m6 b7 m7 l6 l7) (.slot 28 (.im (.bool true))::vD pb wd R r b6 m6 b7 m7 l6 l7)=some ([aN .lss .i64 (Int.ofNat r) (Int.ofNat R)=some (.bool true)],.nrm,.slot 28 (.im (.bool true))::vD pb wd R r b6 m6 b7 m7 l6 l7):=by kernel_rfl
theorem Pw:bE prog (qG prog) 89 (fun _=>tC T0 fun _=>none) 60 (cA (cB fP)) (.slot 28 (.im (.bool true))::vD pb wd R r b6 m6 b7 m7 l6 l7) (vD pb wd R r b6 m6 b7 m7 l6 l7)=some ([],.nrm,vD pb wd R r b6 m6 b7 m7 l6 l7):=by kernel_rfl
theorem aEn:bE prog (qG prog) 89 (fun _=>tC T0 (assoc [(28,.bool false)])) 60 (cA fP) (vD pb wd R r b6 m6 b7 m7 l6 l7) (.slot 28 (.im (.bool false))::vD pb wd R r b6 m6 b7 m7 l6 l7)=some ([aN .lss .i64 (Int.ofNat r) (Int.ofNat R)=some (.bool false)],.nrm,.slot 28 (.im (.bool false))::vD pb wd R r b6 m6 b7 m7 l6 l7):=by kernel_rfl
theorem Xo:bE prog (qG prog) 89 (fun _=>tC T0 fun _=>none) 60 (cA (cB fP)) (.slot 28 (.im (.bool false))::vD pb wd R r b6 m6 b7 m7 l6 l7) (vD pb wd R r b6 m6 b7 m7 l6 l7)=some ([],.ex 0,vD pb wd R r b6 m6 b7 m7 l6 l7):=by kernel_rfl
theorem Xt:bE prog (qG prog) 89 (fun _=>tC T0 fun _=>none) 60 (cA Hc) (vD pb wd R r b6 m6 b7 m7 l6 l7) (ON pb wd R r b6 m6 b7 m7 l6 l7)=some ([],.nrm,ON pb wd R r b6 m6 b7 m7 l6 l7):=by kernel_rfl
theorem Xs (cb C co cm:Nat):bE prog { qG prog with x:=zM w (fun _=>none) (fun _=>none) (fun _=>none) (assoc [(31,aV cb 0 C C),(39,aV cb co wd cm)]) } 89 (fun _=>tC T0 (assoc [(34,iI (r*wd)),(36,iI (r+1)),(38,iI ((r+1)*wd))])) 60 (cA pm1) (ON pb wd R r b6 m6 b7 m7 l6 l7) (Qa (aV cb co wd cm) 0 pb wd R r b6 m6 b7 m7 l6 l7)=some ([oldOf w pb 3 [.c (aV cb 0 C C)],aN .mul .i64 (Int.ofNat r) (Int.ofNat wd)=some (iI (r*wd)),aN .add .i64 (Int.ofNat r) 1=some (iI (r+1)),aN .mul .i64 (Int.ofNat (r+1)) (Int.ofNat wd)=some (iI ((r+1)*wd)),∀w:World,(Instr.sliceAt 92 (aV cb 0 C C) (some (iI (r*wd))) (some (iI ((r+1)*wd))) none).run prog w=.ok (aV cb co wd cm) w],.nrm,Qa (aV cb co wd cm) 0 pb wd R r b6 m6 b7 m7 l6 l7):=by kernel_rfl
theorem Xy (cb co cm j x c:Nat) (l7':List At):bE prog { qG prog with x:=zM w (assoc [(44,j),(50,j),(54,j)]) (assoc [(45,[.q c]),(51,[.q x])]) (assoc [(54,l7')]) (fun _=>none) } 89 (fun _=>tC UC (assoc [(42,.bool true),(55,iI (j+1))])) 60 Ha (Qa (aV cb co wd cm) j pb wd R r b6 m6 b7 m7 l6 l7) (Qa (aV cb co wd cm) (j+1) pb wd R r b6 m6 b7 m7 l6 l7')=some ([aN .lss .i64 (Int.ofNat j) (Int.ofNat wd)=some (.bool true),Int.ofNat j=Int.ofNat j,j<wd,oldOf w cb (co+j*4) [.q c],dD [.q c]=4,Int.ofNat j=Int.ofNat j,j<wd,yC l7 (0+j*4) 4=some [.q x],x<RM,c<RM,Int.ofNat j=Int.ofNat j,j<wd,put l7 (0+j*4) [.q (gS x c)]=some l7',aN .add .i64 (Int.ofNat j) 1=some (iI (j+1))],.nrm,Qa (aV cb co wd cm) (j+1) pb wd R r b6 m6 b7 m7 l6 l7'):=by kernel_rfl
theorem Pv (cv:Value) (j:Nat):bE prog (qG prog) 89 (fun _=>tC T0 (assoc [(42,.bool false)])) 60 Ha (Qa cv j pb wd R r b6 m6 b7 m7 l6 l7) (ON pb wd R r b6 m6 b7 m7 l6 l7)=some ([aN .lss .i64 (Int.ofNat j) (Int.ofNat wd)=some (.bool false)],.ex 2,ON pb wd R r b6 m6 b7 m7 l6 l7):=by kernel_rfl
theorem Pr (fl pt k:Nat) (cs is:Value):bE prog { qG prog with x:=zM w (fun _=>none) (assoc [(56,rP wd fl pt cs is)]) (fun _=>none) (fun _=>none) } 89 (fun _=>tC (T0.add 125 (fun a=>match a with
  | [.v (.fl l),.v (.im v)]=>some ([aA l=aA (rP wd fl pt cs is),v=iI r],.one (.im (iI k)))
  | _=>none)) fun _=>none) 60 (cA pm2) (ON pb wd R r b6 m6 b7 m7 l6 l7) (Pz k 0 pb wd R r b6 m6 b7 m7 l6 l7)=some ([oldOf w pb 0 (rP wd fl pt cs is),dD (rP wd fl pt cs is)=5,aA (rP wd fl pt cs is)=aA (rP wd fl pt cs is),iI r=iI r],.nrm,Pz k 0 pb wd R r b6 m6 b7 m7 l6 l7):=by kernel_rfl
theorem Xx (k j x:Nat) (l7':List At):bE prog { qG prog with x:=zM w (assoc [(66,j),(69,j)]) (assoc [(67,[.q x])]) (assoc [(69,l7')]) (fun _=>none) } 89 (fun _=>tC UC (assoc [(60,.bool true),(70,iI (j+1))])) 60 Gz (Pz k j pb wd R r b6 m6 b7 m7 l6 l7) (Pz k (j+1) pb wd R r b6 m6 b7 m7 l6 l7')=some ([aN .lss .i64 (Int.ofNat j) (Int.ofNat k)=some (.bool true),Int.ofNat j=Int.ofNat j,j<wd,yC l7 (0+j*4) 4=some [.q x],x<RM,Int.ofNat j=Int.ofNat j,j<wd,put l7 (0+j*4) [.q (Jo x)]=some l7',aN .add .i64 (Int.ofNat j) 1=some (iI (j+1))],.nrm,Pz k (j+1) pb wd R r b6 m6 b7 m7 l6 l7'):=by kernel_rfl
theorem Pu (k j:Nat):bE prog (qG prog) 89 (fun _=>tC T0 (assoc [(60,.bool false)])) 60 Gz (Pz k j pb wd R r b6 m6 b7 m7 l6 l7) (ON pb wd R r b6 m6 b7 m7 l6 l7)=some ([aN .lss .i64 (Int.ofNat j) (Int.ofNat k)=some (.bool false)],.ex 4,ON pb wd R r b6 m6 b7 m7 l6 l7):=by kernel_rfl
theorem Pq:bE prog (qG prog) 89 (fun _=>tC T0 fun _=>none) 60 (cA pm3) (ON pb wd R r b6 m6 b7 m7 l6 l7) (Py 0 pb wd R r b6 m6 b7 m7 l6 l7)=some ([],.nrm,Py 0 pb wd R r b6 m6 b7 m7 l6 l7):=by kernel_rfl
def gRw (wd fl pt j:Nat) (cs is rw:Value):gE
 | [.v (.fl l),.v (.im v)]=>some ([aA l=aA (rP wd fl pt cs is),v=iI j],.one (.im rw))
 | _=>none
def gDo (wd x:Nat) (rw:Value) (l0:List At):gE
 | [.v (.im u),.s l n m]=>some ([u=rw,l=l0,n=wd,wd≤m],.one (.fl [.q x]))
 | _=>none
def aCZ (wd fl pt j x:Nat) (cs is rw:Value) (l0:List At):Tab:=(T0.add 128 (gRw wd fl pt j cs is rw)).add 127 (gDo wd x rw l0)
theorem Xw (fl pt j x:Nat) (cs is rw:Value) (l6':List At):bE prog { qG prog with x:=zM w (assoc [(83,j)]) (assoc [(78,rP wd fl pt cs is)]) (assoc [(83,l6')]) (fun _=>none) } 89 (fun _=>tC (aCZ wd fl pt j x cs is rw l7) (assoc [(74,.bool true),(84,iI (j+1))])) 60 Gy (Py j pb wd R r b6 m6 b7 m7 l6 l7) (Py (j+1) pb wd R r b6 m6 b7 m7 l6' l7)=some ([aN .lss .i64 (Int.ofNat j) (Int.ofNat wd)=some (.bool true),oldOf w pb 0 (rP wd fl pt cs is),dD (rP wd fl pt cs is)=5,aA (rP wd fl pt cs is)=aA (rP wd fl pt cs is),iI j=iI j,rw=rw,l7=l7,wd=wd,wd≤m7,Int.ofNat j=Int.ofNat j,j<wd,put l6 (0+j*4) [.q x]=some l6',aN .add .i64 (Int.ofNat j) 1=some (iI (j+1))],.nrm,Py (j+1) pb wd R r b6 m6 b7 m7 l6' l7):=by kernel_rfl
theorem Ps (j:Nat):bE prog (qG prog) 89 (fun _=>tC T0 (assoc [(74,.bool false)])) 60 Gy (Py j pb wd R r b6 m6 b7 m7 l6 l7) (vD pb wd R r b6 m6 b7 m7 l6 l7)=some ([aN .lss .i64 (Int.ofNat j) (Int.ofNat wd)=some (.bool false)],.ex 6,vD pb wd R r b6 m6 b7 m7 l6 l7):=by kernel_rfl
def pmS (pb wd R r b6 m6 b7 m7:Nat) (l6 l7:List At):List Fact:=[.slot 2 (.im (ptV pb 0)),.slot 5 (.im (iI wd)),.slot 7 (.sl 1006 0 wd m6),.row 1006 true l6,.at 1006 b6,.slot 6 (.sl 1007 0 wd m7),.row 1007 true l7,.at 1007 b7,.slot 26 (.im (iI R)),.slot 27 (.im (iI r))]
theorem Pp:bE prog (qG prog) 89 (fun _=>tC T0 fun _=>none) 60 (cB (cB (cB (cB Hc)))) (vD pb wd R r b6 m6 b7 m7 l6 l7) (pmS pb wd R r b6 m6 b7 m7 l6 l7)=some ([],.nrm,pmS pb wd R r b6 m6 b7 m7 l6 l7):=by kernel_rfl
theorem Po:bE prog (qG prog) 89 (fun _=>tC T0 (assoc [(87,iI (r+1))])) 60 (cB (cB (cB fP))) (pmS pb wd R r b6 m6 b7 m7 l6 l7) (pmS pb wd R (r+1) b6 m6 b7 m7 l6 l7)=some ([aN .add .i64 (Int.ofNat r) 1=some (iI (r+1))],.nrm,pmS pb wd R (r+1) b6 m6 b7 m7 l6 l7):=by kernel_rfl
theorem Px:bE prog (qG prog) 89 (fun _=>tC T0 fun _=>none) 60 (cB Vb) (vD pb wd R r b6 m6 b7 m7 l6 l7) [.slot 4 (.sl 1007 0 wd m7),.row 1007 true l7,.at 1007 b7]=some ([],.rt,[.slot 4 (.sl 1007 0 wd m7),.row 1007 true l7,.at 1007 b7]):=by kernel_rfl
theorem Xu (S fl pt:Nat) (l6V l7V:Value):bE prog { qG prog with x:=zM w (fun _=>none) (fun _=>none) (fun _=>none) (assoc [(22,iI fl),(25,iI pt)]) } 89 (fun _=>tC T0 (assoc [(26,iI S)])) 60 (cA (cA Vb)) [.slot 2 (.im (ptV pb 0)),.slot 5 (.im (iI wd)),.slot 6 (.im l6V),.slot 7 (.im l7V)] [.slot 2 (.im (ptV pb 0)),.slot 5 (.im (iI wd)),.slot 6 (.im l6V),.slot 7 (.im l7V),.slot 26 (.im (iI S)),.slot 27 (.im (iI 0))]=some ([oldOf w pb 1 [.c (iI fl)],oldOf w pb 2 [.c (iI pt)],aN .add .i64 (Int.ofNat fl) (Int.ofNat pt)=some (iI S)],.nrm,[.slot 2 (.im (ptV pb 0)),.slot 5 (.im (iI wd)),.slot 6 (.im l6V),.slot 7 (.im l7V),.slot 26 (.im (iI S)),.slot 27 (.im (iI 0))]):=by kernel_rfl
theorem Xr (v:Value) (fl pt:Nat) (cs is:Value):bE prog (qG prog) 89 (fun _=>tC T0 fun _=>none) 60 (cA fY) (fT 0 [.v (.fl (rP wd fl pt cs is)),.v (.im v)]) [.slot 1 (.im v),.slot 2 (.pt 2 0),.row 2 true (rP wd fl pt cs is)]=some ([],.nrm,[.slot 1 (.im v),.slot 2 (.pt 2 0),.row 2 true (rP wd fl pt cs is)]):=by kernel_rfl
theorem Xq (v:Value):bE prog { qG prog with x:=zM w (fun _=>none) (fun _=>none) (fun _=>none) (assoc [(15,iI wd)]) } 89 (fun _=>tC T0 fun _=>none) 60 (cA (cB fY)) [.slot 1 (.im v),.slot 2 (.im (ptV pb 0))] [.slot 1 (.im v),.slot 2 (.im (ptV pb 0)),.slot 5 (.im (iI wd))]=some ([oldOf w pb 0 [.c (iI wd)]],.nrm,[.slot 1 (.im v),.slot 2 (.im (ptV pb 0)),.slot 5 (.im (iI wd))]):=by kernel_rfl
theorem Xp (v:Value):bE prog { qG prog with x:=Vv wd } 89 (fun _=>tC T0 fun _=>none) 60 (cA (cB (cB fY))) [.slot 1 (.im v),.slot 2 (.im (ptV pb 0)),.slot 5 (.im (iI wd))] [.slot 1 (.im v),.slot 2 (.im (ptV pb 0)),.slot 5 (.im (iI wd)),.slot 6 (.sl 17 0 wd wd),.row 17 true (sA wd)]=some ([∃e,∀w:World,(Instr.makeSlice 92 (iI wd) (iI wd)).run prog w=.ok (.slice (some ⟨w.heap.size,0,none⟩) wd wd) (w.alloc (.cells (aA (sA wd)).toArray e))],.nrm,[.slot 1 (.im v),.slot 2 (.im (ptV pb 0)),.slot 5 (.im (iI wd)),.slot 6 (.sl 17 0 wd wd),.row 17 true (sA wd)]):=by kernel_rfl
theorem Yb (v u:Value):eH prog (qG prog) 89 (tC T0 fun _=>none) ((aD (cA (cB (cB (cB fY))))).extract 0 1) [.slot 1 (.im v),.slot 2 (.im (ptV pb 0)),.slot 5 (.im (iI wd)),.slot 6 (.im u)] [.slot 18 (.im v),.slot 2 (.im (ptV pb 0)),.slot 5 (.im (iI wd)),.slot 6 (.im u)]=some ([],[.slot 18 (.im v),.slot 2 (.im (ptV pb 0)),.slot 5 (.im (iI wd)),.slot 6 (.im u)]):=by kernel_rfl
theorem Ya (v u:Value):eH prog (qG prog) 89 (tC T0 fun _=>none) ((aD (cA (cB (cB (cB fY))))).extract 2 3) [.slot 19 (.im v),.slot 2 (.im (ptV pb 0)),.slot 5 (.im (iI wd)),.slot 6 (.im u)] [.slot 2 (.im (ptV pb 0)),.slot 5 (.im (iI wd)),.slot 6 (.im u),.slot 7 (.im v)]=some ([],[.slot 2 (.im (ptV pb 0)),.slot 5 (.im (iI wd)),.slot 6 (.im u),.slot 7 (.im v)]):=by kernel_rfl
end
theorem AD {h:Nat→Nat} {n j:Nat} (hj:j<n):yC (bP (el h) 0 n) (0+j*4) 4=some [.q (h j)]:=OC (f:=el h) (c:=4) (fun _=>rfl) hj (Nat.zero_add _)
theorem AM {g f:Nat→Nat} {n j:Nat} (hj:j<n):put (bP (el (oS g f j)) 0 n) (0+j*4) [.q (g j)]=some (bP (el (oS g f (j+1))) 0 n):=by
 rw[jF (el (oS g f j)) j n 0 hj,jF (el (oS g f (j+1))) j n 0 hj];have e1:bP (el (oS g f j)) 0 j=bP (el (oS g f (j+1))) 0 j:=fI j 0 fun q hq=>by unfold oS; rw[if_pos (by omega),if_pos (by omega)]
 have e2:bP (el (oS g f j)) (0+j+1) (n-j-1)=bP (el (oS g f (j+1))) (0+j+1) (n-j-1):=fI _ _ fun q hq=>by unfold oS; rw[if_neg (by omega),if_neg (by omega)]
 have e3:el (oS g f (j+1)) (0+j)=[.q (g j)]:=by show [At.q (oS g f (j+1) (0+j))]=_; unfold oS; rw[if_pos (by omega),Nat.zero_add]
 rw[AN (bP (el (oS g f j)) 0 j) (el (oS g f j) (0+j)) _ [.q (g j)] (by rw[fJ (f:=el (oS g f j)) (c:=4) (fun _=>rfl)]; omega) rfl,e1,e2,e3]
structure PmS (w1:World) (pb wd R r b6 m6 b7 m7:Nat) (f6 f7:Nat→Nat) (a:Act) (w:World):Prop where
 defers:a.defers=[]
 size:a.tmps.size=89
 t2:a.tmps[2]?=some (ptV pb 0)
 t5:a.tmps[5]?=some (iI wd)
 t6:a.tmps[6]?=some (aV b6 0 wd m6)
 t7:a.tmps[7]?=some (aV b7 0 wd m7)
 t26:a.tmps[26]?=some (iI R)
 t27:a.tmps[27]?=some (iI r)
 below:Below w1.heap.size w1 w
 shape:Shape w1 w
 o6:Own w b6 (bP (el f6) 0 wd)
 o7:Own w b7 (bP (el f7) 0 wd)
 l6:w1.heap.size≤b6
 l7:w1.heap.size≤b7
 ne:b6≠b7
section
variable {w1:World} {pb wd R r b6 m6 b7 m7:Nat} {f6 f7:Nat→Nat} {a:Act} {w:World}
theorem PmS.holds (h:PmS w1 pb wd R r b6 m6 b7 m7 f6 f7 a w):Holds 89 w1.heap.size w1 (vD pb wd R r b6 m6 b7 m7 (bP (el f6) 0 wd) (bP (el f7) 0 wd)) a w:=by
 refine⟨h.defers,h.size,h.below,h.below.size,fun k=>bif Nat.beq k 1006 then (b6,0,m6)else bif Nat.beq k 1007 then (b7,0,m7)else (w1.heap.size,0,0),fun φ hφ => ?_,fun k k' o' l l' e1 e2 hne => ?_,fun k l e1 => ?_,h.below.size,fun p q1 q2 => ?_,h.shape⟩
 ·simp only[vD,List.mem_cons,List.not_mem_nil,or_false]at hφ
  rcases hφ with rfl|rfl|rfl|rfl|rfl|rfl|rfl|rfl|rfl|rfl
  ·exact h.t2
  ·exact h.t5
  ·exact h.t6
  ·exact⟨h.o6.lt,h.o6.row,fun _=>⟨h.l6,rfl,h.o6.free⟩,fun h=>by cases h⟩
  ·exact⟨rfl,rfl⟩
  ·exact h.t7
  ·exact⟨h.o7.lt,h.o7.row,fun _=>⟨h.l7,rfl,h.o7.free⟩,fun h=>by cases h⟩
  ·exact⟨rfl,rfl⟩
  ·exact h.t26
  ·exact h.t27
 ·simp only[vD,List.mem_cons,reduceCtorEq,Fact.row.injEq,false_or,List.not_mem_nil,or_false]at e1 e2
  rcases e1 with⟨rfl,_⟩|⟨rfl,_⟩<;>rcases e2 with⟨rfl,_⟩|⟨rfl,_⟩
  ·exact (hne rfl).elim
  ·exact h.ne
  ·exact h.ne.symm
  ·exact (hne rfl).elim
 ·simp only[vD,List.mem_cons,reduceCtorEq,Fact.row.injEq,false_or,List.not_mem_nil,or_false]at e1
  rcases e1 with⟨rfl,_⟩|⟨rfl,_⟩
  ·exact Or.inr h.l6
  ·exact Or.inr h.l7
 ·exact absurd (Nat.lt_trans q1 q2) (Nat.lt_irrefl _)
theorem Holds.pmS {l6 l7:List At} (h:Holds 89 w1.heap.size w1 (Ex.pmS pb wd R r b6 m6 b7 m7 l6 l7) a w) (e6:l6=bP (el f6) 0 wd) (e7:l7=bP (el f7) 0 wd) (hne:b6≠b7):PmS w1 pb wd R r b7 m7 b6 m6 f7 f6 a w:=by
 subst e6; subst e7;have h6:=(h.im (s:=7) (k:=1006) (o:=0) (n:=wd) (m:=m6) (b:=b6) (by simp[Ex.pmS]) (by simp[Ex.pmS])).slot (s:=7) (v:=aV b6 0 wd m6) (by simp);have h7:=(h.im (s:=6) (k:=1007) (o:=0) (n:=wd) (m:=m7) (b:=b7) (by simp[Ex.pmS]) (by simp[Ex.pmS])).slot (s:=6) (v:=aV b7 0 wd m7) (by simp);exact⟨h.defers,h.size,h.slot (by simp[Ex.pmS]),h.slot (by simp[Ex.pmS]),h7,h6,h.slot (by simp[Ex.pmS]),h.slot (by simp[Ex.pmS]),h.below,h.shape,h.own (k:=1007) (by simp[Ex.pmS]) (by simp[Ex.pmS]),h.own (k:=1006) (by simp[Ex.pmS]) (by simp[Ex.pmS]),h.geq (k:=1007) (l:=bP (el f7) 0 wd) (by simp[Ex.pmS]) (by simp[Ex.pmS]),h.geq (k:=1006) (l:=bP (el f6) 0 wd) (by simp[Ex.pmS]) (by simp[Ex.pmS]),hne.symm⟩
end
structure PmM (w:World) (wd fl pt:Nat) (xs:Nat→Nat) (cs is:Value):Prop where
 cs:∃cb,cs=aV cb 0 (wd*(fl+pt)) (wd*(fl+pt))∧LM w cb (wd*(fl+pt)) xs
 is:∃ib,is=aV ib 0 (2*wd-1) (2*wd-1)∧LM w ib (2*wd-1) (fun j=>inv (wd+j))
 lt:∀i,i<wd*(fl+pt)→xs i<RM
theorem PmM.on {w w':World} {wd fl pt:Nat} {xs:Nat→Nat} {cs is:Value} (h:PmM w wd fl pt xs cs is) (hb:Below w.heap.size w w'):PmM w' wd fl pt xs cs is:=by
 obtain⟨⟨cb,h1,h2⟩,⟨ib,h3,h4⟩,h5⟩:=h;exact⟨⟨cb,h1,h2.on hb⟩,⟨ib,h3,h4.on hb⟩,h5⟩
theorem IN {base:Nat} {w0:World} {wd fl pt r:Nat} {cs is:Value} (hf:fl≤65536) (hp:pt≤65536):TabOkW prog (T0.add 125 (fun a=>match a with
  | [.v (.fl l),.v (.im v)]=>some ([aA l=aA (rP wd fl pt cs is),v=iI r],.one (.im (iI (rz wd fl pt r))))
  | _=>none)) base w0 :=
 TabOkW.add ((bT _).w _ _) func125 (by kernel_rfl) (by kernel_rfl) (fun w hw cs' pre r' hg hp' args ha=>by
  split at hg
  ·cases hg;obtain⟨h1,h2,_⟩:=hp'
   match args,ha with
   | [u,v],ha =>
    have e1:u=.agg (aA _).toArray:=ha.1;have e2:v=_:=ha.2.1;rw[h1]at e1;subst e1; subst e2; subst h2;exact WM hf hp
   | [],ha=>exact ha.elim
   | [_],ha=>exact ha.2.elim
   | _::_::_::_,ha=>exact ha.2.2.elim
  ·cases hg)
theorem Le {base:Nat} {w0:World} {wd fl pt j M ib:Nat} {cs:Value} {g h:Nat→Nat} (hj:j<M) (hw:j+wd≤M) (hM:M≤65536) (hL:∀w,Below base w0 w→LV w (aV ib (0+j*4) wd (M-j)) wd g) (hg:oU wd g) (hh:oU wd h) :
  TabOkW prog (aCZ wd fl pt j (Bm g h wd) cs (aV ib 0 M M) (aV ib (0+j*4) wd (M-j)) (bP (el h) 0 wd)) base w0:=by
 refine TabOkW.add (TabOkW.add ((bT _).w _ _) func128 (by kernel_rfl) (by kernel_rfl) (fun w hw' cs' pre r' hg' hp args ha => ?_)) func127 (by kernel_rfl) (by kernel_rfl) (fun w hw' cs' pre r' hg' hp args ha => ?_)
 ·unfold gRw at hg';split at hg'
  ·cases hg';obtain⟨h1,h2,_⟩:=hp
   match args,ha with
   | [u,v],ha =>
    have e1:u=.agg (aA _).toArray:=ha.1;have e2:v=_:=ha.2.1;rw[h1]at e1;subst e1; subst e2; subst h2;exact QQ hj hw hM
   | [],ha=>exact ha.elim
   | [_],ha=>exact ha.2.elim
   | _::_::_::_,ha=>exact ha.2.2.elim
  ·cases hg'
 ·unfold gDo at hg';split at hg'
  ·rename_i u' l n m;cases hg';obtain⟨h1,h2,h3,h4,_⟩:=hp
   match args,ha with
   | [u,v],ha =>
    have e1:u=_:=ha.1;subst e1; subst h1; subst h2; subst h3;have hv:LV w v n h:=LV.ofS (f:=h) ha.2.1 rfl rfl h4 (fun q hq=>kO (hh q hq));exact Bo (hL w hw') hv (by omega) hg hh
   | [],ha=>exact ha.elim
   | [_],ha=>exact ha.2.elim
   | _::_::_::_,ha=>exact ha.2.2.elim
  ·cases hg'
end Go.Proofs.YtpbljiejmfahcaaGreatDoor.Ex
