/- Jz13 -/
import Derived.Test.YtjeplinbleofnaaGreatJz12
import Derived.Test.YtjeplinbleofnaaGreatJz09
import Derived.Test.YtjeplinbleofnaaGreatJz11
import Derived.Test.YtjeplinbleofnaaGreatJz01
import Derived.Test.YtjeplinbleofnaaGreatProg
set_option maxRecDepth 100000
set_option linter.unusedVariables false
set_option linter.unusedSimpArgs false
set_option linter.unnecessarySimpa false
noncomputable section
namespace Go.Proofs.YtjeplinbleofnaaGreat.R1
open Go.Proofs.Tryz
open Go.RowKit
theorem refParse_empty (s:ByteArray) (h:s.size=0) (w:World) :
  Calls prog 105 #[.string s] w (fW (fun n c=>(n,c)=dK s.data.toList) w):=by
 have e0:s.toList=[]:=by rw[ByteArray.toList_eq]; exact List.eq_nil_of_length_eq_zero (by simpa using h)
 have HV:=Lib.hid (jG (l:=s.data.toList) (by rw[←ByteArray.toList_eq,e0]; rfl))
 go_enter func105,ntmps105
 go_wp2_with fail;refine bodyPost_ret (v:=.tuple #[.agg #[.int .u64 0,.int .u64 0,.int .u64 0,.int .u64 0],.int .i64 11]) (by simp[results,results105,go_sem]) rfl ?_;refine⟨0,0,0,0,11,rfl,⟨by omega,by omega,by omega,by omega⟩,HV.out.symm,?_⟩
 repeat (first|exact Below.refl _ _|refine Below.drew ?_|refine Below.alloc ?_ (by first|(simp; done)|(simp; omega)) _)
theorem numB_lead {l:List UInt8} (h1:1<l.length) (h:l[0].toNat=48):lY l=false:=by
 unfold lY;have e1:GJ l=false:=by rw[uI l (by omega)]; exact decide_eq_false (by simpa using h)
 have e2:decide (l=[48])=false:=decide_eq_false (fun e=>by rw[e]at h1; simp at h1);rw[e1,e2];simp
theorem refParse_lead (s:ByteArray) (hs:s.size≤maxLen) (h1:1<s.size) (h0:(s[0]'(by omega)).toNat=48) (w:World) :
  Calls prog 105 #[.string s] w (fW (fun n c=>(n,c)=dK s.data.toList) w):=by
 unfold maxLen at hs;have hp:0<s.size:=by omega
 have e0:(s.toList==[])=false:=by
  have:¬s.toList=[]:=by
   intro e;have h5:s.toList.length=s.size:=by rw[ByteArray.toList_eq]; simp
   rw[e]at h5;have h6:0=s.size:=h5;omega
  simpa using this
 have e1:¬s.toList=[]:=by simpa using e0
 have t1:decide ((1:Int)<(s.size:Int))=true:=decide_eq_true (by omega);have HV:=Lib.hid (jG (l:=s.data.toList) (numB_lead (by simpa using h1) h0))
 go_enter func105,ntmps105
 go_wp2_with fail;refine bodyPost_ret (v:=.tuple #[.agg #[.int .u64 0,.int .u64 0,.int .u64 0,.int .u64 0],.int .i64 11]) (by simp[results,results105,go_sem]) rfl ?_;refine⟨0,0,0,0,11,rfl,⟨by omega,by omega,by omega,by omega⟩,HV.out.symm,?_⟩
 repeat (first|exact Below.refl _ _|refine Below.drew ?_|refine Below.alloc ?_ (by first|(simp; done)|(simp; omega)) _)
theorem numB_rest {l:List UInt8} (h0:0<l.length) (h1:1<l.length→l[0].toNat≠48) (h:∀k (hk:k<l.length),kX l[k]=true):lY l=true:=by
 rw[PH h,uI l h0]
 by_cases e:1<l.length
 ·rw[decide_eq_true (h1 e),Bool.or_true]
 ·match l,h0,e with
  | [c],_,_ =>
   by_cases hc:c.toNat=48
   ·have:c=48:=UInt8.toNat_inj.1 hc;subst this; rfl
   ·simp[hc]
  | a::b::t,_,e=>exact absurd (by simp) e
set_option maxHeartbeats 8000000 in
theorem refParse_one (s:ByteArray) (hs:s.size≤maxLen) (h1:s.size=1) (w:World) :
  Calls prog 105 #[.string s] w (fW (fun n c=>(n,c)=dK s.data.toList) w):=by
 unfold maxLen at hs;have hp:0<s.size:=by omega
 have t1:decide ((1:Int)<(s.size:Int))=false:=decide_eq_false (by omega);have e0:(s.toList==[])=false:=by
  have:¬s.toList=[]:=by
   intro e;have h5:s.toList.length=s.size:=by rw[ByteArray.toList_eq]; simp
   rw[e]at h5;have h6:0=s.size:=h5;omega
  simpa using this
 have e1:¬s.toList=[]:=by simpa using e0
 obtain⟨l,el⟩:∃l,l=s.data.toList:=⟨_,rfl⟩
 have hll:l.length=s.size:=by rw[el]; simp
 have HG:=Lib.hid (fun (k:Nat) (hk:k<s.size) (hk':k<l.length)=>show s[k]=l[k]from by subst el; rfl);rw[←el];have HR:=Lib.hid (numB_rest (l:=l) (by omega) (fun e=>by rw[←HG.out 0 (by omega) (by omega)]; omega));have Hll:=Lib.hid hll;have HBad:=Lib.hid (fun (h:lY l=false)=>jG h);have HLong:=Lib.hid (fun h=>pJ (l:=l) h);clear el hll;have hle:s.size≤1:=by omega
 clear h1;have hz:aX 0 0 0 0:=⟨by omega,by omega,by omega,by omega⟩
 go_enter func105,ntmps105
 go_wp2_with fail
 go_loop [5] (fun x=>∃k:Nat,k≤s.size∧x=.int .i64 k∧Hid (∀j (hj:j<l.length),j<k→kX l[j]=true)) (fun x=>s.size-(intOf x).toNat)
 case atStart=>exact⟨0,Nat.zero_le _,rfl,Lib.hid (fun j _ h=>absurd h (by omega))⟩
 case round =>
  obtain⟨k,hk,rfl,ha⟩:=hrel
  by_cases hlt:k<s.size
  ·have hl:k<l.length:=by rw[Hll.out]; exact hlt
   obtain⟨c,ec,eq⟩:∃c:UInt8,s[k]'hlt=c∧l[k]=c:=⟨s[k]'hlt,rfl,(HG.out k hlt hl).symm⟩
   by_cases h1:(c.toNat:Int)<48
   ·have HV:=Lib.hid (HBad.out (nJ hl (by rw[eq]; unfold kX; exact decide_eq_false (by omega))));clear eq ha;go_wp2_with fail;refine bodyPost_ret (v:=.tuple #[.agg #[.int .u64 0,.int .u64 0,.int .u64 0,.int .u64 0],.int .i64 11]) (by simp[results,results105,go_sem]) rfl ?_;refine⟨0,0,0,0,11,rfl,hz,HV.out.symm,?_⟩
    repeat (first|exact Below.refl _ _|refine Below.drew ?_|refine Below.alloc ?_ (by first|(simp; done)|(simp; omega)) _)
   ·by_cases h2:(57:Int)<(c.toNat:Int)
    ·have HV:=Lib.hid (HBad.out (nJ hl (by rw[eq]; unfold kX; exact decide_eq_false (by omega))));clear eq ha;go_wp2_with fail;refine bodyPost_ret (v:=.tuple #[.agg #[.int .u64 0,.int .u64 0,.int .u64 0,.int .u64 0],.int .i64 11]) (by simp[results,results105,go_sem]) rfl ?_;refine⟨0,0,0,0,11,rfl,hz,HV.out.symm,?_⟩
     repeat (first|exact Below.refl _ _|refine Below.drew ?_|refine Below.alloc ?_ (by first|(simp; done)|(simp; omega)) _)
    ·have HN:=Lib.hid (show ∀j (hj:j<l.length),j<k+1→kX l[j]=true from fun j hj h=>by
      by_cases e:j=k
      ·subst e; rw[eq]; unfold kX; exact decide_eq_true (by omega)
      ·exact ha.out j hj (by omega))
     clear eq ha;go_wp2_with fail
     go_round
     case rel=>exact⟨k+1,by omega,by go_num,HN⟩
     case measure=>simp[intOf]; omega
  ·obtain rfl:k=s.size:=by omega
   have hnum:=HR.out (fun j hj=>ha.out j hj (by rw[←Hll.out]; exact hj));clear ha
   by_cases h78:78<s.size
   ·have HV:=Lib.hid (HLong.out hnum (by rw[Hll.out]; exact h78));exact absurd h78 (by omega)
   ·have HBig:=Lib.hid (rU hnum (show ¬ 78<l.length by rw[Hll.out]; exact h78));have HOk:=Lib.hid (uC hnum (show ¬ 78<l.length by rw[Hll.out]; exact h78));have HDig:=Lib.hid (fun k hk=>zB hnum (k:=k) hk);have hd:decide ((78:Int)<(s.size:Int))=false:=decide_eq_false (by omega);have hs78:s.size≤78:=by omega
    clear hnum;go_wp2_with fail
    go_loopw [6] (fun x wr=>∃k a0 a1 a2 a3:Nat,k≤s.size∧x=.int .i64 k∧aX a0 a1 a2 a3∧Hid (aA a0 a1 a2 a3=cD (l.take k))∧Mem w wr [(w.heap.size+1,a0,a1,a2,a3),(w.heap.size,0,0,0,0)]) (fun x _=>s.size-(intOf x).toNat)
    case atStart=>exact⟨0,0,0,0,0,Nat.zero_le _,rfl,hz,Lib.hid rfl,((Mem.nil w).new w.heap.size 0 0 0 0 49 rfl).new (w.heap.size+1) 0 0 0 0 49 (by simp)⟩
    case round =>
      obtain⟨k,a0,a1,a2,a3,hk,rfl,ha,ev,mm⟩:=hrel;have M:=Lib.hid mm;have r0:=(mm.2 (w.heap.size+1,a0,a1,a2,a3) (by simp)).2;have z0:=(mm.2 (w.heap.size,0,0,0,0) (by simp)).2;have la:=(mm.2 (w.heap.size+1,a0,a1,a2,a3) (by simp)).1;clear mm;obtain⟨c0,c1,c2,c3,cf⟩:=r0;obtain⟨y0,y1,y2,y3,yf⟩:=z0
      by_cases hlt:k<s.size
      ·have hl:k<l.length:=by rw[Hll.out]; exact hlt
       have hdg:=HDig.out k hl;obtain⟨d,hdd,ld,ed⟩:∃d:Nat,((s[k]'hlt).toNat:Int)-48=(d:Int)∧d≤9∧Hid (cD (l.take (k+1))=cD (l.take k)*10+d):=by
        refine⟨l[k].toNat-48,?_,by omega,Lib.hid (pL hl)⟩;rw[HG.out k hlt hl]; omega
       have b1:48≤(s[k]'hlt).toNat:=by rw[HG.out k hlt hl]; exact hdg.1
       have b2:(s[k]'hlt).toNat≤57:=by rw[HG.out k hlt hl]; exact hdg.2
       have okd:aX d 0 0 0:=⟨by omega,by omega,by omega,by omega⟩;have w8:IntKind.u8.wrap (d:Int)=(d:Int):=by simp only[IntKind.wrap,IntKind.bits,IntKind.signed]; simp; omega
       have w64:IntKind.u64.wrap (d:Int)=(d:Int):=lG _ (by omega);clear hdg;go_wp2_with fail;refine (refMul_calls a0 a1 a2 a3 10 0 0 0 ha ⟨by omega,by omega,by omega,by omega⟩ _).mono ?_
       rintro e w2 ⟨o,g1,g2,g3,p0,p1,p2,p3,rfl,hgo,hp,ep,hbl⟩
       have ep':=ep;rw[show aA 10 0 0 0=10 from rfl]at ep';obtain⟨rfl,rfl,rfl,lo⟩:g1=0∧g2=0∧g3=0∧o<10:=by
        have h1:=bQ ha;unfold aA at ep' h1;omega
       have Hep:=Lib.hid (show aA p0 p1 p2 p3+115792089237316195423570985008687907853269984665640564039457584007913129639936*o=aA a0 a1 a2 a3*10 by
        rw[←ep']; unfold aA; omega)
       have M2:=Lib.hid (((M.out.on hbl).new w2.heap.size o 0 0 0 49 rfl).new (w2.heap.size+1) p0 p1 p2 p3 49 (by simp));clear hbl M c0 c1 c2 c3 cf la y0 y1 y2 y3 yf ep ep' hgo;go_wp2_with fail;generalize (w2.alloc (.cells #[.int .u64 o,.int .u64 0,.int .u64 0,.int .u64 0] 49)).alloc (.cells #[.int .u64 p0,.int .u64 p1,.int .u64 p2,.int .u64 p3] 49)=W2 at M2 ⊢;have HM:=Lib.hid (M2.out.drewN 1);have HS:=M2.out.drewN 1;clear M2;refine bK (fun wx=>Mem w wx [(w2.heap.size+1,p0,p1,p2,p3),(w2.heap.size,o,0,0,0),(w.heap.size+1,a0,a1,a2,a3),(w.heap.size,0,0,0,0)]) 13 (by kernel_rfl) ?_;refine aB (i:=0) (v:=.agg #[.int .u64 p0,.int .u64 p1,.int .u64 p2,.int .u64 p3]) rfl (by kernel_rfl) (by kernel_rfl) (by kernel_rfl) (by kernel_rfl) (fun _ _ _ h=>h) HS (Or.inl ⟨by kernel_rfl,fun wx hx => ?_⟩) ?_
       ·have kr:=(hx.2 (w2.heap.size+1,p0,p1,p2,p3) (List.Mem.head _)).2;have k0:=kr.c0; have k1:=kr.c1; have k2:=kr.c2; have k3:=kr.c3; have kf:=kr.fr;clear kr HS hx;go_simp
       simp only[Act.put,List.setIfInBounds_toArray,List.set_cons_zero,List.set_cons_succ];refine aB (i:=1) (v:=.string s) rfl (by kernel_rfl) (by kernel_rfl) (by kernel_rfl) (by kernel_rfl) (fun _ _ _ h=>h) HS (Or.inl ⟨by kernel_rfl,fun wx hx => ?_⟩) ?_
       ·clear hx HS;go_simp
       simp only[Act.put,List.setIfInBounds_toArray,List.set_cons_zero,List.set_cons_succ];refine aB (i:=2) (v:=.int .i64 k) rfl (by kernel_rfl) (by kernel_rfl) (by kernel_rfl) (by kernel_rfl) (fun _ _ _ h=>h) HS (Or.inl ⟨by kernel_rfl,fun wx hx => ?_⟩) ?_
       ·clear hx HS;go_simp
       simp only[Act.put,List.setIfInBounds_toArray,List.set_cons_zero,List.set_cons_succ];refine aB (i:=3) (v:=.int .u8 ((s[k]'hlt).toNat:Nat)) rfl (by kernel_rfl) (by kernel_rfl) (by kernel_rfl) (by kernel_rfl) (fun _ _ _ h=>h) HS (Or.inl ⟨by kernel_rfl,fun wx hx => ?_⟩) ?_
       ·clear hx HS;go_simp
       simp only[Act.put,List.setIfInBounds_toArray,List.set_cons_zero,List.set_cons_succ];refine aB (i:=4) (v:=.int .u8 d) rfl (by kernel_rfl) (by kernel_rfl) (by kernel_rfl) (by kernel_rfl) (fun _ _ _ h=>h) HS (Or.inl ⟨by kernel_rfl,fun wx hx => ?_⟩) ?_
       ·clear hx HS;go_simp
       simp only[Act.put,List.setIfInBounds_toArray,List.set_cons_zero,List.set_cons_succ];refine aB (i:=5) (v:=.int .u64 d) rfl (by kernel_rfl) (by kernel_rfl) (by kernel_rfl) (by kernel_rfl) (fun _ _ _ h=>h) HS (Or.inl ⟨by kernel_rfl,fun wx hx => ?_⟩) ?_
       ·clear hx HS;go_simp
       simp only[Act.put,List.setIfInBounds_toArray,List.set_cons_zero,List.set_cons_succ];refine aB (i:=6) (v:=.agg #[.int .u64 d,.int .u64 0,.int .u64 0,.int .u64 0]) rfl (by kernel_rfl) (by kernel_rfl) (by kernel_rfl) (by kernel_rfl) (fun _ _ _ h=>h) HS (Or.inl ⟨by kernel_rfl,fun wx hx => ?_⟩) ?_
       ·clear hx HS;go_simp
       simp only[Act.put,List.setIfInBounds_toArray,List.set_cons_zero,List.set_cons_succ];clear HS;refine bU (i:=7) (j:=11) (by kernel_rfl) rfl rfl (fun K hK => ?_) (fun K hK => ?_)
       ·go_simp;refine (refAdd_calls p0 p1 p2 p3 d 0 0 0 hp okd _).mono ?_
        rintro e w3 ⟨s0,s1,s2,s3,c,rfl,hs',hc,es,hbl⟩
        have HV:=Lib.hid (show aA s0 s1 s2 s3+115792089237316195423570985008687907853269984665640564039457584007913129639936*(c+o)=cD (l.take (k+1)) by
         have h1:=Hep.out; have h2:=ev.out; have h3:=ed.out;have h4:aA d 0 0 0=d:=by unfold aA; omega
         rw[h3,←h2,Nat.mul_add]; omega)
        have HT:=Lib.hid (hZ l (k+1));have M3:=Lib.hid (HM.out.on hbl);have HS:=HM.out.on hbl;clear HM hbl es;refine hK.out _ _ (Or.inr HS) (fun _ => ?_);clear hK K;refine aB (i:=8) (v:=.tuple #[.agg #[.int .u64 s0,.int .u64 s1,.int .u64 s2,.int .u64 s3],.int .u64 c]) rfl (by kernel_rfl) (by kernel_rfl) (by kernel_rfl) (by kernel_rfl) (fun _ _ _ h=>h) HS (Or.inl ⟨by kernel_rfl,fun wx hx => ?_⟩) ?_
        ·clear hx HS;go_simp
        simp only[Act.put,List.setIfInBounds_toArray,List.set_cons_zero,List.set_cons_succ];refine aB (i:=9) (v:=.agg #[.int .u64 s0,.int .u64 s1,.int .u64 s2,.int .u64 s3]) rfl (by kernel_rfl) (by kernel_rfl) (by kernel_rfl) (by kernel_rfl) (fun _ _ _ h=>h) HS (Or.inl ⟨by kernel_rfl,fun wx hx => ?_⟩) ?_
        ·clear hx HS;go_simp
        simp only[Act.put,List.setIfInBounds_toArray,List.set_cons_zero,List.set_cons_succ];refine aB (i:=10) (v:=.int .u64 c) rfl (by kernel_rfl) (by kernel_rfl) (by kernel_rfl) (by kernel_rfl) (fun _ _ _ h=>h) HS (Or.inl ⟨by kernel_rfl,fun wx hx => ?_⟩) ?_
        ·clear hx HS;go_simp
        simp only[Act.put,List.setIfInBounds_toArray,List.set_cons_zero,List.set_cons_succ];clear HS;refine aC (i:=11) (by kernel_rfl) rfl (fun K hK => ?_);go_simp;have M4:=Lib.hid (M3.out.new w3.heap.size 0 0 0 0 49 rfl);refine hK.out _ _ (Or.inr (M4.out.sub (fun r h=>List.mem_cons_of_mem _ h))) (fun _ => ?_);clear hK K;refine aC (i:=12) (by kernel_rfl) rfl (fun K hK => ?_);go_simp;have M5:=Lib.hid (M3.out.new w3.heap.size s0 s1 s2 s3 49 rfl);refine hK.out _ _ (Or.inr (M5.out.sub (fun r h=>List.mem_cons_of_mem _ h))) (fun _ => ?_);clear hK K M4;refine aC (i:=13) (by kernel_rfl) rfl (fun K hK => ?_);go_simp;refine hK.out _ _ (Or.inl rfl) (fun _ => ?_);clear hK K;refine aQ (by kernel_rfl) ?_;have r3:=M3.out.2 (w.heap.size,0,0,0,0) (by simp);have r4:=M3.out.2 (w.heap.size+1,a0,a1,a2,a3) (by simp);have r6:=(M3.out.2 (w2.heap.size,o,0,0,0) (by simp)).2.c0;have l6:=(M3.out.2 (w2.heap.size,o,0,0,0) (by simp)).1;obtain⟨lz,y0,y1,y2,y3,yf⟩:=r3;obtain⟨la,c0,c1,c2,c3,cf⟩:=r4
        rcases Nat.eq_zero_or_pos o with rfl|h0
        ·rcases (show c=0∨c=1 by omega)with rfl|rfl
         ·have HN:=Lib.hid (show aA s0 s1 s2 s3=cD (l.take (k+1)) by have:=HV.out; omega);have M6:=Lib.hid (((M3.out.sub (rs':=[(w.heap.size+1,a0,a1,a2,a3),(w.heap.size,0,0,0,0)]) (fun r h=>List.mem_cons_of_mem _ (List.mem_cons_of_mem _ h))).put s0 s1 s2 s3 (by omega) (by simp)).on ((Below.refl _ _).alloc (Nat.le_refl _) (.cells #[.int .u64 s0,.int .u64 s1,.int .u64 s2,.int .u64 s3] 49)));go_wp2_with fail
          go_roundw
          case rel=>exact⟨k+1,s0,s1,s2,s3,by omega,by go_num,hs',HN,M6.out⟩
          case measure=>first|(simp[intOf]; done)|(simp[intOf]; omega)
         ·have HF:=Lib.hid (HBig.out (by have h1:=HV.out; have h2:=HT.out; omega));go_wp2_with fail;refine bodyPost_ret (v:=.tuple #[.agg #[.int .u64 0,.int .u64 0,.int .u64 0,.int .u64 0],.int .i64 4]) (by simp[results,results105,go_sem, *]) rfl ?_;exact⟨0,0,0,0,4,rfl,hz,HF.out.symm,(aL M3.out.1 (by omega) _ _ _ _).alloc (by simp only[World.size_setCell,set4]; omega) _⟩
        ·have t1:((o:Int) != 0)=true:=by simp; omega
         have HF:=Lib.hid (HBig.out (by have h1:=HV.out; have h2:=HT.out; omega));clear h0;go_wp2_with fail;refine bodyPost_ret (v:=.tuple #[.agg #[.int .u64 0,.int .u64 0,.int .u64 0,.int .u64 0],.int .i64 4]) (by simp[results,results105,go_sem, *]) rfl ?_;exact⟨0,0,0,0,4,rfl,hz,HF.out.symm,(aL M3.out.1 (by omega) _ _ _ _).alloc (by simp only[World.size_setCell,set4]; omega) _⟩
       ·go_simp;have M3:=Lib.hid (HM.out.new W2.heap.size 0 0 0 0 49 rfl);have lW:=(HM.out.2 (w.heap.size+1,a0,a1,a2,a3) (by simp)).1;have lW2:=(HM.out.2 (w2.heap.size+1,p0,p1,p2,p3) (by simp)).1;have gW:w.heap.size+1<W2.heap.size:=lW;have gW2:w2.heap.size+1<W2.heap.size:=lW2;clear HM lW lW2;refine hK.out _ _ (Or.inr (M3.out.sub (fun r h=>List.mem_cons_of_mem _ h))) (fun _ => ?_);clear hK K;refine aC (i:=7) (by kernel_rfl) rfl (fun K hK => ?_);go_simp;refine (refAdd_calls p0 p1 p2 p3 d 0 0 0 hp okd _).mono ?_
        rintro e w3 ⟨s0,s1,s2,s3,c,rfl,hs',hc,es,hbl⟩
        have HV:=Lib.hid (show aA s0 s1 s2 s3+115792089237316195423570985008687907853269984665640564039457584007913129639936*(c+o)=cD (l.take (k+1)) by
         have h1:=Hep.out; have h2:=ev.out; have h3:=ed.out;have h4:aA d 0 0 0=d:=by unfold aA; omega
         rw[h3,←h2,Nat.mul_add]; omega)
        have HT:=Lib.hid (hZ l (k+1));have M4:=Lib.hid (M3.out.on hbl);have HS:=(M3.out.on hbl).sub (rs':=[(w2.heap.size+1,p0,p1,p2,p3),(w2.heap.size,o,0,0,0),(w.heap.size+1,a0,a1,a2,a3),(w.heap.size,0,0,0,0)]) (fun r h=>List.mem_cons_of_mem _ h);clear M3 hbl es;refine hK.out _ _ (Or.inr HS) (fun _ => ?_);clear hK K;refine aB (i:=8) (v:=.tuple #[.agg #[.int .u64 s0,.int .u64 s1,.int .u64 s2,.int .u64 s3],.int .u64 c]) rfl (by kernel_rfl) (by kernel_rfl) (by kernel_rfl) (by kernel_rfl) (fun _ _ _ h=>h) HS (Or.inl ⟨by kernel_rfl,fun wx hx => ?_⟩) ?_
        ·clear hx HS;go_simp
        simp only[Act.put,List.setIfInBounds_toArray,List.set_cons_zero,List.set_cons_succ];refine aB (i:=9) (v:=.agg #[.int .u64 s0,.int .u64 s1,.int .u64 s2,.int .u64 s3]) rfl (by kernel_rfl) (by kernel_rfl) (by kernel_rfl) (by kernel_rfl) (fun _ _ _ h=>h) HS (Or.inl ⟨by kernel_rfl,fun wx hx => ?_⟩) ?_
        ·clear hx HS;go_simp
        simp only[Act.put,List.setIfInBounds_toArray,List.set_cons_zero,List.set_cons_succ];refine aB (i:=10) (v:=.int .u64 c) rfl (by kernel_rfl) (by kernel_rfl) (by kernel_rfl) (by kernel_rfl) (fun _ _ _ h=>h) HS (Or.inl ⟨by kernel_rfl,fun wx hx => ?_⟩) ?_
        ·clear hx HS;go_simp
        simp only[Act.put,List.setIfInBounds_toArray,List.set_cons_zero,List.set_cons_succ];clear HS;have r5:=M4.out.2 (W2.heap.size,0,0,0,0) (by simp);obtain⟨lb,z0,z1,z2,z3,zf⟩:=r5;refine aC (i:=12) (by kernel_rfl) rfl (fun K hK => ?_);go_simp;have M5:=Lib.hid (M4.out.put s0 s1 s2 s3 (by omega) (by simp; omega));refine hK.out _ _ (Or.inr (M5.out.sub (fun r h=>List.mem_cons_of_mem _ h))) (fun _ => ?_);clear hK K z0 z1 z2 z3 zf lb;refine aC (i:=13) (by kernel_rfl) rfl (fun K hK => ?_);go_simp;refine hK.out _ _ (Or.inl rfl) (fun _ => ?_);clear hK K;refine aQ (by kernel_rfl) ?_;have r3:=M4.out.2 (w.heap.size,0,0,0,0) (by simp);have r4:=M4.out.2 (w.heap.size+1,a0,a1,a2,a3) (by simp);have r5:=M4.out.2 (W2.heap.size,0,0,0,0) (by simp);obtain⟨lz,y0,y1,y2,y3,yf⟩:=r3;obtain⟨la,c0,c1,c2,c3,cf⟩:=r4;obtain⟨lb,z0,z1,z2,z3,zf⟩:=r5;have r6:=(M4.out.2 (w2.heap.size,o,0,0,0) (by simp)).2.c0
        rcases Nat.eq_zero_or_pos o with rfl|h0
        ·rcases (show c=0∨c=1 by omega)with rfl|rfl
         ·have HN:=Lib.hid (show aA s0 s1 s2 s3=cD (l.take (k+1)) by have:=HV.out; omega);have M6:=Lib.hid ((M5.out.sub (rs':=[(w.heap.size+1,a0,a1,a2,a3),(w.heap.size,0,0,0,0)]) (fun r h=>List.mem_cons_of_mem _ (List.mem_cons_of_mem _ (List.mem_cons_of_mem _ h)))).put s0 s1 s2 s3 (by omega) (by simp));go_wp2_with fail
          go_roundw
          case rel=>exact⟨k+1,s0,s1,s2,s3,by omega,by go_num,hs',HN,M6.out⟩
          case measure=>first|(simp[intOf]; done)|(simp[intOf]; omega)
         ·have HF:=Lib.hid (HBig.out (by have h1:=HV.out; have h2:=HT.out; omega));go_wp2_with fail;refine bodyPost_ret (v:=.tuple #[.agg #[.int .u64 0,.int .u64 0,.int .u64 0,.int .u64 0],.int .i64 4]) (by simp[results,results105,go_sem, *]) rfl ?_;exact⟨0,0,0,0,4,rfl,hz,HF.out.symm,aL M5.out.1 (by omega) _ _ _ _⟩
        ·have t1:((o:Int) != 0)=true:=by simp; omega
         have HF:=Lib.hid (HBig.out (by have h1:=HV.out; have h2:=HT.out; omega));clear h0;go_wp2_with fail;refine bodyPost_ret (v:=.tuple #[.agg #[.int .u64 0,.int .u64 0,.int .u64 0,.int .u64 0],.int .i64 4]) (by simp[results,results105,go_sem, *]) rfl ?_;exact⟨0,0,0,0,4,rfl,hz,HF.out.symm,aL M5.out.1 (by omega) _ _ _ _⟩
      ·obtain rfl:k=s.size:=by omega
       have HF:=Lib.hid (show (aA a0 a1 a2 a3,0)=dK l by
        have e1:cD (l.take s.size)=cD l:=by rw[List.take_of_length_le (by rw[Hll.out]; exact Nat.le_refl _)]
        have e2:=ev.out.trans e1;rw[HOk.out (by rw[←e2]; exact bQ ha),e2])
       clear ev;go_wp2_with fail;refine bodyPost_ret (v:=.tuple #[.agg #[.int .u64 a0,.int .u64 a1,.int .u64 a2,.int .u64 a3],.int .i64 0]) (by simp[results,results105,go_sem, *]) rfl ?_;exact⟨a0,a1,a2,a3,0,rfl,ha,HF.out,aL M.out.1 (by omega) _ _ _ _⟩
set_option maxHeartbeats 8000000 in
theorem refParse_more (s:ByteArray) (hs:s.size≤maxLen) (h1:1<s.size) (h0:(s[0]'(by omega)).toNat≠48) (w:World) :
  Calls prog 105 #[.string s] w (fW (fun n c=>(n,c)=dK s.data.toList) w):=by
 unfold maxLen at hs;have hp:0<s.size:=by omega
 have H0:=Lib.hid h0;obtain⟨c0,ec0,hc0⟩:∃c:Nat,(s[0]'hp).toNat=c∧((c:Int)==48)=false:=⟨_,rfl,by simp; omega⟩
 clear h0;have t1:decide ((1:Int)<(s.size:Int))=true:=decide_eq_true (by omega);have e0:(s.toList==[])=false:=by
  have:¬s.toList=[]:=by
   intro e;have h5:s.toList.length=s.size:=by rw[ByteArray.toList_eq]; simp
   rw[e]at h5;have h6:0=s.size:=h5;omega
  simpa using this
 have e1:¬s.toList=[]:=by simpa using e0
 obtain⟨l,el⟩:∃l,l=s.data.toList:=⟨_,rfl⟩
 have hll:l.length=s.size:=by rw[el]; simp
 have HG:=Lib.hid (fun (k:Nat) (hk:k<s.size) (hk':k<l.length)=>show s[k]=l[k]from by subst el; rfl);rw[←el];have HR:=Lib.hid (numB_rest (l:=l) (by omega) (fun e=>by rw[←HG.out 0 (by omega) (by omega)]; exact H0.out));have Hll:=Lib.hid hll;have HBad:=Lib.hid (fun (h:lY l=false)=>jG h);have HLong:=Lib.hid (fun h=>pJ (l:=l) h);clear el hll;have hz:aX 0 0 0 0:=⟨by omega,by omega,by omega,by omega⟩
 go_enter func105,ntmps105
 go_wp2_with fail
 go_loop [5] (fun x=>∃k:Nat,k≤s.size∧x=.int .i64 k∧Hid (∀j (hj:j<l.length),j<k→kX l[j]=true)) (fun x=>s.size-(intOf x).toNat)
 case atStart=>exact⟨0,Nat.zero_le _,rfl,Lib.hid (fun j _ h=>absurd h (by omega))⟩
 case round =>
  obtain⟨k,hk,rfl,ha⟩:=hrel
  by_cases hlt:k<s.size
  ·have hl:k<l.length:=by rw[Hll.out]; exact hlt
   obtain⟨c,ec,eq⟩:∃c:UInt8,s[k]'hlt=c∧l[k]=c:=⟨s[k]'hlt,rfl,(HG.out k hlt hl).symm⟩
   by_cases h1:(c.toNat:Int)<48
   ·have HV:=Lib.hid (HBad.out (nJ hl (by rw[eq]; unfold kX; exact decide_eq_false (by omega))));clear eq ha;go_wp2_with fail;refine bodyPost_ret (v:=.tuple #[.agg #[.int .u64 0,.int .u64 0,.int .u64 0,.int .u64 0],.int .i64 11]) (by simp[results,results105,go_sem]) rfl ?_;refine⟨0,0,0,0,11,rfl,hz,HV.out.symm,?_⟩
    repeat (first|exact Below.refl _ _|refine Below.drew ?_|refine Below.alloc ?_ (by first|(simp; done)|(simp; omega)) _)
   ·by_cases h2:(57:Int)<(c.toNat:Int)
    ·have HV:=Lib.hid (HBad.out (nJ hl (by rw[eq]; unfold kX; exact decide_eq_false (by omega))));clear eq ha;go_wp2_with fail;refine bodyPost_ret (v:=.tuple #[.agg #[.int .u64 0,.int .u64 0,.int .u64 0,.int .u64 0],.int .i64 11]) (by simp[results,results105,go_sem]) rfl ?_;refine⟨0,0,0,0,11,rfl,hz,HV.out.symm,?_⟩
     repeat (first|exact Below.refl _ _|refine Below.drew ?_|refine Below.alloc ?_ (by first|(simp; done)|(simp; omega)) _)
    ·have HN:=Lib.hid (show ∀j (hj:j<l.length),j<k+1→kX l[j]=true from fun j hj h=>by
      by_cases e:j=k
      ·subst e; rw[eq]; unfold kX; exact decide_eq_true (by omega)
      ·exact ha.out j hj (by omega))
     clear eq ha;go_wp2_with fail
     go_round
     case rel=>exact⟨k+1,by omega,by go_num,HN⟩
     case measure=>simp[intOf]; omega
  ·obtain rfl:k=s.size:=by omega
   have hnum:=HR.out (fun j hj=>ha.out j hj (by rw[←Hll.out]; exact hj));clear ha
   by_cases h78:78<s.size
   ·have HV:=Lib.hid (HLong.out hnum (by rw[Hll.out]; exact h78));clear hnum;go_wp2_with fail;refine bodyPost_ret (v:=.tuple #[.agg #[.int .u64 0,.int .u64 0,.int .u64 0,.int .u64 0],.int .i64 4]) (by simp[results,results105,go_sem]) rfl ?_;refine⟨0,0,0,0,4,rfl,hz,HV.out.symm,?_⟩
    repeat (first|exact Below.refl _ _|refine Below.drew ?_|refine Below.alloc ?_ (by first|(simp; done)|(simp; omega)) _)
   ·have HBig:=Lib.hid (rU hnum (show ¬ 78<l.length by rw[Hll.out]; exact h78));have HOk:=Lib.hid (uC hnum (show ¬ 78<l.length by rw[Hll.out]; exact h78));have HDig:=Lib.hid (fun k hk=>zB hnum (k:=k) hk);have hd:decide ((78:Int)<(s.size:Int))=false:=decide_eq_false (by omega);have hs78:s.size≤78:=by omega
    clear hnum;go_wp2_with fail
    go_loopw [6] (fun x wr=>∃k a0 a1 a2 a3:Nat,k≤s.size∧x=.int .i64 k∧aX a0 a1 a2 a3∧Hid (aA a0 a1 a2 a3=cD (l.take k))∧Mem w wr [(w.heap.size+1,a0,a1,a2,a3),(w.heap.size,0,0,0,0)]) (fun x _=>s.size-(intOf x).toNat)
    case atStart=>exact⟨0,0,0,0,0,Nat.zero_le _,rfl,hz,Lib.hid rfl,((Mem.nil w).new w.heap.size 0 0 0 0 49 rfl).new (w.heap.size+1) 0 0 0 0 49 (by simp)⟩
    case round =>
      obtain⟨k,a0,a1,a2,a3,hk,rfl,ha,ev,mm⟩:=hrel;have M:=Lib.hid mm;have r0:=(mm.2 (w.heap.size+1,a0,a1,a2,a3) (by simp)).2;have z0:=(mm.2 (w.heap.size,0,0,0,0) (by simp)).2;have la:=(mm.2 (w.heap.size+1,a0,a1,a2,a3) (by simp)).1;clear mm;obtain⟨c0,c1,c2,c3,cf⟩:=r0;obtain⟨y0,y1,y2,y3,yf⟩:=z0
      by_cases hlt:k<s.size
      ·have hl:k<l.length:=by rw[Hll.out]; exact hlt
       have hdg:=HDig.out k hl;obtain⟨d,hdd,ld,ed⟩:∃d:Nat,((s[k]'hlt).toNat:Int)-48=(d:Int)∧d≤9∧Hid (cD (l.take (k+1))=cD (l.take k)*10+d):=by
        refine⟨l[k].toNat-48,?_,by omega,Lib.hid (pL hl)⟩;rw[HG.out k hlt hl]; omega
       have b1:48≤(s[k]'hlt).toNat:=by rw[HG.out k hlt hl]; exact hdg.1
       have b2:(s[k]'hlt).toNat≤57:=by rw[HG.out k hlt hl]; exact hdg.2
       have okd:aX d 0 0 0:=⟨by omega,by omega,by omega,by omega⟩;have w8:IntKind.u8.wrap (d:Int)=(d:Int):=by simp only[IntKind.wrap,IntKind.bits,IntKind.signed]; simp; omega
       have w64:IntKind.u64.wrap (d:Int)=(d:Int):=lG _ (by omega);clear hdg;go_wp2_with fail;refine (refMul_calls a0 a1 a2 a3 10 0 0 0 ha ⟨by omega,by omega,by omega,by omega⟩ _).mono ?_
       rintro e w2 ⟨o,g1,g2,g3,p0,p1,p2,p3,rfl,hgo,hp,ep,hbl⟩
       have ep':=ep;rw[show aA 10 0 0 0=10 from rfl]at ep';obtain⟨rfl,rfl,rfl,lo⟩:g1=0∧g2=0∧g3=0∧o<10:=by
        have h1:=bQ ha;unfold aA at ep' h1;omega
       have Hep:=Lib.hid (show aA p0 p1 p2 p3+115792089237316195423570985008687907853269984665640564039457584007913129639936*o=aA a0 a1 a2 a3*10 by
        rw[←ep']; unfold aA; omega)
       have M2:=Lib.hid (((M.out.on hbl).new w2.heap.size o 0 0 0 49 rfl).new (w2.heap.size+1) p0 p1 p2 p3 49 (by simp));clear hbl M c0 c1 c2 c3 cf la y0 y1 y2 y3 yf ep ep' hgo;go_wp2_with fail;generalize (w2.alloc (.cells #[.int .u64 o,.int .u64 0,.int .u64 0,.int .u64 0] 49)).alloc (.cells #[.int .u64 p0,.int .u64 p1,.int .u64 p2,.int .u64 p3] 49)=W2 at M2 ⊢;have HM:=Lib.hid (M2.out.drewN 1);have HS:=M2.out.drewN 1;clear M2;refine bK (fun wx=>Mem w wx [(w2.heap.size+1,p0,p1,p2,p3),(w2.heap.size,o,0,0,0),(w.heap.size+1,a0,a1,a2,a3),(w.heap.size,0,0,0,0)]) 13 (by kernel_rfl) ?_;refine aB (i:=0) (v:=.agg #[.int .u64 p0,.int .u64 p1,.int .u64 p2,.int .u64 p3]) rfl (by kernel_rfl) (by kernel_rfl) (by kernel_rfl) (by kernel_rfl) (fun _ _ _ h=>h) HS (Or.inl ⟨by kernel_rfl,fun wx hx => ?_⟩) ?_
       ·have kr:=(hx.2 (w2.heap.size+1,p0,p1,p2,p3) (List.Mem.head _)).2;have k0:=kr.c0; have k1:=kr.c1; have k2:=kr.c2; have k3:=kr.c3; have kf:=kr.fr;clear kr HS hx;go_simp
       simp only[Act.put,List.setIfInBounds_toArray,List.set_cons_zero,List.set_cons_succ];refine aB (i:=1) (v:=.string s) rfl (by kernel_rfl) (by kernel_rfl) (by kernel_rfl) (by kernel_rfl) (fun _ _ _ h=>h) HS (Or.inl ⟨by kernel_rfl,fun wx hx => ?_⟩) ?_
       ·clear hx HS;go_simp
       simp only[Act.put,List.setIfInBounds_toArray,List.set_cons_zero,List.set_cons_succ];refine aB (i:=2) (v:=.int .i64 k) rfl (by kernel_rfl) (by kernel_rfl) (by kernel_rfl) (by kernel_rfl) (fun _ _ _ h=>h) HS (Or.inl ⟨by kernel_rfl,fun wx hx => ?_⟩) ?_
       ·clear hx HS;go_simp
       simp only[Act.put,List.setIfInBounds_toArray,List.set_cons_zero,List.set_cons_succ];refine aB (i:=3) (v:=.int .u8 ((s[k]'hlt).toNat:Nat)) rfl (by kernel_rfl) (by kernel_rfl) (by kernel_rfl) (by kernel_rfl) (fun _ _ _ h=>h) HS (Or.inl ⟨by kernel_rfl,fun wx hx => ?_⟩) ?_
       ·clear hx HS;go_simp
       simp only[Act.put,List.setIfInBounds_toArray,List.set_cons_zero,List.set_cons_succ];refine aB (i:=4) (v:=.int .u8 d) rfl (by kernel_rfl) (by kernel_rfl) (by kernel_rfl) (by kernel_rfl) (fun _ _ _ h=>h) HS (Or.inl ⟨by kernel_rfl,fun wx hx => ?_⟩) ?_
       ·clear hx HS;go_simp
       simp only[Act.put,List.setIfInBounds_toArray,List.set_cons_zero,List.set_cons_succ];refine aB (i:=5) (v:=.int .u64 d) rfl (by kernel_rfl) (by kernel_rfl) (by kernel_rfl) (by kernel_rfl) (fun _ _ _ h=>h) HS (Or.inl ⟨by kernel_rfl,fun wx hx => ?_⟩) ?_
       ·clear hx HS;go_simp
       simp only[Act.put,List.setIfInBounds_toArray,List.set_cons_zero,List.set_cons_succ];refine aB (i:=6) (v:=.agg #[.int .u64 d,.int .u64 0,.int .u64 0,.int .u64 0]) rfl (by kernel_rfl) (by kernel_rfl) (by kernel_rfl) (by kernel_rfl) (fun _ _ _ h=>h) HS (Or.inl ⟨by kernel_rfl,fun wx hx => ?_⟩) ?_
       ·clear hx HS;go_simp
       simp only[Act.put,List.setIfInBounds_toArray,List.set_cons_zero,List.set_cons_succ];clear HS;refine bU (i:=7) (j:=11) (by kernel_rfl) rfl rfl (fun K hK => ?_) (fun K hK => ?_)
       ·go_simp;refine (refAdd_calls p0 p1 p2 p3 d 0 0 0 hp okd _).mono ?_
        rintro e w3 ⟨s0,s1,s2,s3,c,rfl,hs',hc,es,hbl⟩
        have HV:=Lib.hid (show aA s0 s1 s2 s3+115792089237316195423570985008687907853269984665640564039457584007913129639936*(c+o)=cD (l.take (k+1)) by
         have h1:=Hep.out; have h2:=ev.out; have h3:=ed.out;have h4:aA d 0 0 0=d:=by unfold aA; omega
         rw[h3,←h2,Nat.mul_add]; omega)
        have HT:=Lib.hid (hZ l (k+1));have M3:=Lib.hid (HM.out.on hbl);have HS:=HM.out.on hbl;clear HM hbl es;refine hK.out _ _ (Or.inr HS) (fun _ => ?_);clear hK K;refine aB (i:=8) (v:=.tuple #[.agg #[.int .u64 s0,.int .u64 s1,.int .u64 s2,.int .u64 s3],.int .u64 c]) rfl (by kernel_rfl) (by kernel_rfl) (by kernel_rfl) (by kernel_rfl) (fun _ _ _ h=>h) HS (Or.inl ⟨by kernel_rfl,fun wx hx => ?_⟩) ?_
        ·clear hx HS;go_simp
        simp only[Act.put,List.setIfInBounds_toArray,List.set_cons_zero,List.set_cons_succ];refine aB (i:=9) (v:=.agg #[.int .u64 s0,.int .u64 s1,.int .u64 s2,.int .u64 s3]) rfl (by kernel_rfl) (by kernel_rfl) (by kernel_rfl) (by kernel_rfl) (fun _ _ _ h=>h) HS (Or.inl ⟨by kernel_rfl,fun wx hx => ?_⟩) ?_
        ·clear hx HS;go_simp
        simp only[Act.put,List.setIfInBounds_toArray,List.set_cons_zero,List.set_cons_succ];refine aB (i:=10) (v:=.int .u64 c) rfl (by kernel_rfl) (by kernel_rfl) (by kernel_rfl) (by kernel_rfl) (fun _ _ _ h=>h) HS (Or.inl ⟨by kernel_rfl,fun wx hx => ?_⟩) ?_
        ·clear hx HS;go_simp
        simp only[Act.put,List.setIfInBounds_toArray,List.set_cons_zero,List.set_cons_succ];clear HS;refine aC (i:=11) (by kernel_rfl) rfl (fun K hK => ?_);go_simp;have M4:=Lib.hid (M3.out.new w3.heap.size 0 0 0 0 49 rfl);refine hK.out _ _ (Or.inr (M4.out.sub (fun r h=>List.mem_cons_of_mem _ h))) (fun _ => ?_);clear hK K;refine aC (i:=12) (by kernel_rfl) rfl (fun K hK => ?_);go_simp;have M5:=Lib.hid (M3.out.new w3.heap.size s0 s1 s2 s3 49 rfl);refine hK.out _ _ (Or.inr (M5.out.sub (fun r h=>List.mem_cons_of_mem _ h))) (fun _ => ?_);clear hK K M4;refine aC (i:=13) (by kernel_rfl) rfl (fun K hK => ?_);go_simp;refine hK.out _ _ (Or.inl rfl) (fun _ => ?_);clear hK K;refine aQ (by kernel_rfl) ?_;have r3:=M3.out.2 (w.heap.size,0,0,0,0) (by simp);have r4:=M3.out.2 (w.heap.size+1,a0,a1,a2,a3) (by simp);have r6:=(M3.out.2 (w2.heap.size,o,0,0,0) (by simp)).2.c0;have l6:=(M3.out.2 (w2.heap.size,o,0,0,0) (by simp)).1;obtain⟨lz,y0,y1,y2,y3,yf⟩:=r3;obtain⟨la,c0,c1,c2,c3,cf⟩:=r4
        rcases Nat.eq_zero_or_pos o with rfl|h0
        ·rcases (show c=0∨c=1 by omega)with rfl|rfl
         ·have HN:=Lib.hid (show aA s0 s1 s2 s3=cD (l.take (k+1)) by have:=HV.out; omega);have M6:=Lib.hid (((M3.out.sub (rs':=[(w.heap.size+1,a0,a1,a2,a3),(w.heap.size,0,0,0,0)]) (fun r h=>List.mem_cons_of_mem _ (List.mem_cons_of_mem _ h))).put s0 s1 s2 s3 (by omega) (by simp)).on ((Below.refl _ _).alloc (Nat.le_refl _) (.cells #[.int .u64 s0,.int .u64 s1,.int .u64 s2,.int .u64 s3] 49)));go_wp2_with fail
          go_roundw
          case rel=>exact⟨k+1,s0,s1,s2,s3,by omega,by go_num,hs',HN,M6.out⟩
          case measure=>first|(simp[intOf]; done)|(simp[intOf]; omega)
         ·have HF:=Lib.hid (HBig.out (by have h1:=HV.out; have h2:=HT.out; omega));go_wp2_with fail;refine bodyPost_ret (v:=.tuple #[.agg #[.int .u64 0,.int .u64 0,.int .u64 0,.int .u64 0],.int .i64 4]) (by simp[results,results105,go_sem, *]) rfl ?_;exact⟨0,0,0,0,4,rfl,hz,HF.out.symm,(aL M3.out.1 (by omega) _ _ _ _).alloc (by simp only[World.size_setCell,set4]; omega) _⟩
        ·have t1:((o:Int) != 0)=true:=by simp; omega
         have HF:=Lib.hid (HBig.out (by have h1:=HV.out; have h2:=HT.out; omega));clear h0;go_wp2_with fail;refine bodyPost_ret (v:=.tuple #[.agg #[.int .u64 0,.int .u64 0,.int .u64 0,.int .u64 0],.int .i64 4]) (by simp[results,results105,go_sem, *]) rfl ?_;exact⟨0,0,0,0,4,rfl,hz,HF.out.symm,(aL M3.out.1 (by omega) _ _ _ _).alloc (by simp only[World.size_setCell,set4]; omega) _⟩
       ·go_simp;have M3:=Lib.hid (HM.out.new W2.heap.size 0 0 0 0 49 rfl);have lW:=(HM.out.2 (w.heap.size+1,a0,a1,a2,a3) (by simp)).1;have lW2:=(HM.out.2 (w2.heap.size+1,p0,p1,p2,p3) (by simp)).1;have gW:w.heap.size+1<W2.heap.size:=lW;have gW2:w2.heap.size+1<W2.heap.size:=lW2;clear HM lW lW2;refine hK.out _ _ (Or.inr (M3.out.sub (fun r h=>List.mem_cons_of_mem _ h))) (fun _ => ?_);clear hK K;refine aC (i:=7) (by kernel_rfl) rfl (fun K hK => ?_);go_simp;refine (refAdd_calls p0 p1 p2 p3 d 0 0 0 hp okd _).mono ?_
        rintro e w3 ⟨s0,s1,s2,s3,c,rfl,hs',hc,es,hbl⟩
        have HV:=Lib.hid (show aA s0 s1 s2 s3+115792089237316195423570985008687907853269984665640564039457584007913129639936*(c+o)=cD (l.take (k+1)) by
         have h1:=Hep.out; have h2:=ev.out; have h3:=ed.out;have h4:aA d 0 0 0=d:=by unfold aA; omega
         rw[h3,←h2,Nat.mul_add]; omega)
        have HT:=Lib.hid (hZ l (k+1));have M4:=Lib.hid (M3.out.on hbl);have HS:=(M3.out.on hbl).sub (rs':=[(w2.heap.size+1,p0,p1,p2,p3),(w2.heap.size,o,0,0,0),(w.heap.size+1,a0,a1,a2,a3),(w.heap.size,0,0,0,0)]) (fun r h=>List.mem_cons_of_mem _ h);clear M3 hbl es;refine hK.out _ _ (Or.inr HS) (fun _ => ?_);clear hK K;refine aB (i:=8) (v:=.tuple #[.agg #[.int .u64 s0,.int .u64 s1,.int .u64 s2,.int .u64 s3],.int .u64 c]) rfl (by kernel_rfl) (by kernel_rfl) (by kernel_rfl) (by kernel_rfl) (fun _ _ _ h=>h) HS (Or.inl ⟨by kernel_rfl,fun wx hx => ?_⟩) ?_
        ·clear hx HS;go_simp
        simp only[Act.put,List.setIfInBounds_toArray,List.set_cons_zero,List.set_cons_succ];refine aB (i:=9) (v:=.agg #[.int .u64 s0,.int .u64 s1,.int .u64 s2,.int .u64 s3]) rfl (by kernel_rfl) (by kernel_rfl) (by kernel_rfl) (by kernel_rfl) (fun _ _ _ h=>h) HS (Or.inl ⟨by kernel_rfl,fun wx hx => ?_⟩) ?_
        ·clear hx HS;go_simp
        simp only[Act.put,List.setIfInBounds_toArray,List.set_cons_zero,List.set_cons_succ];refine aB (i:=10) (v:=.int .u64 c) rfl (by kernel_rfl) (by kernel_rfl) (by kernel_rfl) (by kernel_rfl) (fun _ _ _ h=>h) HS (Or.inl ⟨by kernel_rfl,fun wx hx => ?_⟩) ?_
        ·clear hx HS;go_simp
        simp only[Act.put,List.setIfInBounds_toArray,List.set_cons_zero,List.set_cons_succ];clear HS;have r5:=M4.out.2 (W2.heap.size,0,0,0,0) (by simp);obtain⟨lb,z0,z1,z2,z3,zf⟩:=r5;refine aC (i:=12) (by kernel_rfl) rfl (fun K hK => ?_);go_simp;have M5:=Lib.hid (M4.out.put s0 s1 s2 s3 (by omega) (by simp; omega));refine hK.out _ _ (Or.inr (M5.out.sub (fun r h=>List.mem_cons_of_mem _ h))) (fun _ => ?_);clear hK K z0 z1 z2 z3 zf lb;refine aC (i:=13) (by kernel_rfl) rfl (fun K hK => ?_);go_simp;refine hK.out _ _ (Or.inl rfl) (fun _ => ?_);clear hK K;refine aQ (by kernel_rfl) ?_;have r3:=M4.out.2 (w.heap.size,0,0,0,0) (by simp);have r4:=M4.out.2 (w.heap.size+1,a0,a1,a2,a3) (by simp);have r5:=M4.out.2 (W2.heap.size,0,0,0,0) (by simp);obtain⟨lz,y0,y1,y2,y3,yf⟩:=r3;obtain⟨la,c0,c1,c2,c3,cf⟩:=r4;obtain⟨lb,z0,z1,z2,z3,zf⟩:=r5;have r6:=(M4.out.2 (w2.heap.size,o,0,0,0) (by simp)).2.c0
        rcases Nat.eq_zero_or_pos o with rfl|h0
        ·rcases (show c=0∨c=1 by omega)with rfl|rfl
         ·have HN:=Lib.hid (show aA s0 s1 s2 s3=cD (l.take (k+1)) by have:=HV.out; omega);have M6:=Lib.hid ((M5.out.sub (rs':=[(w.heap.size+1,a0,a1,a2,a3),(w.heap.size,0,0,0,0)]) (fun r h=>List.mem_cons_of_mem _ (List.mem_cons_of_mem _ (List.mem_cons_of_mem _ h)))).put s0 s1 s2 s3 (by omega) (by simp));go_wp2_with fail
          go_roundw
          case rel=>exact⟨k+1,s0,s1,s2,s3,by omega,by go_num,hs',HN,M6.out⟩
          case measure=>first|(simp[intOf]; done)|(simp[intOf]; omega)
         ·have HF:=Lib.hid (HBig.out (by have h1:=HV.out; have h2:=HT.out; omega));go_wp2_with fail;refine bodyPost_ret (v:=.tuple #[.agg #[.int .u64 0,.int .u64 0,.int .u64 0,.int .u64 0],.int .i64 4]) (by simp[results,results105,go_sem, *]) rfl ?_;exact⟨0,0,0,0,4,rfl,hz,HF.out.symm,aL M5.out.1 (by omega) _ _ _ _⟩
        ·have t1:((o:Int) != 0)=true:=by simp; omega
         have HF:=Lib.hid (HBig.out (by have h1:=HV.out; have h2:=HT.out; omega));clear h0;go_wp2_with fail;refine bodyPost_ret (v:=.tuple #[.agg #[.int .u64 0,.int .u64 0,.int .u64 0,.int .u64 0],.int .i64 4]) (by simp[results,results105,go_sem, *]) rfl ?_;exact⟨0,0,0,0,4,rfl,hz,HF.out.symm,aL M5.out.1 (by omega) _ _ _ _⟩
      ·obtain rfl:k=s.size:=by omega
       have HF:=Lib.hid (show (aA a0 a1 a2 a3,0)=dK l by
        have e1:cD (l.take s.size)=cD l:=by rw[List.take_of_length_le (by rw[Hll.out]; exact Nat.le_refl _)]
        have e2:=ev.out.trans e1;rw[HOk.out (by rw[←e2]; exact bQ ha),e2])
       clear ev;go_wp2_with fail;refine bodyPost_ret (v:=.tuple #[.agg #[.int .u64 a0,.int .u64 a1,.int .u64 a2,.int .u64 a3],.int .i64 0]) (by simp[results,results105,go_sem, *]) rfl ?_;exact⟨a0,a1,a2,a3,0,rfl,ha,HF.out,aL M.out.1 (by omega) _ _ _ _⟩
theorem refParse_calls (s:ByteArray) (hs:s.size≤maxLen) (w:World) :
  Calls prog 105 #[.string s] w (fW (fun n c=>(n,c)=dK s.data.toList) w):=by
 rcases Nat.eq_zero_or_pos s.size with h|h
 ·exact refParse_empty s h w
 ·by_cases h1:1<s.size
  ·by_cases h0:(s[0]'(by omega)).toNat=48
   ·exact refParse_lead s hs h1 h0 w
   ·exact refParse_more s hs h1 h0 w
  ·exact refParse_one s hs (by omega) w
end Go.Proofs.YtjeplinbleofnaaGreat.R1
namespace Go.Proofs.YtjeplinbleofnaaGreat.Ex
open Go.Proofs.Tryz
open Go.RowKit
def Ed (b:Bool):gH:=Ny (fun _=>.one (.im (.bool b))) fun x=>[x<aU,decide (x<RM)=b]
theorem YZ (b:Bool):∀cs pre r,Ed b cs=some (pre,r)→aP pre→∀(args:List Value) (w:World),cE w cs args→bE prog 22 r args w :=
 QK (op:=fun _=>.one (.im (.bool b))) (c:=fun x=>[x<aU,decide (x<RM)=b]) fun x h w=>by
  have h':=Bf x ⟨h.1,trivial⟩ w;unfold Kt at h';rw[h.2.1]at h';exact h'
def AQ:Tab:=((((T0.add 98 (Ks eG xB)).add 62 (Ks dE xB)).add 58 (Ks aI xB)).add 24 (Ny (fun x=>.many [.fl [.q (SX x)],.im (.int .i64 0)]) fun x=>[x<RM,x≠0]))
theorem vX:TabOk prog (AQ):=(((((fV _).ad func98 (DD Bg)).ad func62 (DD Bc)).ad func58 (DD Bd)).ad func24 (QK Be))
theorem Ar (x y:Nat):jY prog AQ (qG prog) (fun _=>true) f77 40 [.v (.fl [.q x]),.v (.fl [.q y])]=some ([x<RM,y<RM],.one (.fl [.q (eG x y)])):=by kernel_rfl
theorem Ap (x y:Nat):jY prog AQ (qG prog) (fun _=>true) f25 40 [.v (.fl [.q x]),.v (.fl [.q y])]=some ([x<RM,y<RM],.one (.fl [.q (dE x y)])):=by kernel_rfl
theorem Aq (x y:Nat):jY prog AQ (qG prog) (fun _=>true) f23 40 [.v (.fl [.q x]),.v (.fl [.q y])]=some ([x<RM,y<RM],.one (.fl [.q (aI x y)])):=by kernel_rfl
def pZ:Tab:=(((AQ.add 77 (WH eG xB)).add 25 (WH dE xB)).add 23 (WH aI xB))
theorem mJ:TabOk prog (pZ):=(((vX.ad func77 (mO (op:=eG) (c:=xB) fun x y h args w ha=>bR aT vX (aW _) func77 (Ar x y) h ha)).ad func25 (mO (op:=dE) (c:=xB) fun x y h args w ha=>bR aT vX (aW _) func25 (Ap x y) h ha)).ad func23 (mO (op:=aI) (c:=xB) fun x y h args w ha=>bR aT vX (aW _) func23 (Aq x y) h ha))
def ST (b:Bool):Tab:=(pZ.add 22 (Ed b))
theorem FO (b:Bool):TabOk prog (ST b):=(mJ.ad func22 (YZ b))
theorem Ii (p:NP):cK prog (qG prog) (fun n=>⟨fun _=>ST true,fun _=>true,fun _=>none⟩) f41 60 [.v (.fl [.q p.1,.q p.2])]=some ([p.1<aU,decide (p.1<RM)=true,p.2<aU,decide (p.2<RM)=true,p.1<RM,p.1<RM,p.2<RM,p.2<RM,168700<RM,aI p.1 p.1<RM,aI 168700 (aI p.1 p.1)<RM,aI p.2 p.2<RM,aI p.1 p.1<RM,aI p.2 p.2<RM,168696<RM,aI (aI p.1 p.1) (aI p.2 p.2)<RM,1<RM,aI 168696 (aI (aI p.1 p.1) (aI p.2 p.2))<RM,aD [At.q (eG (aI 168700 (aI p.1 p.1)) (aI p.2 p.2))]=aD [At.q (eG 1 (aI 168696 (aI (aI p.1 p.1) (aI p.2 p.2))))]],.one (.im (.bool true))):=by kernel_rfl
theorem Ij (p:NP):cK prog (qG prog) (fun n=>⟨fun _=>ST true,fun _=>false,fun _=>none⟩) f41 60 [.v (.fl [.q p.1,.q p.2])]=some ([p.1<aU,decide (p.1<RM)=true,p.2<aU,decide (p.2<RM)=true,p.1<RM,p.1<RM,p.2<RM,p.2<RM,168700<RM,aI p.1 p.1<RM,aI 168700 (aI p.1 p.1)<RM,aI p.2 p.2<RM,aI p.1 p.1<RM,aI p.2 p.2<RM,168696<RM,aI (aI p.1 p.1) (aI p.2 p.2)<RM,1<RM,aI 168696 (aI (aI p.1 p.1) (aI p.2 p.2))<RM,aD [At.q (eG (aI 168700 (aI p.1 p.1)) (aI p.2 p.2))]≠aD [At.q (eG 1 (aI 168696 (aI (aI p.1 p.1) (aI p.2 p.2))))]],.one (.im (.bool false))):=by kernel_rfl
theorem Ik (p:NP):cK prog (qG prog) (fun n=>⟨fun s=>ST (Nat.beq s 7),fun _=>true,fun _=>none⟩) f41 60 [.v (.fl [.q p.1,.q p.2])]=some ([p.1<aU,decide (p.1<RM)=true,p.2<aU,decide (p.2<RM)=false],.one (.im (.bool false))):=by kernel_rfl
theorem Il (p:NP):cK prog (qG prog) (fun n=>⟨fun s=>ST false,fun _=>true,fun _=>none⟩) f41 60 [.v (.fl [.q p.1,.q p.2])]=some ([p.1<aU,decide (p.1<RM)=false],.one (.im (.bool false))):=by kernel_rfl
theorem IY (p:NP) (hp:w2 p) (args:List Value) (w:World) (ha:cE w [.v (.fl (q2 p))] args):bE prog 41 (.one (.im (.bool (jX p.1 p.2)))) args w:=by
 by_cases h1:p.1<RM
 ·by_cases h2:p.2<RM
  ·by_cases h:FJ p.1 p.2
   ·rw[FK ⟨⟨h1,h2⟩,h⟩];exact aH aT (fun _ _=>FO _) (aW _) func41 (Ii p) ⟨hp.1,decide_eq_true h1,hp.2,decide_eq_true h2,h1,h1,h2,h2,by decide,aE _ _,aE _ _,aE _ _,aE _ _,aE _ _,by decide,aE _ _,cT,aE _ _,by unfold FJ at h; rw[h],trivial⟩ ha
   ·rw[show jX p.1 p.2=false from decide_eq_false fun q=>h q.2];exact aH aT (fun _ _=>FO _) (aW _) func41 (Ij p) ⟨hp.1,decide_eq_true h1,hp.2,decide_eq_true h2,h1,h1,h2,h2,by decide,aE _ _,aE _ _,aE _ _,aE _ _,aE _ _,by decide,aE _ _,cT,aE _ _,fun e=>h (YV (cC _ _) (cC _ _) e),trivial⟩ ha
  ·rw[show jX p.1 p.2=false from decide_eq_false fun q=>h2 q.1.2];exact aH aT (fun _ _=>FO _) (aW _) func41 (Ik p) ⟨hp.1,decide_eq_true h1,hp.2,decide_eq_false h2,trivial⟩ ha
 ·rw[show jX p.1 p.2=false from decide_eq_false fun q=>h1 q.1.1];exact aH aT (fun _ _=>FO _) (aW _) func41 (Il p) ⟨hp.1,decide_eq_false h1,trivial⟩ ha
def Ko (b:Bool):gH:=g1 IX fun p=>([p.1<aU,p.2<aU,jX p.1 p.2=b],.one (.im (.bool b)))
theorem Lj (b:Bool):∀cs pre r,Ko b cs=some (pre,r)→aP pre→∀(args:List Value) (w:World),cE w cs args→bE prog 41 r args w :=
 gO (op:=fun p=>([p.1<aU,p.2<aU,jX p.1 p.2=b],.one (.im (.bool b)))) fX fun p h args w ha=>by
  have h':=IY p ⟨h.1,h.2.1⟩ args w ha;rw[h.2.2.1]at h';exact h'
def Ki (p q:NJ):NJ :=
 let a:=aI p.2.2 q.2.2
 let b:=aI a a
 let c:=aI p.1 q.1
 let d:=aI p.2.1 q.2.1
 let e:=aI 168696 (aI c d)
 let f:=dE b e
 let g:=eG b e
 let x:=dE (dE (aI (eG p.1 p.2.1) (eG q.1 q.2.1)) c) d
 let y:=dE d (aI 168700 c)
 (aI a (aI f x),aI a (aI g y),aI f g)
theorem VX (p q:NJ):Ki p q=kB p q:=by
 refine Prod.ext ?_ (Prod.ext ?_ rfl)
 ·exact (uM _ _ _).symm
 ·exact (uM _ _ _).symm
theorem UB (p q:NJ):cK prog (qG prog) (fun n=>⟨fun _=>pZ,fun _=>true,fun _=>none⟩) f80 60 [.v (.fl (q3 p)),.v (.fl (q3 q))]=some ([p.2.2<RM,q.2.2<RM,(aI p.2.2 q.2.2)<RM,(aI p.2.2 q.2.2)<RM,p.1<RM,q.1<RM,p.2.1<RM,q.2.1<RM,(aI p.1 q.1)<RM,(aI p.2.1 q.2.1)<RM,168696<RM,(aI (aI p.1 q.1) (aI p.2.1 q.2.1))<RM,(aI (aI p.2.2 q.2.2) (aI p.2.2 q.2.2))<RM,(aI 168696 (aI (aI p.1 q.1) (aI p.2.1 q.2.1)))<RM,(aI (aI p.2.2 q.2.2) (aI p.2.2 q.2.2))<RM,(aI 168696 (aI (aI p.1 q.1) (aI p.2.1 q.2.1)))<RM,p.1<RM,p.2.1<RM,q.1<RM,q.2.1<RM,(eG p.1 p.2.1)<RM,(eG q.1 q.2.1)<RM,(aI (eG p.1 p.2.1) (eG q.1 q.2.1))<RM,(aI p.1 q.1)<RM,(dE (aI (eG p.1 p.2.1) (eG q.1 q.2.1)) (aI p.1 q.1))<RM,(aI p.2.1 q.2.1)<RM,168700<RM,(aI p.1 q.1)<RM,(aI p.2.1 q.2.1)<RM,(aI 168700 (aI p.1 q.1))<RM,(dE (aI (aI p.2.2 q.2.2) (aI p.2.2 q.2.2)) (aI 168696 (aI (aI p.1 q.1) (aI p.2.1 q.2.1))))<RM,(dE (dE (aI (eG p.1 p.2.1) (eG q.1 q.2.1)) (aI p.1 q.1)) (aI p.2.1 q.2.1))<RM,(aI p.2.2 q.2.2)<RM,(aI (dE (aI (aI p.2.2 q.2.2) (aI p.2.2 q.2.2)) (aI 168696 (aI (aI p.1 q.1) (aI p.2.1 q.2.1)))) (dE (dE (aI (eG p.1 p.2.1) (eG q.1 q.2.1)) (aI p.1 q.1)) (aI p.2.1 q.2.1)))<RM,(eG (aI (aI p.2.2 q.2.2) (aI p.2.2 q.2.2)) (aI 168696 (aI (aI p.1 q.1) (aI p.2.1 q.2.1))))<RM,(dE (aI p.2.1 q.2.1) (aI 168700 (aI p.1 q.1)))<RM,(aI p.2.2 q.2.2)<RM,(aI (eG (aI (aI p.2.2 q.2.2) (aI p.2.2 q.2.2)) (aI 168696 (aI (aI p.1 q.1) (aI p.2.1 q.2.1)))) (dE (aI p.2.1 q.2.1) (aI 168700 (aI p.1 q.1))))<RM,(dE (aI (aI p.2.2 q.2.2) (aI p.2.2 q.2.2)) (aI 168696 (aI (aI p.1 q.1) (aI p.2.1 q.2.1))))<RM,(eG (aI (aI p.2.2 q.2.2) (aI p.2.2 q.2.2)) (aI 168696 (aI (aI p.1 q.1) (aI p.2.1 q.2.1))))<RM],.one (.fl (q3 (Ki p q)))):=by kernel_rfl
theorem NO (p:NP):cK prog (qG prog) (fun n=>⟨fun _=>pZ,fun _=>true,fun _=>none⟩) f78 60 [.v (.fl [.q p.1,.q p.2])]=some ([],.one (.fl [.q p.1,.q p.2,.f ⟨1,by decide⟩])):=by kernel_rfl
theorem NX  : cK prog (qG prog) (fun n=>⟨fun _=>pZ,fun _=>true,fun _=>none⟩) f44 60 []=some ([],.one (.fl [.f ⟨0,cP⟩,.f ⟨1,by decide⟩])):=by kernel_rfl
theorem UA (p:NJ):cK prog (qG prog) (fun n=>⟨fun _=>pZ,fun _=>true,fun _=>none⟩) f82 60 [.v (.fl (q3 p))]=some ([p.2.2<RM,p.2.2≠0,p.1<RM,SX p.2.2<RM,p.2.1<RM,SX p.2.2<RM],.one (.fl [.q (tld p).1,.q (tld p).2])):=by kernel_rfl
theorem BQ (w:World):bE prog 44 (.one (.fl [.q 0,.q 1])) [] w:=aH aT (fun _ _=>mJ) (aW _) func44 NX trivial (args:=[]) trivial
def SS:Tab:=((((pZ.add 80 (g2 LX LX fun p q=>(c3 p++c3 q,.one (.fl (q3 (kB p q)))))).add 78 (g1 IX fun p=>([],.one (.fl (q3 (p.1,p.2,1)))))).add 44 (g0 (.one (.fl [.q 0,.q 1])))).add 82 (g1 LX fun p=>(c3 p++[p.2.2≠0],.one (.fl [.q (tld p).1,.q (tld p).2]))))
theorem FN:TabOk prog (SS):=((((mJ.ad func80 (zP (op:=fun p q=>(c3 p++c3 q,.one (.fl (q3 (kB p q))))) iB iB fun p q h args w ha=>by
  rw[←VX];exact aH aT (fun _ _=>mJ) (aW _) func80 (UB p q) ⟨h.2.2.1,h.2.2.2.2.2.1,(aE _ _),(aE _ _),h.1,h.2.2.2.1,h.2.1,h.2.2.2.2.1,(aE _ _),(aE _ _),(by decide),(aE _ _),(aE _ _),(aE _ _),(aE _ _),(aE _ _),h.1,h.2.1,h.2.2.2.1,h.2.2.2.2.1,(cC _ _),(cC _ _),(aE _ _),(aE _ _),(bI _ _),(aE _ _),(by decide),(aE _ _),(aE _ _),(aE _ _),(bI _ _),(bI _ _),(aE _ _),(aE _ _),(cC _ _),(bI _ _),(aE _ _),(aE _ _),(bI _ _),(cC _ _),trivial⟩ ha)).ad func78 (gO (op:=fun p=>([],.one (.fl (q3 (p.1,p.2,1))))) fX fun p h args w ha=>aH aT (fun _ _=>mJ) (aW _) func78 (NO p) trivial ha)).ad func44 (pO BQ)).ad func82 (gO (op:=fun p=>(c3 p++[p.2.2≠0],.one (.fl [.q (tld p).1,.q (tld p).2]))) iB fun p h args w ha=>aH aT (fun _ _=>mJ) (aW _) func82 (UA p) ⟨h.2.2.1,h.2.2.2.1,h.1,rK _,h.2.1,rK _,trivial⟩ ha))
def KF (L k:Nat):Value:=if k<L then iI (L-1-k)else .int .i64 (-1)
theorem Kh {L:Nat} (h:L≤256):bD .sub .i64 (Int.ofNat L) 1=some (KF L 0):=by
 unfold KF;cases L with
 | zero=>rfl
 | succ n =>
  rw[if_pos (by omega)];exact zA (k:=1) (i:=n+1) (by omega) (by omega)
theorem YO {L k:Nat} (h:L≤256) (hk:k<L):bD .sub .i64 (Int.ofNat (L-1-k)) 1=some (KF L (k+1)):=by
 unfold KF
 by_cases e:k+1<L
 ·rw[if_pos e,←Nat.sub_sub (L-1) k 1];exact zA (k:=1) (by omega) (by omega)
 ·rw[if_neg e,show L-1-k=0 by omega];rfl
theorem YP (n:Nat):bD .geq .i64 (Int.ofNat n) 0=some (.bool true):=by
 show some (Value.bool (decide ((0:Int)≤Int.ofNat n)))=_;rw[decide_eq_true (show (0:Int)≤Int.ofNat n from Int.natCast_nonneg n)]
theorem YQ (k:IntKind) (n:Nat):bD .eql k (Int.ofNat n) 1=some (.bool (decide (n=1))):=by
 show some (Value.bool ((n:Int)==1))=_
 by_cases h:n=1
 ·subst h; rfl
 ·rw[decide_eq_false h,beq_eq_false_iff_ne.2 (by omega)]
def qA (p:NJ) (n L:Nat):Nat→NJ
 | 0=>(0,1,1)
 | k+1=>if cI (wv n) (L-1-k)=1 then kB (kB (qA p n L k) (qA p n L k)) p else kB (qA p n L k) (qA p n L k)
theorem Ao (p:NJ) (n L:Nat):∀k,KA (qA p n L k)
 | 0=>⟨cW,cT,cT⟩
 | k+1=>by
  unfold qA;split
  ·exact⟨aE _ _,aE _ _,aE _ _⟩
  ·exact⟨aE _ _,aE _ _,aE _ _⟩
theorem EW {a:NJ} {P:JP} (h:JRep a P) (n:Nat):∀k,k≤bW n→JRep (qA a n (bW n) k) (iG.grp.ns (wv n/2^(bW n-k)) P)
 | 0,_=>by
  rw[Nat.sub_zero,Nat.div_eq_of_lt (nM n).1];exact wD
 | k+1,hk=>by
  have ih:=EW h n k (by omega);have e:wv n/2^(bW n-k)=wv n/2^(bW n-(k+1))/2:=by
   rw[show bW n-k=(bW n-(k+1))+1 by omega,Nat.pow_add,←Nat.div_div_eq_div_mul]
  have e2:cI (wv n) (bW n-1-k)=wv n/2^(bW n-(k+1))%2:=by
   unfold cI;rw[show bW n-1-k=bW n-(k+1) by omega]
  rw[e]at ih;generalize wv n/2^(bW n-(k+1))=y at ih e2 ⊢;have h2:=ih.pl ih;rw[←iG.grp.ns_add]at h2
  by_cases hb:cI (wv n) (bW n-1-k)=1
  ·rw[show qA a n (bW n) (k+1)=kB (kB (qA a n (bW n) k) (qA a n (bW n) k)) a from if_pos hb];rw[e2]at hb;rw[show y=y/2+y/2+1 by omega];have h3:=h2.pl h;exact h3
  ·rw[show qA a n (bW n) (k+1)=kB (qA a n (bW n) k) (qA a n (bW n) k)from if_neg hb];rw[e2]at hb;rw[show y=y/2+y/2 by omega];exact h2
def YB (p:NP) (n:Nat):NJ:=qA (p.1,p.2,1) n (bW n) (bW n)
theorem TX {p:NP} {P:JP} (h:JRep (p.1,p.2,1) P) (n:Nat):JRep (YB p n) (iG.grp.ns (wv n) P):=by
 have h1:=EW h n (bW n) (Nat.le_refl _);rw[Nat.sub_self,Nat.pow_zero,Nat.div_one]at h1;exact h1
def EI:Tab:=((SS.add 79 KO).add 81 Ee)
theorem VE:TabOk prog EI:=((FN.ad func79 UE).ad func81 UL)
def YC (num:Nat→Option Value) (_:Nat):Cfg:=⟨fun _=>EI,fun _=>true,num⟩
def fC:Code:=(f42.body).getD .skip
def vL:Code:=Ob (Ob (cB (cA (cB (cB (cB fC))))))
theorem TZ:fC=.seq (cA fC) (.seq (cA (cB fC)) (.seq (cA (cB (cB fC))) (.seq (.seq (cA (cA (cB (cB (cB fC))))) (.block 0 (.loop vL))) (cB (cB (cB (cB fC))))))):=by kernel_rfl
def Sa:List At:=[.f ⟨0,cP⟩,.f ⟨0,cP⟩]
def No (p:NP) (n:Nat):List Fact:=[.slot 2 (.pt 2 0),.row 2 true (q2 p),.slot 3 (.pt 3 0),.row 3 true [.q n],.slot 4 (.pt 4 0),.row 4 true Sa]
def Nn (p:NP) (n:Nat) (s:NJ):List Fact:=No p n++[.slot 5 (.pt 5 0),.row 5 true (q3 s)]
def Nm (p:NP) (n:Nat) (s:NJ):List Fact:=Nn p n s++[.slot 6 (.pt 6 0),.row 6 true (q3 (p.1,p.2,1))]
def xU (p:NP) (n:Nat) (s:NJ) (v:Value):List Fact:=Nm p n s++[.slot 7 (.im v)]
theorem Ie (p:NP) (n:Nat):bT prog (qG prog) f42.ntmps (YC fun _=>none) 60 (cA fC) (jZ 0 [.v (.fl (q2 p)),.v (.fl [.q n])]) (No p n)=some ([],.nrm,No p n):=by kernel_rfl
theorem Id (p:NP) (n:Nat):bT prog (qG prog) f42.ntmps (YC fun _=>none) 60 (cA (cB fC)) (No p n) (Nn p n (0,1,1))=some ([],.nrm,Nn p n (0,1,1)):=by kernel_rfl
theorem Ic (p:NP) (n:Nat) (s:NJ):bT prog (qG prog) f42.ntmps (YC fun _=>none) 60 (cA (cB (cB fC))) (Nn p n s) (Nm p n s)=some ([],.nrm,Nm p n s):=by kernel_rfl
theorem Ib (p:NP) (n:Nat) (s:NJ) (v:Value):bT prog (qG prog) f42.ntmps (YC (assoc [(14,v)])) 60 (cA (cA (cB (cB (cB fC))))) (Nm p n s) (xU p n s v)=some ([bD .sub .i64 (Int.ofNat (bW n)) 1=some v],.nrm,xU p n s v):=by kernel_rfl
theorem Al (p:NP) (s:NJ) (n j:Nat) (v:Value):bT prog (qG prog) f42.ntmps (YC (assoc [(16,.bool true),(25,.bool true),(18,v)])) 60 vL (xU p n s (iI j)) (xU p n (kB (kB s s) (p.1,p.2,1)) v)=some ([bD .geq .i64 (Int.ofNat j) 0=some (.bool true),s.1<RM,s.2.1<RM,s.2.2<RM,s.1<RM,s.2.1<RM,s.2.2<RM,j<256,bD .eql .i64 (Int.ofNat (cI (wv n) j)) 1=some (.bool true),(kB s s).1<RM,(kB s s).2.1<RM,(kB s s).2.2<RM,p.1<RM,p.2<RM,1<RM,bD .sub .i64 (Int.ofNat j) 1=some v],.nrm,xU p n (kB (kB s s) (p.1,p.2,1)) v):=by kernel_rfl
theorem Am (p:NP) (s:NJ) (n j:Nat) (v:Value):bT prog (qG prog) f42.ntmps (YC (assoc [(16,.bool true),(25,.bool false),(18,v)])) 60 vL (xU p n s (iI j)) (xU p n (kB s s) v)=some ([bD .geq .i64 (Int.ofNat j) 0=some (.bool true),s.1<RM,s.2.1<RM,s.2.2<RM,s.1<RM,s.2.1<RM,s.2.2<RM,j<256,bD .eql .i64 (Int.ofNat (cI (wv n) j)) 1=some (.bool false),bD .sub .i64 (Int.ofNat j) 1=some v],.nrm,xU p n (kB s s) v):=by kernel_rfl
theorem An (p:NP) (s:NJ) (n:Nat):bT prog (qG prog) f42.ntmps (YC fun _=>none) 60 vL (xU p n s (.int .i64 (-1))) (xU p n s (.int .i64 (-1)))=some ([],.ex 0,xU p n s (.int .i64 (-1))):=by kernel_rfl
theorem TY (p:NP) (s:NJ) (n:Nat) (v:Value):bT prog (qG prog) f42.ntmps (YC fun _=>none) 60 (cB (cB (cB (cB fC)))) (xU p n s v) [.slot 4 (.pt 4 0),.row 4 true [.q (tld s).1,.q (tld s).2]]=some ([s.1<RM,s.2.1<RM,s.2.2<RM,s.2.2≠0],.rt,[.slot 4 (.pt 4 0),.row 4 true [.q (tld s).1,.q (tld s).2]]):=by kernel_rfl
theorem IW (p:NP) (n:Nat) (h:OnJ p.1 p.2) (args:List Value) (w0:World) (ha:cE w0 [.v (.fl (q2 p)),.v (.fl [.q n])] args):bE prog 42 (.one (.fl [.q (iT p n).1,.q (iT p n).2])) args w0:=by
 have hG:dH prog (qG prog) w0.heap.size w0:=(aW _).w _ _;have hT:∀n d:Nat,TabOkW prog EI w0.heap.size w0:=fun _ _=>VE.w _ _
 have hL:=wC n;have hr:=TX (mL h) n;have e:tld (YB p n)=iT p n:=hr.tld.trans (wB h n).symm;rw[←e];refine fQ func42 (c:=fC) rfl ha (Nat.le_of_ble_eq_true (by kernel_rfl)) fun b w' hA => ?_
 rw[TZ];refine wp_seq (aF aT hT hG (Ie p n) trivial hA fun b w' hA => ?_);refine wp_seq (aF aT hT hG (Id p n) trivial hA fun b w' hA => ?_);refine wp_seq (aF aT hT hG (Ic p n _) trivial hA fun b w' hA => ?_);refine wp_seq (wp_seq (aF aT hT hG (Ib p n _ (KF (bW n) 0)) ⟨Kh hL,trivial⟩ hA fun b w' hA => ?_));refine wp_block ?_;refine PR aT (fun k=>xU p n (qA (p.1,p.2,1) n (bW n) k) (KF (bW n) k)) (bW n) (fun k hk => ?_) (.ex 0) (by simp) (xU p n (YB p n) (.int .i64 (-1))) ?_ hA fun b w' hA => ?_
 ·have e0:KF (bW n) k=iI (bW n-1-k):=if_pos hk;have l:=Ao (p.1,p.2,1) n (bW n) k;show Ok _ _ _ _ _ (xU p n (qA (p.1,p.2,1) n (bW n) k) (KF (bW n) k)) _ (xU p n (qA (p.1,p.2,1) n (bW n) (k+1)) (KF (bW n) (k+1)));rw[e0]
  by_cases hb:cI (wv n) (bW n-1-k)=1
  ·rw[show qA (p.1,p.2,1) n (bW n) (k+1)=kB (kB (qA (p.1,p.2,1) n (bW n) k) (qA (p.1,p.2,1) n (bW n) k)) (p.1,p.2,1)from if_pos hb];exact⟨_,_,_,_,hG,hT,Al p (qA (p.1,p.2,1) n (bW n) k) n (bW n-1-k) (KF (bW n) (k+1)),YP _,l.1,l.2.1,l.2.2,l.1,l.2.1,l.2.2,by omega,by rw[YQ,decide_eq_true hb],aE _ _,aE _ _,aE _ _,h.1.1,h.1.2,cT,YO hL hk,trivial⟩
  ·rw[show qA (p.1,p.2,1) n (bW n) (k+1)=kB (qA (p.1,p.2,1) n (bW n) k) (qA (p.1,p.2,1) n (bW n) k)from if_neg hb];exact⟨_,_,_,_,hG,hT,Am p (qA (p.1,p.2,1) n (bW n) k) n (bW n-1-k) (KF (bW n) (k+1)),YP _,l.1,l.2.1,l.2.2,l.1,l.2.1,l.2.2,by omega,by rw[YQ,decide_eq_false hb],YO hL hk,trivial⟩
 ·show Ok _ _ _ _ _ (xU p n _ (KF (bW n) (bW n))) _ _;rw[show KF (bW n) (bW n)=.int .i64 (-1)from if_neg (Nat.lt_irrefl _)];exact⟨_,_,_,_,hG,hT,An p _ n,trivial⟩
 ·show (cB (cB (cB (cB fC)))).wp _ _ _ _;exact aF aT hT hG (TY p (YB p n) n _) ⟨hr.x,hr.y,hr.z,hr.nz,trivial⟩ hA fun b w' hA=>gP (l:=[.fl [.q (tld (YB p n)).1,.q (tld (YB p n)).2]]) (r:=.one (.fl [.q (tld (YB p n)).1,.q (tld (YB p n)).2])) (by kernel_rfl) (by kernel_rfl) hA
def Kn:gH:=g2 IX lX fun p n=>([OnJ p.1 p.2],.one (.fl [.q (iT p n).1,.q (iT p n).2]))
theorem Qa:∀cs pre r,Kn cs=some (pre,r)→aP pre→∀(args:List Value) (w:World),cE w cs args→bE prog 42 r args w :=
 zP (op:=fun p n=>([OnJ p.1 p.2],.one (.fl [.q (iT p n).1,.q (iT p n).2]))) fX bZ fun p n h args w ha=>IW p n h.1 args w ha
def QI:gH
 | [.v (.im (.string s))]=>some ([s.size≤maxLen],.one (.fl [.q (dK s.data.toList).1]))
 | _=>none
def Dr:gH
 | [.v (.im (.string s))]=>some ([s.size≤maxLen],.many [.fl [.q (dK s.data.toList).1],.im (.int .i64 ((dK s.data.toList).2:Nat))])
 | _=>none
theorem JN (l:List UInt8):(dK l).1<aU:=by
 unfold dK;split
 ·exact by decide
 ·split
  ·exact by decide
  ·split
   ·exact by decide
   ·rename_i h;exact Nat.lt_of_not_le h
theorem Ll:∀cs pre r,Dr cs=some (pre,r)→aP pre→∀(args:List Value) (w:World),cE w cs args→bE prog 105 r args w:=by
 intro cs pre r hg hp args w ha;unfold Dr at hg;split at hg
 ·rename_i s;cases hg
  match args,ha with
  | [v],ha =>
   have h1:v=.string s:=ha.1;subst h1;refine (R1.refParse_calls s hp.1 w).mono ?_
   rintro e w' ⟨s0,s1,s2,s3,c,rfl,hs,hv,hb⟩
   have h1:=congrArg Prod.fst hv;have h2:=congrArg Prod.snd hv;simp only at h1 h2;obtain⟨rfl,rfl,rfl,rfl⟩:=eW hs (JN _) h1;subst h2;exact⟨rfl,hb⟩
  | [],ha=>exact ha.elim
  | _::_::_,ha=>exact ha.2.elim
 ·cases hg
def ZL:Tab:=SS.add 105 Dr
theorem Cn:TabOk prog ZL:=FN.ad func105 Ll
theorem VJ (s:ByteArray):cK prog (qG prog) (fun n=>⟨fun _=>ZL,fun _=>true,fun _=>none⟩) f83 60 [.v (.im (.string s))]=some ([s.size≤maxLen],.one (.fl [.q (dK s.data.toList).1])):=by kernel_rfl
theorem Lo:∀cs pre r,QI cs=some (pre,r)→aP pre→∀(args:List Value) (w:World),cE w cs args→bE prog 83 r args w:=by
 intro cs pre r hg hp args w ha;unfold QI at hg;split at hg
 ·rename_i s;cases hg;exact aH aT (fun _ _=>Cn) (aW _) func83 (VJ s) hp ha
 ·cases hg
def ZH:Tab:=SS.add 83 QI
theorem Ck:TabOk prog ZH:=FN.ad func83 Lo
def Rf:ByteArray:=⟨[50,55,51,54,48,51,48,51,53,56,57,55,57,57,48,57,52,48,50,55,56,48,56,48,48,55,49,56,49,53,55,49,53,57,51,56,54,48,55,54,56,49,51,57,55,50,49,53,56,53,54,55,50,53,57,50,48,48,50,49,53,54,54,48,57,52,56,52,52,55,51,55,51,48,52,49].toArray⟩
theorem NV  : cK prog (qG prog) (fun n=>⟨fun _=>ZH,fun _=>true,fun _=>none⟩) f43 60 []=some ([Rf.size≤maxLen],.one (.fl [.q lJ])):=by kernel_rfl
theorem Lx:Rf.size≤maxLen:=Nat.le_of_ble_eq_true (by kernel_rfl)
theorem BP (w:World):bE prog 43 (.one (.fl [.q lJ])) [] w:=aH aT (fun _ _=>Ck) (aW _) func43 NV ⟨Lx,trivial⟩ (args:=[]) trivial
def IF (b:Bool):Tab:=((SS.add 41 (Ko b)).add 42 Kn).add 43 (g0 (.one (.fl [.q lJ])))
theorem CL (b:Bool):TabOk prog (IF b):=((FN.ad func41 (Lj b)).ad func42 Qa).ad func43 (pO BP)
theorem Bl (p:NP):cK prog (qG prog) (fun n=>⟨fun _=>IF false,fun _=>true,fun _=>none⟩) f16 60 [.v (.fl [.q p.1,.q p.2])]=some ([p.1<aU,p.2<aU,jX p.1 p.2=false],.one (.im (.int .i64 41))):=by kernel_rfl
theorem Bi (p:NP):cK prog (qG prog) (fun n=>⟨fun _=>IF true,fun _=>true,fun _=>none⟩) f16 60 [.v (.fl [.q p.1,.q p.2])]=some ([p.1<aU,p.2<aU,jX p.1 p.2=true,OnJ p.1 p.2,aD [At.q (iT p lJ).1,.q (iT p lJ).2]=aD [At.q 0,.q 1]],.one (.im (.int .i64 0))):=by kernel_rfl
theorem Bj (p:NP):cK prog (qG prog) (fun n=>⟨fun _=>IF true,fun _=>false,fun _=>none⟩) f16 60 [.v (.fl [.q p.1,.q p.2])]=some ([p.1<aU,p.2<aU,jX p.1 p.2=true,OnJ p.1 p.2,aD [At.q (iT p lJ).1,.q (iT p lJ).2]≠aD [At.q 0,.q 1]],.one (.im (.int .i64 111))):=by kernel_rfl
theorem BV (p:NP) (hp:w2 p) (args:List Value) (w:World) (ha:cE w [.v (.fl (q2 p))] args):bE prog 16 (.one (.im (.int .i64 (cQ p)))) args w:=by
 cases h:jX p.1 p.2
 ·rw[AF fun q=>by rw[FK q]at h; cases h];exact aH aT (fun _ _=>CL _) (aW _) func16 (Bl p) ⟨hp.1,hp.2,h,trivial⟩ ha
 ·have h1:=qQ.1 h;rw[nZ h1];have e:=wB h1 lJ;rw[ME]at e
  by_cases k:iG.grp.ns lJ (jp h1)=iG.grp.zero
  ·rw[if_pos k];exact aH aT (fun _ _=>CL _) (aW _) func16 (Bi p) ⟨hp.1,hp.2,h,h1,by rw[e,k,sU],trivial⟩ ha
  ·rw[if_neg k];exact aH aT (fun _ _=>CL _) (aW _) func16 (Bj p) ⟨hp.1,hp.2,h,h1,fun q=>k (by rw[e]at q; exact XC.1 (q.trans (by rw[sU]))),trivial⟩ ha
end Go.Proofs.YtjeplinbleofnaaGreat.Ex
namespace Go.Proofs.YtjeplinbleofnaaGreat
open Go.Proofs.Tryz
open Go.RowKit
def sK:Nat:=40770029410420498293352137776570907027550720424234931066070132305055
theorem VF:aX 11211439779908376895 1735440370612733063 1376415503089949544 12990080814∧aA 11211439779908376895 1735440370612733063 1376415503089949544 12990080814=2*sK+1∧aX 14829091926808964256 867720185306366531 688207751544974772 6495040407∧aA 14829091926808964256 867720185306366531 688207751544974772 6495040407=sK+1:=⟨by unfold aX; decide,by kernel_rfl,by unfold aX; decide,by kernel_rfl⟩
theorem QN:FR.M=2^28*(2*sK+1)+1:=by rw[Fz]; rfl
theorem KW (e:Nat) (he:e=10944121435919637611123202872628637544274182200208017171849102093287904247808):5^e%FR.M=FR.M-1 :=
 OP (by subst he; decide) (by subst he; kernel_rfl)
theorem PG (T:Nat) (hT:T=28):(2*sK+1)*2^(T-1)=10944121435919637611123202872628637544274182200208017171849102093287904247808:=by subst hT; rfl
theorem QR (T:Nat) (hT:T=28):(5^(2*sK+1)%FR.M)^2^(T-1)%FR.M=FR.M-1:=by
 rw[←Nat.pow_mod,←Nat.pow_mul];exact KW _ (PG T hT)
theorem TG {M A T R S C:Nat} (h:pD M A T R S C):pD M A T (R%M) (S%M) (C%M):=by
 obtain⟨h1,h2,h3,h4⟩:=h;refine⟨h1,?_,?_,?_⟩
 ·rw[←Nat.mul_mod,h2,Nat.mul_mod_mod]
 ·rw[←Nat.pow_mod]; exact h3
 ·rw[←Nat.pow_mod]; exact h4
theorem IS {M A H T C:Nat} (hM:M=2^T*(2*H+1)+1) (hT:1≤T) (hC:C^2^(T-1)%M=M-1) (hs:A^(M/2)%M=1) :
  pD M A T (A^(H+1)%M) (A^(2*H+1)%M) C:=by
 have h:=tQ hM hT hC hs;have e1:A*A^H=A^(H+1):=by rw[Nat.pow_succ,Nat.mul_comm]
 have e2:A*A^H*A^H=A^(2*H+1):=by rw[e1,←Nat.pow_add]; congr 1; omega
 rw[e2,e1]at h;obtain⟨h1,h2,h3,h4⟩:=h;refine⟨h1,?_,h3,?_⟩
 ·rw[←Nat.mul_mod,h2,Nat.mul_mod_mod]
 ·rw[←Nat.pow_mod]; exact h4
theorem MP {M g:Nat} (hr:Root M g) (h2:2<M) {A T o R S C:Nat} (h:pD M A T R S C) (ho:0<o) (hoT:o<T) (h1:S^2^o%M=1) (hmin:S^2^(o-1)%M≠1) :
  pD M A o (R*(C^2^(T-o-1)%M)%M) (S*(C^2^(T-o-1)%M*(C^2^(T-o-1)%M)%M)%M) (C^2^(T-o-1)%M*(C^2^(T-o-1)%M)%M):=by
 have h':=TG (xH hr h2 h ho hoT h1 hmin);rw[←Nat.mul_mod,Nat.mul_mod_mod,Nat.mul_mod_mod];exact h'
set_option maxHeartbeats 4000000 in
theorem tH (a0 a1 a2 a3:Nat) (ha:aX a0 a1 a2 a3) (hs:aA a0 a1 a2 a3^(FR.M/2)%FR.M=1∨aA a0 a1 a2 a3=0) (w:World) :
  Calls prog 64 #[.agg #[.int .u64 a0,.int .u64 a1,.int .u64 a2,.int .u64 a3]] w (fun e w'=>∃s0 s1 s2 s3:Nat,e=.returned (.agg #[.int .u64 s0,.int .u64 s1,.int .u64 s2,.int .u64 s3])∧aX s0 s1 s2 s3∧aA s0 s1 s2 s3*aA s0 s1 s2 s3%FR.M=aA a0 a1 a2 a3%FR.M∧aA s0 s1 s2 s3<FR.M∧Below w.heap.size w w'):=by
 have hG:=iZ;have hf:FieldIs 2 FR:=Or.inr ⟨rfl,rfl⟩;obtain⟨gg,hroot⟩:=hf.root;have HRt:=Lib.hid hroot;have HSq:=Lib.hid hs;have HOd:=Lib.hid VF;have h2:=ZP.gt;clear hroot hs
 go_enter func64,ntmps64
 go_upto_region 3 with fail
 have HM:=Lib.hid (((((Mem.nil w).new (w.heap.size) a0 a1 a2 a3 24 (by simp)).new (w.heap.size+1) 0 0 0 0 24 (by simp)).new (w.heap.size+1+1) 11211439779908376895 1735440370612733063 1376415503089949544 12990080814 49 (by simp)).new (w.heap.size+1+1+1) 14829091926808964256 867720185306366531 688207751544974772 6495040407 49 (by simp))
 go_cut [5] (fun s5 wx=>∃gc c0 c1 c2 c3:Nat,s5=.pointer (some ⟨gc,0,none⟩)∧w.heap.size+1+1+1<gc∧aX c0 c1 c2 c3∧Hid (aA c0 c1 c2 c3=5^(2*sK+1)%FR.M)∧Hid (Mem w wx [(gc,c0,c1,c2,c3),(w.heap.size+1+1+1,14829091926808964256,867720185306366531,688207751544974772,6495040407),(w.heap.size+1+1,11211439779908376895,1735440370612733063,1376415503089949544,12990080814),(w.heap.size+1,0,0,0,0),(w.heap.size,a0,a1,a2,a3)]))
 case first =>
  refine bK (fun wx=>Mem w wx [(w.heap.size+1+1+1,14829091926808964256,867720185306366531,688207751544974772,6495040407),(w.heap.size+1+1,11211439779908376895,1735440370612733063,1376415503089949544,12990080814),(w.heap.size+1,0,0,0,0),(w.heap.size,a0,a1,a2,a3)]) 4 (by kernel_rfl) ?_;have HM':=Lib.hid (HM.out.drewN 1);clear HM;have HM:=HM';clear HM';have HS:=HM.out.sub (rs':=[(w.heap.size+1+1+1,14829091926808964256,867720185306366531,688207751544974772,6495040407),(w.heap.size+1+1,11211439779908376895,1735440370612733063,1376415503089949544,12990080814),(w.heap.size+1,0,0,0,0),(w.heap.size,a0,a1,a2,a3)]) (by simp);refine aB (i:=1) (v:=.agg #[.int .u64 11211439779908376895,.int .u64 1735440370612733063,.int .u64 1376415503089949544,.int .u64 12990080814]) rfl (by kernel_rfl) (by kernel_rfl) (by kernel_rfl) (by kernel_rfl) (fun _ _ _ h=>h) HS (Or.inl ⟨by kernel_rfl,fun wx hx => ?_⟩) ?_
  ·have kr:=hx.row (b:=w.heap.size+1+1) (c0:=11211439779908376895) (c1:=1735440370612733063) (c2:=1376415503089949544) (c3:=12990080814) (by simp);have x0:=kr.c0; have x1:=kr.c1; have x2:=kr.c2; have x3:=kr.c3;clear kr HS hx;go_simp
  simp only[Act.put,List.setIfInBounds_toArray,List.set_cons_zero,List.set_cons_succ];clear HS;refine bU (i:=0) (j:=3) (by kernel_rfl) rfl rfl (fun K hK => ?_) (fun K hK => ?_)
  ·go_simp;refine (oM 5 _).mono ?_
   rintro e v1 ⟨rfl,hbl⟩
   have HM':=Lib.hid (HM.out.on hbl);clear HM hbl;have HM:=HM';clear HM';have HS:=HM.out.sub (rs':=[(w.heap.size+1+1+1,14829091926808964256,867720185306366531,688207751544974772,6495040407),(w.heap.size+1+1,11211439779908376895,1735440370612733063,1376415503089949544,12990080814),(w.heap.size+1,0,0,0,0),(w.heap.size,a0,a1,a2,a3)]) (by simp);refine hK.out _ _ (Or.inr HS) (fun _ => ?_);clear hK K;clear HS;refine bU (i:=2) (j:=3) (by kernel_rfl) rfl rfl (fun K hK => ?_) (fun K hK => ?_)
   ·go_simp;refine (dU 2 FR hf 5 0 0 0 11211439779908376895 1735440370612733063 1376415503089949544 12990080814 (show aX 5 0 0 0 by unfold aX; decide) HOd.out.1 _).mono ?_
    rintro e v2 ⟨c0,c1,c2,c3,rfl,hc,hv,hbl⟩
    have HVc:=Lib.hid (show aA c0 c1 c2 c3=5^(2*sK+1)%FR.M by rw[hv,HOd.out.2.1,show aA 5 0 0 0=5 from rfl]);clear hv;have HM':=Lib.hid (HM.out.on hbl);clear HM hbl;have HM:=HM';clear HM';have HS:=HM.out.sub (rs':=[(w.heap.size+1+1+1,14829091926808964256,867720185306366531,688207751544974772,6495040407),(w.heap.size+1+1,11211439779908376895,1735440370612733063,1376415503089949544,12990080814),(w.heap.size+1,0,0,0,0),(w.heap.size,a0,a1,a2,a3)]) (by simp);refine hK.out _ _ (Or.inr HS) (fun _ => ?_);clear hK K;clear HS;refine aC (i:=3) (by kernel_rfl) rfl (fun K hK => ?_);go_simp;have HM9:=HM;have hgb:w.heap.size≤(v2.heap.size):=by first|exact HM.out.1.size|(have:=HM.out.1.size; simp at this; omega)|omega
    have hgl0:w.heap.size+1+1+1<(v2.heap.size):=by first|exact HM.out.lt (b:=w.heap.size+1+1+1) (c0:=14829091926808964256) (c1:=867720185306366531) (c2:=688207751544974772) (c3:=6495040407) (by simp)|(have:=HM.out.lt (b:=w.heap.size+1+1+1) (c0:=14829091926808964256) (c1:=867720185306366531) (c2:=688207751544974772) (c3:=6495040407) (by simp); simp at this; omega)|omega
    have hgl1:w.heap.size+1+1<(v2.heap.size):=by first|exact HM.out.lt (b:=w.heap.size+1+1) (c0:=11211439779908376895) (c1:=1735440370612733063) (c2:=1376415503089949544) (c3:=12990080814) (by simp)|(have:=HM.out.lt (b:=w.heap.size+1+1) (c0:=11211439779908376895) (c1:=1735440370612733063) (c2:=1376415503089949544) (c3:=12990080814) (by simp); simp at this; omega)|omega
    have hgl2:w.heap.size+1<(v2.heap.size):=by first|exact HM.out.lt (b:=w.heap.size+1) (c0:=0) (c1:=0) (c2:=0) (c3:=0) (by simp)|(have:=HM.out.lt (b:=w.heap.size+1) (c0:=0) (c1:=0) (c2:=0) (c3:=0) (by simp); simp at this; omega)|omega
    have hgl3:w.heap.size<(v2.heap.size):=by first|exact HM.out.lt (b:=w.heap.size) (c0:=a0) (c1:=a1) (c2:=a2) (c3:=a3) (by simp)|(have:=HM.out.lt (b:=w.heap.size) (c0:=a0) (c1:=a1) (c2:=a2) (c3:=a3) (by simp); simp at this; omega)|omega
    have HM':=Lib.hid (HM.out.new (v2.heap.size) 0 0 0 0 24 (by first|rfl|(simp; done)));clear HM;have HM:=HM';clear HM';have HS:=HM.out.sub (rs':=[(w.heap.size+1+1+1,14829091926808964256,867720185306366531,688207751544974772,6495040407),(w.heap.size+1+1,11211439779908376895,1735440370612733063,1376415503089949544,12990080814),(w.heap.size+1,0,0,0,0),(w.heap.size,a0,a1,a2,a3)]) (by simp);refine hK.out _ _ (Or.inr HS) (fun _ => ?_);clear hK K HS;have kr:=HM.out.row (b:=(v2.heap.size)) (c0:=0) (c1:=0) (c2:=0) (c3:=0) (by simp);have yl:=HM.out.lt (b:=(v2.heap.size)) (c0:=0) (c1:=0) (c2:=0) (c3:=0) (by simp);have y0:=kr.c0; have y1:=kr.c1; have y2:=kr.c2; have y3:=kr.c3; have yf:=kr.fr;clear kr;refine aC (i:=4) (by kernel_rfl) rfl (fun K hK => ?_);go_simp;have HM':=Lib.hid (HM9.out.new (v2.heap.size) c0 c1 c2 c3 24 (by first|rfl|(simp; done)));clear HM;have HM:=HM';clear HM';refine hK.out _ _ (Or.inl rfl) (fun _ => ?_);clear hK K;refine aQ (by kernel_rfl) ?_;go_wp2_with fail
    go_meet
    exact⟨(v2.heap.size),c0,c1,c2,c3,rfl,by omega,hc,HVc,HM⟩
   ·go_simp;have HM9:=HM;have hgb:w.heap.size≤(v1.heap.size):=by first|exact HM.out.1.size|(have:=HM.out.1.size; simp at this; omega)|omega
    have hgl0:w.heap.size+1+1+1<(v1.heap.size):=by first|exact HM.out.lt (b:=w.heap.size+1+1+1) (c0:=14829091926808964256) (c1:=867720185306366531) (c2:=688207751544974772) (c3:=6495040407) (by simp)|(have:=HM.out.lt (b:=w.heap.size+1+1+1) (c0:=14829091926808964256) (c1:=867720185306366531) (c2:=688207751544974772) (c3:=6495040407) (by simp); simp at this; omega)|omega
    have hgl1:w.heap.size+1+1<(v1.heap.size):=by first|exact HM.out.lt (b:=w.heap.size+1+1) (c0:=11211439779908376895) (c1:=1735440370612733063) (c2:=1376415503089949544) (c3:=12990080814) (by simp)|(have:=HM.out.lt (b:=w.heap.size+1+1) (c0:=11211439779908376895) (c1:=1735440370612733063) (c2:=1376415503089949544) (c3:=12990080814) (by simp); simp at this; omega)|omega
    have hgl2:w.heap.size+1<(v1.heap.size):=by first|exact HM.out.lt (b:=w.heap.size+1) (c0:=0) (c1:=0) (c2:=0) (c3:=0) (by simp)|(have:=HM.out.lt (b:=w.heap.size+1) (c0:=0) (c1:=0) (c2:=0) (c3:=0) (by simp); simp at this; omega)|omega
    have hgl3:w.heap.size<(v1.heap.size):=by first|exact HM.out.lt (b:=w.heap.size) (c0:=a0) (c1:=a1) (c2:=a2) (c3:=a3) (by simp)|(have:=HM.out.lt (b:=w.heap.size) (c0:=a0) (c1:=a1) (c2:=a2) (c3:=a3) (by simp); simp at this; omega)|omega
    have HM':=Lib.hid (HM.out.new (v1.heap.size) 0 0 0 0 24 (by first|rfl|(simp; done)));clear HM;have HM:=HM';clear HM';have HS:=HM.out.sub (rs':=[(w.heap.size+1+1+1,14829091926808964256,867720185306366531,688207751544974772,6495040407),(w.heap.size+1+1,11211439779908376895,1735440370612733063,1376415503089949544,12990080814),(w.heap.size+1,0,0,0,0),(w.heap.size,a0,a1,a2,a3)]) (by simp);refine hK.out _ _ (Or.inr HS) (fun _ => ?_);clear hK K HS;refine aC (i:=2) (by kernel_rfl) rfl (fun K hK => ?_);go_simp;refine (dU 2 FR hf 5 0 0 0 11211439779908376895 1735440370612733063 1376415503089949544 12990080814 (show aX 5 0 0 0 by unfold aX; decide) HOd.out.1 _).mono ?_
    rintro e v2 ⟨c0,c1,c2,c3,rfl,hc,hv,hbl⟩
    have HVc:=Lib.hid (show aA c0 c1 c2 c3=5^(2*sK+1)%FR.M by rw[hv,HOd.out.2.1,show aA 5 0 0 0=5 from rfl]);clear hv;have HM':=Lib.hid (HM.out.on hbl);clear HM hbl;have HM:=HM';clear HM';have HS:=HM.out.sub (rs':=[(w.heap.size+1+1+1,14829091926808964256,867720185306366531,688207751544974772,6495040407),(w.heap.size+1+1,11211439779908376895,1735440370612733063,1376415503089949544,12990080814),(w.heap.size+1,0,0,0,0),(w.heap.size,a0,a1,a2,a3)]) (by simp);refine hK.out _ _ (Or.inr HS) (fun _ => ?_);clear hK K;clear HS;have kr:=HM.out.row (b:=(v1.heap.size)) (c0:=0) (c1:=0) (c2:=0) (c3:=0) (by simp);have yl:=HM.out.lt (b:=(v1.heap.size)) (c0:=0) (c1:=0) (c2:=0) (c3:=0) (by simp);have y0:=kr.c0; have y1:=kr.c1; have y2:=kr.c2; have y3:=kr.c3; have yf:=kr.fr;clear kr;refine aC (i:=4) (by kernel_rfl) rfl (fun K hK => ?_);go_simp;have HM':=Lib.hid ((HM.out.sub (rs':=[((v1.heap.size),0,0,0,0),(w.heap.size+1+1+1,14829091926808964256,867720185306366531,688207751544974772,6495040407),(w.heap.size+1+1,11211439779908376895,1735440370612733063,1376415503089949544,12990080814),(w.heap.size+1,0,0,0,0),(w.heap.size,a0,a1,a2,a3)]) (by simp)).put c0 c1 c2 c3 hgb (by intro r hr; simp at hr; rcases hr with rfl|rfl|rfl|rfl<;>simp<;>omega));clear HM;have HM:=HM';clear HM';refine hK.out _ _ (Or.inl rfl) (fun _ => ?_);clear hK K;refine aQ (by kernel_rfl) ?_;go_wp2_with fail
    go_meet
    exact⟨(v1.heap.size),c0,c1,c2,c3,rfl,by omega,hc,HVc,HM⟩
  ·go_simp;have HM9:=HM;have hgb:w.heap.size≤(w.heap.size+1+1+1+1):=by first|exact HM.out.1.size|(have:=HM.out.1.size; simp at this; omega)|omega
   have hgl0:w.heap.size+1+1+1<(w.heap.size+1+1+1+1):=by first|exact HM.out.lt (b:=w.heap.size+1+1+1) (c0:=14829091926808964256) (c1:=867720185306366531) (c2:=688207751544974772) (c3:=6495040407) (by simp)|(have:=HM.out.lt (b:=w.heap.size+1+1+1) (c0:=14829091926808964256) (c1:=867720185306366531) (c2:=688207751544974772) (c3:=6495040407) (by simp); simp at this; omega)|omega
   have hgl1:w.heap.size+1+1<(w.heap.size+1+1+1+1):=by first|exact HM.out.lt (b:=w.heap.size+1+1) (c0:=11211439779908376895) (c1:=1735440370612733063) (c2:=1376415503089949544) (c3:=12990080814) (by simp)|(have:=HM.out.lt (b:=w.heap.size+1+1) (c0:=11211439779908376895) (c1:=1735440370612733063) (c2:=1376415503089949544) (c3:=12990080814) (by simp); simp at this; omega)|omega
   have hgl2:w.heap.size+1<(w.heap.size+1+1+1+1):=by first|exact HM.out.lt (b:=w.heap.size+1) (c0:=0) (c1:=0) (c2:=0) (c3:=0) (by simp)|(have:=HM.out.lt (b:=w.heap.size+1) (c0:=0) (c1:=0) (c2:=0) (c3:=0) (by simp); simp at this; omega)|omega
   have hgl3:w.heap.size<(w.heap.size+1+1+1+1):=by first|exact HM.out.lt (b:=w.heap.size) (c0:=a0) (c1:=a1) (c2:=a2) (c3:=a3) (by simp)|(have:=HM.out.lt (b:=w.heap.size) (c0:=a0) (c1:=a1) (c2:=a2) (c3:=a3) (by simp); simp at this; omega)|omega
   have HM':=Lib.hid (HM.out.new (w.heap.size+1+1+1+1) 0 0 0 0 24 (by first|rfl|(simp; done)));clear HM;have HM:=HM';clear HM';have HS:=HM.out.sub (rs':=[(w.heap.size+1+1+1,14829091926808964256,867720185306366531,688207751544974772,6495040407),(w.heap.size+1+1,11211439779908376895,1735440370612733063,1376415503089949544,12990080814),(w.heap.size+1,0,0,0,0),(w.heap.size,a0,a1,a2,a3)]) (by simp);refine hK.out _ _ (Or.inr HS) (fun _ => ?_);clear hK K HS;refine aC (i:=0) (by kernel_rfl) rfl (fun K hK => ?_);go_simp;refine (oM 5 _).mono ?_
   rintro e v1 ⟨rfl,hbl⟩
   have HM':=Lib.hid (HM.out.on hbl);clear HM hbl;have HM:=HM';clear HM';have HS:=HM.out.sub (rs':=[(w.heap.size+1+1+1,14829091926808964256,867720185306366531,688207751544974772,6495040407),(w.heap.size+1+1,11211439779908376895,1735440370612733063,1376415503089949544,12990080814),(w.heap.size+1,0,0,0,0),(w.heap.size,a0,a1,a2,a3)]) (by simp);refine hK.out _ _ (Or.inr HS) (fun _ => ?_);clear hK K;clear HS;refine aC (i:=2) (by kernel_rfl) rfl (fun K hK => ?_);go_simp;refine (dU 2 FR hf 5 0 0 0 11211439779908376895 1735440370612733063 1376415503089949544 12990080814 (show aX 5 0 0 0 by unfold aX; decide) HOd.out.1 _).mono ?_
   rintro e v2 ⟨c0,c1,c2,c3,rfl,hc,hv,hbl⟩
   have HVc:=Lib.hid (show aA c0 c1 c2 c3=5^(2*sK+1)%FR.M by rw[hv,HOd.out.2.1,show aA 5 0 0 0=5 from rfl]);clear hv;have HM':=Lib.hid (HM.out.on hbl);clear HM hbl;have HM:=HM';clear HM';have HS:=HM.out.sub (rs':=[(w.heap.size+1+1+1,14829091926808964256,867720185306366531,688207751544974772,6495040407),(w.heap.size+1+1,11211439779908376895,1735440370612733063,1376415503089949544,12990080814),(w.heap.size+1,0,0,0,0),(w.heap.size,a0,a1,a2,a3)]) (by simp);refine hK.out _ _ (Or.inr HS) (fun _ => ?_);clear hK K;clear HS;have kr:=HM.out.row (b:=(w.heap.size+1+1+1+1)) (c0:=0) (c1:=0) (c2:=0) (c3:=0) (by simp);have yl:=HM.out.lt (b:=(w.heap.size+1+1+1+1)) (c0:=0) (c1:=0) (c2:=0) (c3:=0) (by simp);have y0:=kr.c0; have y1:=kr.c1; have y2:=kr.c2; have y3:=kr.c3; have yf:=kr.fr;clear kr;refine aC (i:=4) (by kernel_rfl) rfl (fun K hK => ?_);go_simp;have HM':=Lib.hid ((HM.out.sub (rs':=[((w.heap.size+1+1+1+1),0,0,0,0),(w.heap.size+1+1+1,14829091926808964256,867720185306366531,688207751544974772,6495040407),(w.heap.size+1+1,11211439779908376895,1735440370612733063,1376415503089949544,12990080814),(w.heap.size+1,0,0,0,0),(w.heap.size,a0,a1,a2,a3)]) (by simp)).put c0 c1 c2 c3 hgb (by intro r hr; simp at hr; rcases hr with rfl|rfl|rfl|rfl<;>simp<;>omega));clear HM;have HM:=HM';clear HM';refine hK.out _ _ (Or.inl rfl) (fun _ => ?_);clear hK K;refine aQ (by kernel_rfl) ?_;go_wp2_with fail
   go_meet
   exact⟨(w.heap.size+1+1+1+1),c0,c1,c2,c3,rfl,by omega,hc,HVc,HM⟩
 case rest =>
  obtain⟨gc,c0,c1,c2,c3,rfl,hgc,hc,HVc,HM⟩:=hcut;have kr:=HM.out.row (b:=w.heap.size) (c0:=a0) (c1:=a1) (c2:=a2) (c3:=a3) (by simp);have p0:=kr.c0; have p1:=kr.c1; have p2:=kr.c2; have p3:=kr.c3;clear kr;have pl:=HM.out.lt (b:=w.heap.size) (c0:=a0) (c1:=a1) (c2:=a2) (c3:=a3) (by simp);have kr:=HM.out.row (b:=w.heap.size+1+1+1) (c0:=14829091926808964256) (c1:=867720185306366531) (c2:=688207751544974772) (c3:=6495040407) (by simp);have q0:=kr.c0; have q1:=kr.c1; have q2:=kr.c2; have q3:=kr.c3;clear kr;have ql:=HM.out.lt (b:=w.heap.size+1+1+1) (c0:=14829091926808964256) (c1:=867720185306366531) (c2:=688207751544974772) (c3:=6495040407) (by simp);go_wp2_with fail;refine (dU 2 FR hf a0 a1 a2 a3 14829091926808964256 867720185306366531 688207751544974772 6495040407 ha HOd.out.2.2.1 _).mono ?_
  rintro e v3 ⟨x0,x1,x2,x3,rfl,hx,hv,hbl⟩
  have HVx:=Lib.hid (show aA x0 x1 x2 x3=aA a0 a1 a2 a3^(sK+1)%FR.M by rw[hv,HOd.out.2.2.2]);have lc:gc<v3.heap.size:=(HM.out.on hbl).lt (b:=gc) (c0:=c0) (c1:=c1) (c2:=c2) (c3:=c3) (by simp);have HM':=Lib.hid ((HM.out.on hbl).new v3.heap.size x0 x1 x2 x3 24 rfl);clear hbl hv p0 p1 p2 p3 pl q0 q1 q2 q3 ql;clear HM;have HM:=HM';clear HM';have kr:=HM.out.row (b:=w.heap.size) (c0:=a0) (c1:=a1) (c2:=a2) (c3:=a3) (by simp);have p0:=kr.c0; have p1:=kr.c1; have p2:=kr.c2; have p3:=kr.c3;clear kr;have pl:=HM.out.lt (b:=w.heap.size) (c0:=a0) (c1:=a1) (c2:=a2) (c3:=a3) (by simp);have kr:=HM.out.row (b:=w.heap.size+1+1) (c0:=11211439779908376895) (c1:=1735440370612733063) (c2:=1376415503089949544) (c3:=12990080814) (by simp);have q0:=kr.c0; have q1:=kr.c1; have q2:=kr.c2; have q3:=kr.c3;clear kr;have ql:=HM.out.lt (b:=w.heap.size+1+1) (c0:=11211439779908376895) (c1:=1735440370612733063) (c2:=1376415503089949544) (c3:=12990080814) (by simp);go_wp2_with fail;refine (dU 2 FR hf a0 a1 a2 a3 11211439779908376895 1735440370612733063 1376415503089949544 12990080814 ha HOd.out.1 _).mono ?_
  rintro e v4 ⟨t0,t1,t2,t3,rfl,ht,hv,hbl⟩
  have HVt:=Lib.hid (show aA t0 t1 t2 t3=aA a0 a1 a2 a3^(2*sK+1)%FR.M by rw[hv,HOd.out.2.1]);have lx:v3.heap.size<v4.heap.size:=(HM.out.on hbl).lt (b:=v3.heap.size) (c0:=x0) (c1:=x1) (c2:=x2) (c3:=x3) (by simp);have HM':=Lib.hid ((HM.out.on hbl).new v4.heap.size t0 t1 t2 t3 24 rfl);clear hbl hv p0 p1 p2 p3 pl q0 q1 q2 q3 ql;clear HM;have HM:=HM';clear HM';have HI:Hid (pD FR.M (aA a0 a1 a2 a3) 28 (aA x0 x1 x2 x3) (aA t0 t1 t2 t3) (aA c0 c1 c2 c3)∨(aA t0 t1 t2 t3=0∧aA x0 x1 x2 x3=0∧aA a0 a1 a2 a3=0)):=Lib.hid (by
   rcases HSq.out with h|h
   ·left;rw[HVx.out,HVt.out,HVc.out];exact IS QN (by omega) (QR 28 rfl) h
   ·right;rw[HVx.out,HVt.out,h];exact⟨by rw[Nat.zero_pow (by omega)]; rfl,by rw[Nat.zero_pow (by omega)]; rfl,rfl⟩)
  have HLT:=Lib.hid (show aA x0 x1 x2 x3<FR.M∧aA t0 t1 t2 t3<FR.M∧aA c0 c1 c2 c3<FR.M by rw[HVx.out,HVt.out,HVc.out]; exact⟨Nat.mod_lt _ (by omega),Nat.mod_lt _ (by omega),Nat.mod_lt _ (by omega)⟩);go_wp2_with fail;obtain⟨gx,hgx⟩:∃gx,gx=v3.heap.size:=⟨_,rfl⟩
  obtain⟨gt,hgt⟩:∃gt,gt=v4.heap.size:=⟨_,rfl⟩
  rw[←hgx,←hgt]at HM ⊢;have ord1:w.heap.size+1+1+1<gc∧gc<gx∧gx<gt:=by omega
  clear HVx HVt HVc hgx hgt lc lx hgc HSq HOd;have HM':=Lib.hid (HM.out.sub (rs':=[(gt,t0,t1,t2,t3),(gx,x0,x1,x2,x3),(gc,c0,c1,c2,c3),(w.heap.size+1,0,0,0,0)]) (by simp));clear HM
  go_loopw [8] (fun t wr=>∃n x0 x1 x2 x3 t0 t1 t2 t3 c0 c1 c2 c3:Nat,t=.int .i64 n∧n≤28∧aX x0 x1 x2 x3∧aX t0 t1 t2 t3∧aX c0 c1 c2 c3∧Hid (pD FR.M (aA a0 a1 a2 a3) n (aA x0 x1 x2 x3) (aA t0 t1 t2 t3) (aA c0 c1 c2 c3)∨(aA t0 t1 t2 t3=0∧aA x0 x1 x2 x3=0∧aA a0 a1 a2 a3=0))∧Hid (aA x0 x1 x2 x3<FR.M∧aA t0 t1 t2 t3<FR.M∧aA c0 c1 c2 c3<FR.M)∧Hid (Mem w wr [(gt,t0,t1,t2,t3),(gx,x0,x1,x2,x3),(gc,c0,c1,c2,c3),(w.heap.size+1,0,0,0,0)])) (fun t _=>(intOf t).toNat)
  case atStart=>exact⟨28,x0,x1,x2,x3,t0,t1,t2,t3,c0,c1,c2,c3,rfl,Nat.le_refl _,hx,ht,hc,HI,HLT,HM'⟩
  case round =>
   clear HM' HI HLT;obtain⟨n,x0,x1,x2,x3,t0,t1,t2,t3,c0,c1,c2,c3,rfl,hn28,hx,ht,hc,HI,HLT,HM⟩:=hrel;have kr:=HM.out.row (b:=gt) (c0:=t0) (c1:=t1) (c2:=t2) (c3:=t3) (by simp);have p0:=kr.c0; have p1:=kr.c1; have p2:=kr.c2; have p3:=kr.c3;clear kr;have pl:=HM.out.lt (b:=gt) (c0:=t0) (c1:=t1) (c2:=t2) (c3:=t3) (by simp);have kr:=HM.out.row (b:=gx) (c0:=x0) (c1:=x1) (c2:=x2) (c3:=x3) (by simp);have q0:=kr.c0; have q1:=kr.c1; have q2:=kr.c2; have q3:=kr.c3;clear kr;have ql:=HM.out.lt (b:=gx) (c0:=x0) (c1:=x1) (c2:=x2) (c3:=x3) (by simp);have kr:=HM.out.row (b:=w.heap.size+1) (c0:=0) (c1:=0) (c2:=0) (c3:=0) (by simp);have y0:=kr.c0; have y1:=kr.c1; have y2:=kr.c2; have y3:=kr.c3; have yf:=kr.fr;clear kr;have yl:=HM.out.lt (b:=w.heap.size+1) (c0:=0) (c1:=0) (c2:=0) (c3:=0) (by simp)
   by_cases h0:aA t0 t1 t2 t3=0
   ·have E0:=zV ht h0;have E1:=iA ht (by rw[h0]; decide);have HQ:=Lib.hid (show aA x0 x1 x2 x3*aA x0 x1 x2 x3%FR.M=aA a0 a1 a2 a3%FR.M by
     rcases HI.out with h|h
     ·rw[h.2.1,h0,Nat.mul_zero,Nat.zero_mod];have h4:=h.2.2.2;rw[h0,Nat.zero_pow (Nat.two_pow_pos _),Nat.zero_mod]at h4;exact absurd h4 (by decide)
     ·rw[h.2.1,h.2.2])
    clear h0 HI;go_wp2_with fail;refine bodyPost_ret (v:=.agg #[.int .u64 x0,.int .u64 x1,.int .u64 x2,.int .u64 x3]) (by simp[results,results64,go_sem, *]) rfl ?_;refine⟨_,_,_,_,rfl,hx,HQ.out,HLT.out.1,?_⟩;exact aL HM.out.1 (by omega) _ _ _ _
   ·by_cases h1:aA t0 t1 t2 t3=1
    ·have E0:=wQ ht h0;have E1:=wP ht h1;have HQ:=Lib.hid (show aA x0 x1 x2 x3*aA x0 x1 x2 x3%FR.M=aA a0 a1 a2 a3%FR.M by
      rcases HI.out with h|h
      ·rw[h.2.1,h1,Nat.mul_one]
      ·exact absurd h.1 h0)
     clear h0 h1 HI;go_wp2_with fail;refine bodyPost_ret (v:=.agg #[.int .u64 x0,.int .u64 x1,.int .u64 x2,.int .u64 x3]) (by simp[results,results64,go_sem, *]) rfl ?_;refine⟨_,_,_,_,rfl,hx,HQ.out,HLT.out.1,?_⟩;exact aL HM.out.1 (by omega) _ _ _ _
    ·have E0:=wQ ht h0;have E1:=iA ht h1;have HT:Hid (pD FR.M (aA a0 a1 a2 a3) n (aA x0 x1 x2 x3) (aA t0 t1 t2 t3) (aA c0 c1 c2 c3)):=Lib.hid (by
      rcases HI.out with h|h
      ·exact h
      ·exact absurd h.1 h0)
     have HN1:=Lib.hid h1;have hn1:1≤n:=HT.out.1;clear h0 h1 HI;go_wp2_with fail;have HM':=Lib.hid (HM.out.new wr.heap.size t0 t1 t2 t3 24 rfl);have S0:=Lib.hid (show aA t0 t1 t2 t3=aA t0 t1 t2 t3^2^0%FR.M by rw[Nat.pow_zero,Nat.pow_one,Nat.mod_eq_of_lt HLT.out.2.1]);clear p0 p1 p2 p3 pl q0 q1 q2 q3 ql y0 y1 y2 y3 yf yl E0 E1;obtain⟨wo,hwo⟩:∃wo,wo=wr:=⟨_,rfl⟩
     rw[←hwo]at HM' ⊢;have ltw:gt<wo.heap.size:=by rw[hwo]; exact HM.out.lt (b:=gt) (c0:=t0) (c1:=t1) (c2:=t2) (c3:=t3) (by simp)
     clear HM hwo
     go_loopw [9,10] (fun t9 t10 wr=>∃k gs s0 s1 s2 s3:Nat,t9=.int .i64 k∧t10=.pointer (some ⟨gs,0,none⟩)∧gt<gs∧k<n∧aX s0 s1 s2 s3∧Hid (aA s0 s1 s2 s3=aA t0 t1 t2 t3^2^k%FR.M)∧Hid (∀j,j<k→aA t0 t1 t2 t3^2^j%FR.M≠1)∧Hid (Mem w wr [(gs,s0,s1,s2,s3),(gt,t0,t1,t2,t3),(gx,x0,x1,x2,x3),(gc,c0,c1,c2,c3),(w.heap.size+1,0,0,0,0)])) (fun t9 _ _=>n-(intOf t9).toNat)
     case atStart=>exact⟨0,wo.heap.size,t0,t1,t2,t3,rfl,rfl,ltw,by omega,ht,S0,Lib.hid (fun j h=>absurd h (by omega)),HM'⟩
     case round =>
      clear HM' S0;obtain⟨k,gs,s0,s1,s2,s3,rfl,rfl,hgs,hkn,hs,HVs,HMin,HM⟩:=hrel;have kr:=HM.out.row (b:=gs) (c0:=s0) (c1:=s1) (c2:=s2) (c3:=s3) (by simp);have p0:=kr.c0; have p1:=kr.c1; have p2:=kr.c2; have p3:=kr.c3; have pf:=kr.fr;clear kr;have pl:=HM.out.lt (b:=gs) (c0:=s0) (c1:=s1) (c2:=s2) (c3:=s3) (by simp)
      by_cases h1:aA s0 s1 s2 s3=1
      ·have E1:=wP hs h1;have hk1:0<k:=by
        rcases Nat.eq_zero_or_pos k with e|e
        ·subst e;have:=HVs.out;rw[h1,Nat.pow_zero,Nat.pow_one,Nat.mod_eq_of_lt HLT.out.2.1]at this;exact absurd this.symm HN1.out
        ·exact e
       have HO:=Lib.hid (show aA t0 t1 t2 t3^2^k%FR.M=1 by rw[←HVs.out]; exact h1);clear h1 HVs;obtain⟨wi,hwi⟩:∃wi,wi=wr:=⟨_,rfl⟩
       rw[←hwi]at HM pl pf p0 p1 p2 p3 ⊢;clear hwi;have HM':=Lib.hid (HM.out.sub (rs':=[(gt,t0,t1,t2,t3),(gx,x0,x1,x2,x3),(gc,c0,c1,c2,c3),(w.heap.size+1,0,0,0,0)]) (by simp));clear HM;have HM:=HM';clear HM';have kr:=HM.out.row (b:=gc) (c0:=c0) (c1:=c1) (c2:=c2) (c3:=c3) (by simp);have q0:=kr.c0; have q1:=kr.c1; have q2:=kr.c2; have q3:=kr.c3;clear kr;have ql:=HM.out.lt (b:=gc) (c0:=c0) (c1:=c1) (c2:=c2) (c3:=c3) (by simp);have zz1:(n:Int)-(k:Int)=((n-k:Nat):Int):=by omega
       have zz2:((n-k:Nat):Int)-1=((n-k-1:Nat):Int):=by omega
       obtain⟨d,hd⟩:∃d,d=n-k-1:=⟨_,rfl⟩
       rw[←hd]at zz2;have HD:=Lib.hid hd;have hd28:d≤28:=by omega
       clear hd;go_wp2_with fail;have HM':=Lib.hid (HM.out.new wi.heap.size c0 c1 c2 c3 24 rfl);have ltb:gt<wi.heap.size:=HM.out.lt (b:=gt) (c0:=t0) (c1:=t1) (c2:=t2) (c3:=t3) (by simp);obtain⟨gb,hgb⟩:∃gb,gb=wi.heap.size:=⟨_,rfl⟩
       rw[←hgb]at HM' ltb ⊢;clear HM hgb p0 p1 p2 p3 pf pl q0 q1 q2 q3 ql E1;have C0:=Lib.hid (show aA c0 c1 c2 c3=aA c0 c1 c2 c3^2^0%FR.M by rw[Nat.pow_zero,Nat.pow_one,Nat.mod_eq_of_lt HLT.out.2.2])
       go_loopw [12] (fun t12 wr=>∃i b0 b1 b2 b3:Nat,t12=.int .i64 i∧i≤d∧aX b0 b1 b2 b3∧Hid (aA b0 b1 b2 b3=aA c0 c1 c2 c3^2^i%FR.M)∧Hid (Mem w wr [(gb,b0,b1,b2,b3),(gt,t0,t1,t2,t3),(gx,x0,x1,x2,x3),(gc,c0,c1,c2,c3),(w.heap.size+1,0,0,0,0)])) (fun t12 _=>d-(intOf t12).toNat)
       case atStart=>exact⟨0,c0,c1,c2,c3,rfl,Nat.zero_le _,hc,C0,HM'⟩
       case round =>
        clear HM' C0;obtain⟨i,b0,b1,b2,b3,rfl,hid,hb,HVb,HM⟩:=hrel;have kr:=HM.out.row (b:=gb) (c0:=b0) (c1:=b1) (c2:=b2) (c3:=b3) (by simp);have p0:=kr.c0; have p1:=kr.c1; have p2:=kr.c2; have p3:=kr.c3; have pf:=kr.fr;clear kr;have pl:=HM.out.lt (b:=gb) (c0:=b0) (c1:=b1) (c2:=b2) (c3:=b3) (by simp)
        by_cases hlt:i<d
        ·go_wp2_with fail;refine (eE 2 FR hf b0 b1 b2 b3 b0 b1 b2 b3 hb hb _).mono ?_
         rintro e v5 ⟨u0,u1,u2,u3,rfl,hu,hv,hbl⟩
         have HVu:=Lib.hid (show aA u0 u1 u2 u3=aA c0 c1 c2 c3^2^(i+1)%FR.M by rw[hv,HVb.out,←Nat.mul_mod,←eO]);have HM':=Lib.hid (HM.out.on hbl);clear hv hbl p0 p1 p2 p3 pf pl;clear HM;have HM:=HM';clear HM';have kr:=HM.out.row (b:=gb) (c0:=b0) (c1:=b1) (c2:=b2) (c3:=b3) (by simp);have p0:=kr.c0; have p1:=kr.c1; have p2:=kr.c2; have p3:=kr.c3; have pf:=kr.fr;clear kr;have pl:=HM.out.lt (b:=gb) (c0:=b0) (c1:=b1) (c2:=b2) (c3:=b3) (by simp);have HM':=Lib.hid (HM.out.put u0 u1 u2 u3 (by omega) (by intro r hr; simp at hr; rcases hr with rfl|rfl|rfl|rfl<;>simp<;>omega));clear HM;have HM:=HM';clear HM';go_wp2_with fail
         go_roundw
         case rel=>exact⟨i+1,u0,u1,u2,u3,by go_num,by omega,hu,HVu,HM⟩
         case measure=>simp[intOf]; omega
        ·obtain rfl:d=i:=by omega
         obtain⟨wj,hwj⟩:∃wj,wj=wr:=⟨_,rfl⟩
         rw[←hwj]at HM pl pf p0 p1 p2 p3 ⊢;clear hwj;go_wp2_with fail;refine (eE 2 FR hf b0 b1 b2 b3 b0 b1 b2 b3 hb hb _).mono ?_
         rintro e v5 ⟨u0,u1,u2,u3,rfl,hu,hv,hbl⟩
         have HVu:=Lib.hid hv;have HM':=Lib.hid (HM.out.on hbl);clear hv hbl p0 p1 p2 p3 pf pl;clear HM;have HM:=HM';clear HM';have kr:=HM.out.row (b:=gc) (c0:=c0) (c1:=c1) (c2:=c2) (c3:=c3) (by simp);have q0:=kr.c0; have q1:=kr.c1; have q2:=kr.c2; have q3:=kr.c3; have qf:=kr.fr;clear kr;have ql:=HM.out.lt (b:=gc) (c0:=c0) (c1:=c1) (c2:=c2) (c3:=c3) (by simp);have HM':=Lib.hid ((HM.out.sub (rs':=[(gc,c0,c1,c2,c3),(gb,b0,b1,b2,b3),(gt,t0,t1,t2,t3),(gx,x0,x1,x2,x3),(w.heap.size+1,0,0,0,0)]) (by simp)).put u0 u1 u2 u3 (by omega) (by intro r hr; simp at hr; rcases hr with rfl|rfl|rfl|rfl<;>simp<;>omega));clear HM;have HM:=HM';clear HM';have HX:=Lib.hid HM.out;unfold set4 at HX;obtain⟨z5,hz5⟩:∃z5,z5=v5.heap.size:=⟨_,rfl⟩
         have kx:=HX.out.row (b:=gx) (c0:=x0) (c1:=x1) (c2:=x2) (c3:=x3) (by simp);have x_0:=kx.c0; have x_1:=kx.c1; have x_2:=kx.c2; have x_3:=kx.c3;have kb:=HX.out.row (b:=gb) (c0:=b0) (c1:=b1) (c2:=b2) (c3:=b3) (by simp);have b_0:=kb.c0; have b_1:=kb.c1; have b_2:=kb.c2; have b_3:=kb.c3;clear kx kb hz5 z5 HM;go_wp2_with fail;refine (eE 2 FR hf x0 x1 x2 x3 b0 b1 b2 b3 hx hb _).mono ?_
         rintro e v6 ⟨v0,v1,v2,v3,rfl,hvo,hv,hbl⟩
         have HVv:=Lib.hid hv;have HM:=Lib.hid (HX.out.on hbl);clear hv hbl q0 q1 q2 q3 qf ql x_0 x_1 x_2 x_3 b_0 b_1 b_2 b_3 HX;have kr:=HM.out.row (b:=gx) (c0:=x0) (c1:=x1) (c2:=x2) (c3:=x3) (by simp);have q0:=kr.c0; have q1:=kr.c1; have q2:=kr.c2; have q3:=kr.c3; have qf:=kr.fr;clear kr;have ql:=HM.out.lt (b:=gx) (c0:=x0) (c1:=x1) (c2:=x2) (c3:=x3) (by simp);have HX:=Lib.hid ((HM.out.sub (rs':=[(gx,x0,x1,x2,x3),(gc,u0,u1,u2,u3),(gt,t0,t1,t2,t3),(w.heap.size+1,0,0,0,0)]) (by simp)).put v0 v1 v2 v3 (by omega) (by intro r hr; simp at hr; rcases hr with rfl|rfl|rfl<;>simp<;>omega));clear HM;have HM:=Lib.hid HX.out;clear HX;have HX:=Lib.hid HM.out;clear HM;have HX':=HX.out;unfold set4 at HX';have HM:=Lib.hid HX';clear HX HX';have kx:=HM.out.row (b:=gt) (c0:=t0) (c1:=t1) (c2:=t2) (c3:=t3) (by simp);have x_0:=kx.c0; have x_1:=kx.c1; have x_2:=kx.c2; have x_3:=kx.c3;have kb:=HM.out.row (b:=gc) (c0:=u0) (c1:=u1) (c2:=u2) (c3:=u3) (by simp);have b_0:=kb.c0; have b_1:=kb.c1; have b_2:=kb.c2; have b_3:=kb.c3;clear kx kb;go_wp2_with fail;refine (eE 2 FR hf t0 t1 t2 t3 u0 u1 u2 u3 ht hu _).mono ?_
         rintro e v7 ⟨y0,y1,y2,y3,rfl,hy,hv,hbl⟩
         have HVy:=Lib.hid hv;have HM':=Lib.hid (HM.out.on hbl);clear hv hbl q0 q1 q2 q3 qf ql x_0 x_1 x_2 x_3 b_0 b_1 b_2 b_3;clear HM;have HM:=HM';clear HM';have kr:=HM.out.row (b:=gt) (c0:=t0) (c1:=t1) (c2:=t2) (c3:=t3) (by simp);have q0:=kr.c0; have q1:=kr.c1; have q2:=kr.c2; have q3:=kr.c3; have qf:=kr.fr;clear kr;have ql:=HM.out.lt (b:=gt) (c0:=t0) (c1:=t1) (c2:=t2) (c3:=t3) (by simp);have HM':=Lib.hid ((HM.out.sub (rs':=[(gt,t0,t1,t2,t3),(gx,v0,v1,v2,v3),(gc,u0,u1,u2,u3),(w.heap.size+1,0,0,0,0)]) (by simp)).put y0 y1 y2 y3 (by omega) (by intro r hr; simp at hr; rcases hr with rfl|rfl|rfl<;>simp<;>omega));clear HM;have HM:=HM';clear HM';have HTN:=Lib.hid (show pD FR.M (aA a0 a1 a2 a3) k (aA v0 v1 v2 v3) (aA y0 y1 y2 y3) (aA u0 u1 u2 u3) by
          have h:=MP HRt.out h2 HT.out hk1 hkn HO.out (HMin.out (k-1) (by omega));rw[HVy.out,HVv.out,HVu.out,HVb.out,HD.out];exact h)
         have HLN:=Lib.hid (show aA v0 v1 v2 v3<FR.M∧aA y0 y1 y2 y3<FR.M∧aA u0 u1 u2 u3<FR.M by rw[HVv.out,HVy.out,HVu.out]; exact⟨Nat.mod_lt _ (by omega),Nat.mod_lt _ (by omega),Nat.mod_lt _ (by omega)⟩);have hk28:k≤28:=by omega
         go_wp2_with fail
         go_roundw
         case rel=>exact⟨k,v0,v1,v2,v3,y0,y1,y2,y3,u0,u1,u2,u3,rfl,hk28,hvo,hy,hu,Lib.hid (Or.inl HTN.out),HLN,HM⟩
         case measure=>simp[intOf]; omega
      ·have E1:=iA hs h1;have hkn':k+1<n:=by
        rcases Nat.lt_or_ge (k+1) n with e|e
        ·exact e
        ·obtain rfl:k=n-1:=by omega
         exact absurd (HVs.out.trans HT.out.2.2.2) h1
       have HMin':=Lib.hid (show ∀j,j<k+1→aA t0 t1 t2 t3^2^j%FR.M≠1 from fun j hj=>by
        by_cases e:j=k
        ·subst e; rw[←HVs.out]; exact h1
        ·exact HMin.out j (by omega))
       clear h1;go_wp2_with fail;refine (eE 2 FR hf s0 s1 s2 s3 s0 s1 s2 s3 hs hs _).mono ?_
       rintro e v5 ⟨u0,u1,u2,u3,rfl,hu,hv,hbl⟩
       have HVu:=Lib.hid (show aA u0 u1 u2 u3=aA t0 t1 t2 t3^2^(k+1)%FR.M by rw[hv,HVs.out,←Nat.mul_mod,←eO]);have HM':=Lib.hid (HM.out.on hbl);clear hv hbl p0 p1 p2 p3 pf pl;clear HM;have HM:=HM';clear HM';have kr:=HM.out.row (b:=gs) (c0:=s0) (c1:=s1) (c2:=s2) (c3:=s3) (by simp);have p0:=kr.c0; have p1:=kr.c1; have p2:=kr.c2; have p3:=kr.c3; have pf:=kr.fr;clear kr;have pl:=HM.out.lt (b:=gs) (c0:=s0) (c1:=s1) (c2:=s2) (c3:=s3) (by simp);have HM':=Lib.hid (((HM.out.put u0 u1 u2 u3 (by omega) (by intro r hr; simp at hr; rcases hr with rfl|rfl|rfl|rfl<;>simp<;>omega)).sub (rs':=[(gt,t0,t1,t2,t3),(gx,x0,x1,x2,x3),(gc,c0,c1,c2,c3),(w.heap.size+1,0,0,0,0)]) (by simp)).new v5.heap.size u0 u1 u2 u3 24 (by unfold set4; simp));have gs5:gt<v5.heap.size:=by omega
       clear HM;have HM:=HM';clear HM';go_wp2_with fail
       go_roundw
       case rel=>exact⟨k+1,v5.heap.size,u0,u1,u2,u3,by go_num,rfl,gs5,hkn',hu,HVu,HMin',HM⟩
       case measure=>simp[intOf]; omega
end Go.Proofs.YtjeplinbleofnaaGreat
