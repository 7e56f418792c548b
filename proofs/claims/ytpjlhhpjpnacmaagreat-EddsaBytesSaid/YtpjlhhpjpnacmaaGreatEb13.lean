/- Eb13 -/
import Derived.ArgAppend
import Derived.LoopTactic
import Derived.Laws.IdiomCopy
import Derived.Test.YtpjlhhpjpnacmaaGreatEb12
import Derived.Test.YtpjlhhpjpnacmaaGreatEb08
import Derived.Test.YtpjlhhpjpnacmaaGreatEb11
import Derived.Test.YtpjlhhpjpnacmaaGreatEb06
import Derived.Test.YtpjlhhpjpnacmaaGreatEb05
import Derived.Test.YtpjlhhpjpnacmaaGreatProg
set_option maxRecDepth 100000
set_option linter.unusedVariables false
set_option linter.unusedSimpArgs false
set_option linter.unnecessarySimpa false
noncomputable section
namespace Go.Proofs.YtpjlhhpjpnacmaaGreat.R1
open Go.Proofs.Tryz
open Go.RowKit
theorem refParse_empty (s:ByteArray) (h:s.size=0) (w:World) :
  Calls prog 78 #[.string s] w (gU (fun n c=>(n,c)=dS s.data.toList) w):=by
 have e0:s.toList=[]:=by rw[ByteArray.toList_eq]; exact List.eq_nil_of_length_eq_zero (by simpa using h)
 have HV:=Lib.hid (kB (l:=s.data.toList) (by rw[←ByteArray.toList_eq,e0]; rfl))
 go_enter func78,ntmps78
 go_wp2_with fail;refine bodyPost_ret (v:=.tuple #[.agg #[.int .u64 0,.int .u64 0,.int .u64 0,.int .u64 0],.int .i64 11]) (by simp[results,results78,go_sem]) rfl ?_;refine⟨0,0,0,0,11,rfl,⟨by omega,by omega,by omega,by omega⟩,HV.out.symm,?_⟩
 repeat (first|exact Below.refl _ _|refine Below.drew ?_|refine Below.alloc ?_ (by first|(simp; done)|(simp; omega)) _)
theorem numB_lead {l:List UInt8} (h1:1<l.length) (h:l[0].toNat=48):mV l=false:=by
 unfold mV;have e1:JL l=false:=by rw[vN l (by omega)]; exact decide_eq_false (by simpa using h)
 have e2:decide (l=[48])=false:=decide_eq_false (fun e=>by rw[e]at h1; simp at h1);rw[e1,e2];simp
theorem refParse_lead (s:ByteArray) (hs:s.size≤maxLen) (h1:1<s.size) (h0:(s[0]'(by omega)).toNat=48) (w:World) :
  Calls prog 78 #[.string s] w (gU (fun n c=>(n,c)=dS s.data.toList) w):=by
 unfold maxLen at hs;have hp:0<s.size:=by omega
 have e0:(s.toList==[])=false:=by
  have:¬s.toList=[]:=by
   intro e;have h5:s.toList.length=s.size:=by rw[ByteArray.toList_eq]; simp
   rw[e]at h5;have h6:0=s.size:=h5;omega
  simpa using this
 have e1:¬s.toList=[]:=by simpa using e0
 have t1:decide ((1:Int)<(s.size:Int))=true:=decide_eq_true (by omega);have HV:=Lib.hid (kB (l:=s.data.toList) (numB_lead (by simpa using h1) h0))
 go_enter func78,ntmps78
 go_wp2_with fail;refine bodyPost_ret (v:=.tuple #[.agg #[.int .u64 0,.int .u64 0,.int .u64 0,.int .u64 0],.int .i64 11]) (by simp[results,results78,go_sem]) rfl ?_;refine⟨0,0,0,0,11,rfl,⟨by omega,by omega,by omega,by omega⟩,HV.out.symm,?_⟩
 repeat (first|exact Below.refl _ _|refine Below.drew ?_|refine Below.alloc ?_ (by first|(simp; done)|(simp; omega)) _)
theorem numB_rest {l:List UInt8} (h0:0<l.length) (h1:1<l.length→l[0].toNat≠48) (h:∀k (hk:k<l.length),lZ l[k]=true):mV l=true:=by
 rw[SK h,vN l h0]
 by_cases e:1<l.length
 ·rw[decide_eq_true (h1 e),Bool.or_true]
 ·match l,h0,e with
  | [c],_,_ =>
   by_cases hc:c.toNat=48
   ·have:c=48:=UInt8.toNat_inj.1 hc;subst this; rfl
   ·simp[hc]
  | a::b::t,_,e=>exact absurd (by simp) e
set_option maxHeartbeats 8000000 in
theorem refParse_one (s:ByteArray) (hs:s.size≤maxLen) (h1:s.size=1) (w:World) :
  Calls prog 78 #[.string s] w (gU (fun n c=>(n,c)=dS s.data.toList) w):=by
 unfold maxLen at hs;have hp:0<s.size:=by omega
 have t1:decide ((1:Int)<(s.size:Int))=false:=decide_eq_false (by omega);have e0:(s.toList==[])=false:=by
  have:¬s.toList=[]:=by
   intro e;have h5:s.toList.length=s.size:=by rw[ByteArray.toList_eq]; simp
   rw[e]at h5;have h6:0=s.size:=h5;omega
  simpa using this
 have e1:¬s.toList=[]:=by simpa using e0
 obtain⟨l,el⟩:∃l,l=s.data.toList:=⟨_,rfl⟩
 have hll:l.length=s.size:=by rw[el]; simp
 have HG:=Lib.hid (fun (k:Nat) (hk:k<s.size) (hk':k<l.length)=>show s[k]=l[k]from by subst el; rfl);rw[←el];have HR:=Lib.hid (numB_rest (l:=l) (by omega) (fun e=>by rw[←HG.out 0 (by omega) (by omega)]; omega));have Hll:=Lib.hid hll;have HBad:=Lib.hid (fun (h:mV l=false)=>kB h);have HLong:=Lib.hid (fun h=>qT (l:=l) h);clear el hll;have hle:s.size≤1:=by omega
 clear h1;have hz:aZ 0 0 0 0:=⟨by omega,by omega,by omega,by omega⟩
 go_enter func78,ntmps78
 go_wp2_with fail
 go_loop [5] (fun x=>∃k:Nat,k≤s.size∧x=.int .i64 k∧Hid (∀j (hj:j<l.length),j<k→lZ l[j]=true)) (fun x=>s.size-(intOf x).toNat)
 case atStart=>exact⟨0,Nat.zero_le _,rfl,Lib.hid (fun j _ h=>absurd h (by omega))⟩
 case round =>
  obtain⟨k,hk,rfl,ha⟩:=hrel
  by_cases hlt:k<s.size
  ·have hl:k<l.length:=by rw[Hll.out]; exact hlt
   obtain⟨c,ec,eq⟩:∃c:UInt8,s[k]'hlt=c∧l[k]=c:=⟨s[k]'hlt,rfl,(HG.out k hlt hl).symm⟩
   by_cases h1:(c.toNat:Int)<48
   ·have HV:=Lib.hid (HBad.out (oT hl (by rw[eq]; unfold lZ; exact decide_eq_false (by omega))));clear eq ha;go_wp2_with fail;refine bodyPost_ret (v:=.tuple #[.agg #[.int .u64 0,.int .u64 0,.int .u64 0,.int .u64 0],.int .i64 11]) (by simp[results,results78,go_sem]) rfl ?_;refine⟨0,0,0,0,11,rfl,hz,HV.out.symm,?_⟩
    repeat (first|exact Below.refl _ _|refine Below.drew ?_|refine Below.alloc ?_ (by first|(simp; done)|(simp; omega)) _)
   ·by_cases h2:(57:Int)<(c.toNat:Int)
    ·have HV:=Lib.hid (HBad.out (oT hl (by rw[eq]; unfold lZ; exact decide_eq_false (by omega))));clear eq ha;go_wp2_with fail;refine bodyPost_ret (v:=.tuple #[.agg #[.int .u64 0,.int .u64 0,.int .u64 0,.int .u64 0],.int .i64 11]) (by simp[results,results78,go_sem]) rfl ?_;refine⟨0,0,0,0,11,rfl,hz,HV.out.symm,?_⟩
     repeat (first|exact Below.refl _ _|refine Below.drew ?_|refine Below.alloc ?_ (by first|(simp; done)|(simp; omega)) _)
    ·have HN:=Lib.hid (show ∀j (hj:j<l.length),j<k+1→lZ l[j]=true from fun j hj h=>by
      by_cases e:j=k
      ·subst e; rw[eq]; unfold lZ; exact decide_eq_true (by omega)
      ·exact ha.out j hj (by omega))
     clear eq ha;go_wp2_with fail
     go_round
     case rel=>exact⟨k+1,by omega,by go_num,HN⟩
     case measure=>simp[intOf]; omega
  ·obtain rfl:k=s.size:=by omega
   have hnum:=HR.out (fun j hj=>ha.out j hj (by rw[←Hll.out]; exact hj));clear ha
   by_cases h78:78<s.size
   ·have HV:=Lib.hid (HLong.out hnum (by rw[Hll.out]; exact h78));exact absurd h78 (by omega)
   ·have HBig:=Lib.hid (sX hnum (show ¬ 78<l.length by rw[Hll.out]; exact h78));have HOk:=Lib.hid (vI hnum (show ¬ 78<l.length by rw[Hll.out]; exact h78));have HDig:=Lib.hid (fun k hk=>AR hnum (k:=k) hk);have hd:decide ((78:Int)<(s.size:Int))=false:=decide_eq_false (by omega);have hs78:s.size≤78:=by omega
    clear hnum;go_wp2_with fail
    go_loopw [6] (fun x wr=>∃k a0 a1 a2 a3:Nat,k≤s.size∧x=.int .i64 k∧aZ a0 a1 a2 a3∧Hid (aA a0 a1 a2 a3=cM (l.take k))∧Mem w wr [(w.heap.size+1,a0,a1,a2,a3),(w.heap.size,0,0,0,0)]) (fun x _=>s.size-(intOf x).toNat)
    case atStart=>exact⟨0,0,0,0,0,Nat.zero_le _,rfl,hz,Lib.hid rfl,((Mem.nil w).new w.heap.size 0 0 0 0 27 rfl).new (w.heap.size+1) 0 0 0 0 27 (by simp)⟩
    case round =>
      obtain⟨k,a0,a1,a2,a3,hk,rfl,ha,ev,mm⟩:=hrel;have M:=Lib.hid mm;have r0:=(mm.2 (w.heap.size+1,a0,a1,a2,a3) (by simp)).2;have z0:=(mm.2 (w.heap.size,0,0,0,0) (by simp)).2;have la:=(mm.2 (w.heap.size+1,a0,a1,a2,a3) (by simp)).1;clear mm;obtain⟨c0,c1,c2,c3,cf⟩:=r0;obtain⟨y0,y1,y2,y3,yf⟩:=z0
      by_cases hlt:k<s.size
      ·have hl:k<l.length:=by rw[Hll.out]; exact hlt
       have hdg:=HDig.out k hl;obtain⟨d,hdd,ld,ed⟩:∃d:Nat,((s[k]'hlt).toNat:Int)-48=(d:Int)∧d≤9∧Hid (cM (l.take (k+1))=cM (l.take k)*10+d):=by
        refine⟨l[k].toNat-48,?_,by omega,Lib.hid (qV hl)⟩;rw[HG.out k hlt hl]; omega
       have b1:48≤(s[k]'hlt).toNat:=by rw[HG.out k hlt hl]; exact hdg.1
       have b2:(s[k]'hlt).toNat≤57:=by rw[HG.out k hlt hl]; exact hdg.2
       have okd:aZ d 0 0 0:=⟨by omega,by omega,by omega,by omega⟩;have w8:IntKind.u8.wrap (d:Int)=(d:Int):=by simp only[IntKind.wrap,IntKind.bits,IntKind.signed]; simp; omega
       have w64:IntKind.u64.wrap (d:Int)=(d:Int):=mJ _ (by omega);clear hdg;go_wp2_with fail;refine (refMul_calls a0 a1 a2 a3 10 0 0 0 ha ⟨by omega,by omega,by omega,by omega⟩ _).mono ?_
       rintro e w2 ⟨o,g1,g2,g3,p0,p1,p2,p3,rfl,hgo,hp,ep,hbl⟩
       have ep':=ep;rw[show aA 10 0 0 0=10 from rfl]at ep';obtain⟨rfl,rfl,rfl,lo⟩:g1=0∧g2=0∧g3=0∧o<10:=by
        have h1:=cE ha;unfold aA at ep' h1;omega
       have Hep:=Lib.hid (show aA p0 p1 p2 p3+115792089237316195423570985008687907853269984665640564039457584007913129639936*o=aA a0 a1 a2 a3*10 by
        rw[←ep']; unfold aA; omega)
       have M2:=Lib.hid (((M.out.on hbl).new w2.heap.size o 0 0 0 27 rfl).new (w2.heap.size+1) p0 p1 p2 p3 27 (by simp));clear hbl M c0 c1 c2 c3 cf la y0 y1 y2 y3 yf ep ep' hgo;go_wp2_with fail;generalize (w2.alloc (.cells #[.int .u64 o,.int .u64 0,.int .u64 0,.int .u64 0] 27)).alloc (.cells #[.int .u64 p0,.int .u64 p1,.int .u64 p2,.int .u64 p3] 27)=W2 at M2 ⊢;have HM:=Lib.hid (M2.out.drewN 1);have HS:=M2.out.drewN 1;clear M2;refine bM (fun wx=>Mem w wx [(w2.heap.size+1,p0,p1,p2,p3),(w2.heap.size,o,0,0,0),(w.heap.size+1,a0,a1,a2,a3),(w.heap.size,0,0,0,0)]) 13 (by kernel_rfl) ?_;refine aC (i:=0) (v:=.agg #[.int .u64 p0,.int .u64 p1,.int .u64 p2,.int .u64 p3]) rfl (by kernel_rfl) (by kernel_rfl) (by kernel_rfl) (by kernel_rfl) (fun _ _ _ h=>h) HS (Or.inl ⟨by kernel_rfl,fun wx hx => ?_⟩) ?_
       ·have kr:=(hx.2 (w2.heap.size+1,p0,p1,p2,p3) (List.Mem.head _)).2;have k0:=kr.c0; have k1:=kr.c1; have k2:=kr.c2; have k3:=kr.c3; have kf:=kr.fr;clear kr HS hx;go_simp
       simp only[Act.put,List.setIfInBounds_toArray,List.set_cons_zero,List.set_cons_succ];refine aC (i:=1) (v:=.string s) rfl (by kernel_rfl) (by kernel_rfl) (by kernel_rfl) (by kernel_rfl) (fun _ _ _ h=>h) HS (Or.inl ⟨by kernel_rfl,fun wx hx => ?_⟩) ?_
       ·clear hx HS;go_simp
       simp only[Act.put,List.setIfInBounds_toArray,List.set_cons_zero,List.set_cons_succ];refine aC (i:=2) (v:=.int .i64 k) rfl (by kernel_rfl) (by kernel_rfl) (by kernel_rfl) (by kernel_rfl) (fun _ _ _ h=>h) HS (Or.inl ⟨by kernel_rfl,fun wx hx => ?_⟩) ?_
       ·clear hx HS;go_simp
       simp only[Act.put,List.setIfInBounds_toArray,List.set_cons_zero,List.set_cons_succ];refine aC (i:=3) (v:=.int .u8 ((s[k]'hlt).toNat:Nat)) rfl (by kernel_rfl) (by kernel_rfl) (by kernel_rfl) (by kernel_rfl) (fun _ _ _ h=>h) HS (Or.inl ⟨by kernel_rfl,fun wx hx => ?_⟩) ?_
       ·clear hx HS;go_simp
       simp only[Act.put,List.setIfInBounds_toArray,List.set_cons_zero,List.set_cons_succ];refine aC (i:=4) (v:=.int .u8 d) rfl (by kernel_rfl) (by kernel_rfl) (by kernel_rfl) (by kernel_rfl) (fun _ _ _ h=>h) HS (Or.inl ⟨by kernel_rfl,fun wx hx => ?_⟩) ?_
       ·clear hx HS;go_simp
       simp only[Act.put,List.setIfInBounds_toArray,List.set_cons_zero,List.set_cons_succ];refine aC (i:=5) (v:=.int .u64 d) rfl (by kernel_rfl) (by kernel_rfl) (by kernel_rfl) (by kernel_rfl) (fun _ _ _ h=>h) HS (Or.inl ⟨by kernel_rfl,fun wx hx => ?_⟩) ?_
       ·clear hx HS;go_simp
       simp only[Act.put,List.setIfInBounds_toArray,List.set_cons_zero,List.set_cons_succ];refine aC (i:=6) (v:=.agg #[.int .u64 d,.int .u64 0,.int .u64 0,.int .u64 0]) rfl (by kernel_rfl) (by kernel_rfl) (by kernel_rfl) (by kernel_rfl) (fun _ _ _ h=>h) HS (Or.inl ⟨by kernel_rfl,fun wx hx => ?_⟩) ?_
       ·clear hx HS;go_simp
       simp only[Act.put,List.setIfInBounds_toArray,List.set_cons_zero,List.set_cons_succ];clear HS;refine cI (i:=7) (j:=11) (by kernel_rfl) rfl rfl (fun K hK => ?_) (fun K hK => ?_)
       ·go_simp;refine (refAdd_calls p0 p1 p2 p3 d 0 0 0 hp okd _).mono ?_
        rintro e w3 ⟨s0,s1,s2,s3,c,rfl,hs',hc,es,hbl⟩
        have HV:=Lib.hid (show aA s0 s1 s2 s3+115792089237316195423570985008687907853269984665640564039457584007913129639936*(c+o)=cM (l.take (k+1)) by
         have h1:=Hep.out; have h2:=ev.out; have h3:=ed.out;have h4:aA d 0 0 0=d:=by unfold aA; omega
         rw[h3,←h2,Nat.mul_add]; omega)
        have HT:=Lib.hid (iW l (k+1));have M3:=Lib.hid (HM.out.on hbl);have HS:=HM.out.on hbl;clear HM hbl es;refine hK.out _ _ (Or.inr HS) (fun _ => ?_);clear hK K;refine aC (i:=8) (v:=.tuple #[.agg #[.int .u64 s0,.int .u64 s1,.int .u64 s2,.int .u64 s3],.int .u64 c]) rfl (by kernel_rfl) (by kernel_rfl) (by kernel_rfl) (by kernel_rfl) (fun _ _ _ h=>h) HS (Or.inl ⟨by kernel_rfl,fun wx hx => ?_⟩) ?_
        ·clear hx HS;go_simp
        simp only[Act.put,List.setIfInBounds_toArray,List.set_cons_zero,List.set_cons_succ];refine aC (i:=9) (v:=.agg #[.int .u64 s0,.int .u64 s1,.int .u64 s2,.int .u64 s3]) rfl (by kernel_rfl) (by kernel_rfl) (by kernel_rfl) (by kernel_rfl) (fun _ _ _ h=>h) HS (Or.inl ⟨by kernel_rfl,fun wx hx => ?_⟩) ?_
        ·clear hx HS;go_simp
        simp only[Act.put,List.setIfInBounds_toArray,List.set_cons_zero,List.set_cons_succ];refine aC (i:=10) (v:=.int .u64 c) rfl (by kernel_rfl) (by kernel_rfl) (by kernel_rfl) (by kernel_rfl) (fun _ _ _ h=>h) HS (Or.inl ⟨by kernel_rfl,fun wx hx => ?_⟩) ?_
        ·clear hx HS;go_simp
        simp only[Act.put,List.setIfInBounds_toArray,List.set_cons_zero,List.set_cons_succ];clear HS;refine aD (i:=11) (by kernel_rfl) rfl (fun K hK => ?_);go_simp;have M4:=Lib.hid (M3.out.new w3.heap.size 0 0 0 0 27 rfl);refine hK.out _ _ (Or.inr (M4.out.sub (fun r h=>List.mem_cons_of_mem _ h))) (fun _ => ?_);clear hK K;refine aD (i:=12) (by kernel_rfl) rfl (fun K hK => ?_);go_simp;have M5:=Lib.hid (M3.out.new w3.heap.size s0 s1 s2 s3 27 rfl);refine hK.out _ _ (Or.inr (M5.out.sub (fun r h=>List.mem_cons_of_mem _ h))) (fun _ => ?_);clear hK K M4;refine aD (i:=13) (by kernel_rfl) rfl (fun K hK => ?_);go_simp;refine hK.out _ _ (Or.inl rfl) (fun _ => ?_);clear hK K;refine aU (by kernel_rfl) ?_;have r3:=M3.out.2 (w.heap.size,0,0,0,0) (by simp);have r4:=M3.out.2 (w.heap.size+1,a0,a1,a2,a3) (by simp);have r6:=(M3.out.2 (w2.heap.size,o,0,0,0) (by simp)).2.c0;have l6:=(M3.out.2 (w2.heap.size,o,0,0,0) (by simp)).1;obtain⟨lz,y0,y1,y2,y3,yf⟩:=r3;obtain⟨la,c0,c1,c2,c3,cf⟩:=r4
        rcases Nat.eq_zero_or_pos o with rfl|h0
        ·rcases (show c=0∨c=1 by omega)with rfl|rfl
         ·have HN:=Lib.hid (show aA s0 s1 s2 s3=cM (l.take (k+1)) by have:=HV.out; omega);have M6:=Lib.hid (((M3.out.sub (rs':=[(w.heap.size+1,a0,a1,a2,a3),(w.heap.size,0,0,0,0)]) (fun r h=>List.mem_cons_of_mem _ (List.mem_cons_of_mem _ h))).put s0 s1 s2 s3 (by omega) (by simp)).on ((Below.refl _ _).alloc (Nat.le_refl _) (.cells #[.int .u64 s0,.int .u64 s1,.int .u64 s2,.int .u64 s3] 27)));go_wp2_with fail
          go_roundw
          case rel=>exact⟨k+1,s0,s1,s2,s3,by omega,by go_num,hs',HN,M6.out⟩
          case measure=>first|(simp[intOf]; done)|(simp[intOf]; omega)
         ·have HF:=Lib.hid (HBig.out (by have h1:=HV.out; have h2:=HT.out; omega));go_wp2_with fail;refine bodyPost_ret (v:=.tuple #[.agg #[.int .u64 0,.int .u64 0,.int .u64 0,.int .u64 0],.int .i64 4]) (by simp[results,results78,go_sem, *]) rfl ?_;exact⟨0,0,0,0,4,rfl,hz,HF.out.symm,(aM M3.out.1 (by omega) _ _ _ _).alloc (by simp only[World.size_setCell,set4]; omega) _⟩
        ·have t1:((o:Int) != 0)=true:=by simp; omega
         have HF:=Lib.hid (HBig.out (by have h1:=HV.out; have h2:=HT.out; omega));clear h0;go_wp2_with fail;refine bodyPost_ret (v:=.tuple #[.agg #[.int .u64 0,.int .u64 0,.int .u64 0,.int .u64 0],.int .i64 4]) (by simp[results,results78,go_sem, *]) rfl ?_;exact⟨0,0,0,0,4,rfl,hz,HF.out.symm,(aM M3.out.1 (by omega) _ _ _ _).alloc (by simp only[World.size_setCell,set4]; omega) _⟩
       ·go_simp;have M3:=Lib.hid (HM.out.new W2.heap.size 0 0 0 0 27 rfl);have lW:=(HM.out.2 (w.heap.size+1,a0,a1,a2,a3) (by simp)).1;have lW2:=(HM.out.2 (w2.heap.size+1,p0,p1,p2,p3) (by simp)).1;have gW:w.heap.size+1<W2.heap.size:=lW;have gW2:w2.heap.size+1<W2.heap.size:=lW2;clear HM lW lW2;refine hK.out _ _ (Or.inr (M3.out.sub (fun r h=>List.mem_cons_of_mem _ h))) (fun _ => ?_);clear hK K;refine aD (i:=7) (by kernel_rfl) rfl (fun K hK => ?_);go_simp;refine (refAdd_calls p0 p1 p2 p3 d 0 0 0 hp okd _).mono ?_
        rintro e w3 ⟨s0,s1,s2,s3,c,rfl,hs',hc,es,hbl⟩
        have HV:=Lib.hid (show aA s0 s1 s2 s3+115792089237316195423570985008687907853269984665640564039457584007913129639936*(c+o)=cM (l.take (k+1)) by
         have h1:=Hep.out; have h2:=ev.out; have h3:=ed.out;have h4:aA d 0 0 0=d:=by unfold aA; omega
         rw[h3,←h2,Nat.mul_add]; omega)
        have HT:=Lib.hid (iW l (k+1));have M4:=Lib.hid (M3.out.on hbl);have HS:=(M3.out.on hbl).sub (rs':=[(w2.heap.size+1,p0,p1,p2,p3),(w2.heap.size,o,0,0,0),(w.heap.size+1,a0,a1,a2,a3),(w.heap.size,0,0,0,0)]) (fun r h=>List.mem_cons_of_mem _ h);clear M3 hbl es;refine hK.out _ _ (Or.inr HS) (fun _ => ?_);clear hK K;refine aC (i:=8) (v:=.tuple #[.agg #[.int .u64 s0,.int .u64 s1,.int .u64 s2,.int .u64 s3],.int .u64 c]) rfl (by kernel_rfl) (by kernel_rfl) (by kernel_rfl) (by kernel_rfl) (fun _ _ _ h=>h) HS (Or.inl ⟨by kernel_rfl,fun wx hx => ?_⟩) ?_
        ·clear hx HS;go_simp
        simp only[Act.put,List.setIfInBounds_toArray,List.set_cons_zero,List.set_cons_succ];refine aC (i:=9) (v:=.agg #[.int .u64 s0,.int .u64 s1,.int .u64 s2,.int .u64 s3]) rfl (by kernel_rfl) (by kernel_rfl) (by kernel_rfl) (by kernel_rfl) (fun _ _ _ h=>h) HS (Or.inl ⟨by kernel_rfl,fun wx hx => ?_⟩) ?_
        ·clear hx HS;go_simp
        simp only[Act.put,List.setIfInBounds_toArray,List.set_cons_zero,List.set_cons_succ];refine aC (i:=10) (v:=.int .u64 c) rfl (by kernel_rfl) (by kernel_rfl) (by kernel_rfl) (by kernel_rfl) (fun _ _ _ h=>h) HS (Or.inl ⟨by kernel_rfl,fun wx hx => ?_⟩) ?_
        ·clear hx HS;go_simp
        simp only[Act.put,List.setIfInBounds_toArray,List.set_cons_zero,List.set_cons_succ];clear HS;have r5:=M4.out.2 (W2.heap.size,0,0,0,0) (by simp);obtain⟨lb,z0,z1,z2,z3,zf⟩:=r5;refine aD (i:=12) (by kernel_rfl) rfl (fun K hK => ?_);go_simp;have M5:=Lib.hid (M4.out.put s0 s1 s2 s3 (by omega) (by simp; omega));refine hK.out _ _ (Or.inr (M5.out.sub (fun r h=>List.mem_cons_of_mem _ h))) (fun _ => ?_);clear hK K z0 z1 z2 z3 zf lb;refine aD (i:=13) (by kernel_rfl) rfl (fun K hK => ?_);go_simp;refine hK.out _ _ (Or.inl rfl) (fun _ => ?_);clear hK K;refine aU (by kernel_rfl) ?_;have r3:=M4.out.2 (w.heap.size,0,0,0,0) (by simp);have r4:=M4.out.2 (w.heap.size+1,a0,a1,a2,a3) (by simp);have r5:=M4.out.2 (W2.heap.size,0,0,0,0) (by simp);obtain⟨lz,y0,y1,y2,y3,yf⟩:=r3;obtain⟨la,c0,c1,c2,c3,cf⟩:=r4;obtain⟨lb,z0,z1,z2,z3,zf⟩:=r5;have r6:=(M4.out.2 (w2.heap.size,o,0,0,0) (by simp)).2.c0
        rcases Nat.eq_zero_or_pos o with rfl|h0
        ·rcases (show c=0∨c=1 by omega)with rfl|rfl
         ·have HN:=Lib.hid (show aA s0 s1 s2 s3=cM (l.take (k+1)) by have:=HV.out; omega);have M6:=Lib.hid ((M5.out.sub (rs':=[(w.heap.size+1,a0,a1,a2,a3),(w.heap.size,0,0,0,0)]) (fun r h=>List.mem_cons_of_mem _ (List.mem_cons_of_mem _ (List.mem_cons_of_mem _ h)))).put s0 s1 s2 s3 (by omega) (by simp));go_wp2_with fail
          go_roundw
          case rel=>exact⟨k+1,s0,s1,s2,s3,by omega,by go_num,hs',HN,M6.out⟩
          case measure=>first|(simp[intOf]; done)|(simp[intOf]; omega)
         ·have HF:=Lib.hid (HBig.out (by have h1:=HV.out; have h2:=HT.out; omega));go_wp2_with fail;refine bodyPost_ret (v:=.tuple #[.agg #[.int .u64 0,.int .u64 0,.int .u64 0,.int .u64 0],.int .i64 4]) (by simp[results,results78,go_sem, *]) rfl ?_;exact⟨0,0,0,0,4,rfl,hz,HF.out.symm,aM M5.out.1 (by omega) _ _ _ _⟩
        ·have t1:((o:Int) != 0)=true:=by simp; omega
         have HF:=Lib.hid (HBig.out (by have h1:=HV.out; have h2:=HT.out; omega));clear h0;go_wp2_with fail;refine bodyPost_ret (v:=.tuple #[.agg #[.int .u64 0,.int .u64 0,.int .u64 0,.int .u64 0],.int .i64 4]) (by simp[results,results78,go_sem, *]) rfl ?_;exact⟨0,0,0,0,4,rfl,hz,HF.out.symm,aM M5.out.1 (by omega) _ _ _ _⟩
      ·obtain rfl:k=s.size:=by omega
       have HF:=Lib.hid (show (aA a0 a1 a2 a3,0)=dS l by
        have e1:cM (l.take s.size)=cM l:=by rw[List.take_of_length_le (by rw[Hll.out]; exact Nat.le_refl _)]
        have e2:=ev.out.trans e1;rw[HOk.out (by rw[←e2]; exact cE ha),e2])
       clear ev;go_wp2_with fail;refine bodyPost_ret (v:=.tuple #[.agg #[.int .u64 a0,.int .u64 a1,.int .u64 a2,.int .u64 a3],.int .i64 0]) (by simp[results,results78,go_sem, *]) rfl ?_;exact⟨a0,a1,a2,a3,0,rfl,ha,HF.out,aM M.out.1 (by omega) _ _ _ _⟩
set_option maxHeartbeats 8000000 in
theorem refParse_more (s:ByteArray) (hs:s.size≤maxLen) (h1:1<s.size) (h0:(s[0]'(by omega)).toNat≠48) (w:World) :
  Calls prog 78 #[.string s] w (gU (fun n c=>(n,c)=dS s.data.toList) w):=by
 unfold maxLen at hs;have hp:0<s.size:=by omega
 have H0:=Lib.hid h0;obtain⟨c0,ec0,hc0⟩:∃c:Nat,(s[0]'hp).toNat=c∧((c:Int)==48)=false:=⟨_,rfl,by simp; omega⟩
 clear h0;have t1:decide ((1:Int)<(s.size:Int))=true:=decide_eq_true (by omega);have e0:(s.toList==[])=false:=by
  have:¬s.toList=[]:=by
   intro e;have h5:s.toList.length=s.size:=by rw[ByteArray.toList_eq]; simp
   rw[e]at h5;have h6:0=s.size:=h5;omega
  simpa using this
 have e1:¬s.toList=[]:=by simpa using e0
 obtain⟨l,el⟩:∃l,l=s.data.toList:=⟨_,rfl⟩
 have hll:l.length=s.size:=by rw[el]; simp
 have HG:=Lib.hid (fun (k:Nat) (hk:k<s.size) (hk':k<l.length)=>show s[k]=l[k]from by subst el; rfl);rw[←el];have HR:=Lib.hid (numB_rest (l:=l) (by omega) (fun e=>by rw[←HG.out 0 (by omega) (by omega)]; exact H0.out));have Hll:=Lib.hid hll;have HBad:=Lib.hid (fun (h:mV l=false)=>kB h);have HLong:=Lib.hid (fun h=>qT (l:=l) h);clear el hll;have hz:aZ 0 0 0 0:=⟨by omega,by omega,by omega,by omega⟩
 go_enter func78,ntmps78
 go_wp2_with fail
 go_loop [5] (fun x=>∃k:Nat,k≤s.size∧x=.int .i64 k∧Hid (∀j (hj:j<l.length),j<k→lZ l[j]=true)) (fun x=>s.size-(intOf x).toNat)
 case atStart=>exact⟨0,Nat.zero_le _,rfl,Lib.hid (fun j _ h=>absurd h (by omega))⟩
 case round =>
  obtain⟨k,hk,rfl,ha⟩:=hrel
  by_cases hlt:k<s.size
  ·have hl:k<l.length:=by rw[Hll.out]; exact hlt
   obtain⟨c,ec,eq⟩:∃c:UInt8,s[k]'hlt=c∧l[k]=c:=⟨s[k]'hlt,rfl,(HG.out k hlt hl).symm⟩
   by_cases h1:(c.toNat:Int)<48
   ·have HV:=Lib.hid (HBad.out (oT hl (by rw[eq]; unfold lZ; exact decide_eq_false (by omega))));clear eq ha;go_wp2_with fail;refine bodyPost_ret (v:=.tuple #[.agg #[.int .u64 0,.int .u64 0,.int .u64 0,.int .u64 0],.int .i64 11]) (by simp[results,results78,go_sem]) rfl ?_;refine⟨0,0,0,0,11,rfl,hz,HV.out.symm,?_⟩
    repeat (first|exact Below.refl _ _|refine Below.drew ?_|refine Below.alloc ?_ (by first|(simp; done)|(simp; omega)) _)
   ·by_cases h2:(57:Int)<(c.toNat:Int)
    ·have HV:=Lib.hid (HBad.out (oT hl (by rw[eq]; unfold lZ; exact decide_eq_false (by omega))));clear eq ha;go_wp2_with fail;refine bodyPost_ret (v:=.tuple #[.agg #[.int .u64 0,.int .u64 0,.int .u64 0,.int .u64 0],.int .i64 11]) (by simp[results,results78,go_sem]) rfl ?_;refine⟨0,0,0,0,11,rfl,hz,HV.out.symm,?_⟩
     repeat (first|exact Below.refl _ _|refine Below.drew ?_|refine Below.alloc ?_ (by first|(simp; done)|(simp; omega)) _)
    ·have HN:=Lib.hid (show ∀j (hj:j<l.length),j<k+1→lZ l[j]=true from fun j hj h=>by
      by_cases e:j=k
      ·subst e; rw[eq]; unfold lZ; exact decide_eq_true (by omega)
      ·exact ha.out j hj (by omega))
     clear eq ha;go_wp2_with fail
     go_round
     case rel=>exact⟨k+1,by omega,by go_num,HN⟩
     case measure=>simp[intOf]; omega
  ·obtain rfl:k=s.size:=by omega
   have hnum:=HR.out (fun j hj=>ha.out j hj (by rw[←Hll.out]; exact hj));clear ha
   by_cases h78:78<s.size
   ·have HV:=Lib.hid (HLong.out hnum (by rw[Hll.out]; exact h78));clear hnum;go_wp2_with fail;refine bodyPost_ret (v:=.tuple #[.agg #[.int .u64 0,.int .u64 0,.int .u64 0,.int .u64 0],.int .i64 4]) (by simp[results,results78,go_sem]) rfl ?_;refine⟨0,0,0,0,4,rfl,hz,HV.out.symm,?_⟩
    repeat (first|exact Below.refl _ _|refine Below.drew ?_|refine Below.alloc ?_ (by first|(simp; done)|(simp; omega)) _)
   ·have HBig:=Lib.hid (sX hnum (show ¬ 78<l.length by rw[Hll.out]; exact h78));have HOk:=Lib.hid (vI hnum (show ¬ 78<l.length by rw[Hll.out]; exact h78));have HDig:=Lib.hid (fun k hk=>AR hnum (k:=k) hk);have hd:decide ((78:Int)<(s.size:Int))=false:=decide_eq_false (by omega);have hs78:s.size≤78:=by omega
    clear hnum;go_wp2_with fail
    go_loopw [6] (fun x wr=>∃k a0 a1 a2 a3:Nat,k≤s.size∧x=.int .i64 k∧aZ a0 a1 a2 a3∧Hid (aA a0 a1 a2 a3=cM (l.take k))∧Mem w wr [(w.heap.size+1,a0,a1,a2,a3),(w.heap.size,0,0,0,0)]) (fun x _=>s.size-(intOf x).toNat)
    case atStart=>exact⟨0,0,0,0,0,Nat.zero_le _,rfl,hz,Lib.hid rfl,((Mem.nil w).new w.heap.size 0 0 0 0 27 rfl).new (w.heap.size+1) 0 0 0 0 27 (by simp)⟩
    case round =>
      obtain⟨k,a0,a1,a2,a3,hk,rfl,ha,ev,mm⟩:=hrel;have M:=Lib.hid mm;have r0:=(mm.2 (w.heap.size+1,a0,a1,a2,a3) (by simp)).2;have z0:=(mm.2 (w.heap.size,0,0,0,0) (by simp)).2;have la:=(mm.2 (w.heap.size+1,a0,a1,a2,a3) (by simp)).1;clear mm;obtain⟨c0,c1,c2,c3,cf⟩:=r0;obtain⟨y0,y1,y2,y3,yf⟩:=z0
      by_cases hlt:k<s.size
      ·have hl:k<l.length:=by rw[Hll.out]; exact hlt
       have hdg:=HDig.out k hl;obtain⟨d,hdd,ld,ed⟩:∃d:Nat,((s[k]'hlt).toNat:Int)-48=(d:Int)∧d≤9∧Hid (cM (l.take (k+1))=cM (l.take k)*10+d):=by
        refine⟨l[k].toNat-48,?_,by omega,Lib.hid (qV hl)⟩;rw[HG.out k hlt hl]; omega
       have b1:48≤(s[k]'hlt).toNat:=by rw[HG.out k hlt hl]; exact hdg.1
       have b2:(s[k]'hlt).toNat≤57:=by rw[HG.out k hlt hl]; exact hdg.2
       have okd:aZ d 0 0 0:=⟨by omega,by omega,by omega,by omega⟩;have w8:IntKind.u8.wrap (d:Int)=(d:Int):=by simp only[IntKind.wrap,IntKind.bits,IntKind.signed]; simp; omega
       have w64:IntKind.u64.wrap (d:Int)=(d:Int):=mJ _ (by omega);clear hdg;go_wp2_with fail;refine (refMul_calls a0 a1 a2 a3 10 0 0 0 ha ⟨by omega,by omega,by omega,by omega⟩ _).mono ?_
       rintro e w2 ⟨o,g1,g2,g3,p0,p1,p2,p3,rfl,hgo,hp,ep,hbl⟩
       have ep':=ep;rw[show aA 10 0 0 0=10 from rfl]at ep';obtain⟨rfl,rfl,rfl,lo⟩:g1=0∧g2=0∧g3=0∧o<10:=by
        have h1:=cE ha;unfold aA at ep' h1;omega
       have Hep:=Lib.hid (show aA p0 p1 p2 p3+115792089237316195423570985008687907853269984665640564039457584007913129639936*o=aA a0 a1 a2 a3*10 by
        rw[←ep']; unfold aA; omega)
       have M2:=Lib.hid (((M.out.on hbl).new w2.heap.size o 0 0 0 27 rfl).new (w2.heap.size+1) p0 p1 p2 p3 27 (by simp));clear hbl M c0 c1 c2 c3 cf la y0 y1 y2 y3 yf ep ep' hgo;go_wp2_with fail;generalize (w2.alloc (.cells #[.int .u64 o,.int .u64 0,.int .u64 0,.int .u64 0] 27)).alloc (.cells #[.int .u64 p0,.int .u64 p1,.int .u64 p2,.int .u64 p3] 27)=W2 at M2 ⊢;have HM:=Lib.hid (M2.out.drewN 1);have HS:=M2.out.drewN 1;clear M2;refine bM (fun wx=>Mem w wx [(w2.heap.size+1,p0,p1,p2,p3),(w2.heap.size,o,0,0,0),(w.heap.size+1,a0,a1,a2,a3),(w.heap.size,0,0,0,0)]) 13 (by kernel_rfl) ?_;refine aC (i:=0) (v:=.agg #[.int .u64 p0,.int .u64 p1,.int .u64 p2,.int .u64 p3]) rfl (by kernel_rfl) (by kernel_rfl) (by kernel_rfl) (by kernel_rfl) (fun _ _ _ h=>h) HS (Or.inl ⟨by kernel_rfl,fun wx hx => ?_⟩) ?_
       ·have kr:=(hx.2 (w2.heap.size+1,p0,p1,p2,p3) (List.Mem.head _)).2;have k0:=kr.c0; have k1:=kr.c1; have k2:=kr.c2; have k3:=kr.c3; have kf:=kr.fr;clear kr HS hx;go_simp
       simp only[Act.put,List.setIfInBounds_toArray,List.set_cons_zero,List.set_cons_succ];refine aC (i:=1) (v:=.string s) rfl (by kernel_rfl) (by kernel_rfl) (by kernel_rfl) (by kernel_rfl) (fun _ _ _ h=>h) HS (Or.inl ⟨by kernel_rfl,fun wx hx => ?_⟩) ?_
       ·clear hx HS;go_simp
       simp only[Act.put,List.setIfInBounds_toArray,List.set_cons_zero,List.set_cons_succ];refine aC (i:=2) (v:=.int .i64 k) rfl (by kernel_rfl) (by kernel_rfl) (by kernel_rfl) (by kernel_rfl) (fun _ _ _ h=>h) HS (Or.inl ⟨by kernel_rfl,fun wx hx => ?_⟩) ?_
       ·clear hx HS;go_simp
       simp only[Act.put,List.setIfInBounds_toArray,List.set_cons_zero,List.set_cons_succ];refine aC (i:=3) (v:=.int .u8 ((s[k]'hlt).toNat:Nat)) rfl (by kernel_rfl) (by kernel_rfl) (by kernel_rfl) (by kernel_rfl) (fun _ _ _ h=>h) HS (Or.inl ⟨by kernel_rfl,fun wx hx => ?_⟩) ?_
       ·clear hx HS;go_simp
       simp only[Act.put,List.setIfInBounds_toArray,List.set_cons_zero,List.set_cons_succ];refine aC (i:=4) (v:=.int .u8 d) rfl (by kernel_rfl) (by kernel_rfl) (by kernel_rfl) (by kernel_rfl) (fun _ _ _ h=>h) HS (Or.inl ⟨by kernel_rfl,fun wx hx => ?_⟩) ?_
       ·clear hx HS;go_simp
       simp only[Act.put,List.setIfInBounds_toArray,List.set_cons_zero,List.set_cons_succ];refine aC (i:=5) (v:=.int .u64 d) rfl (by kernel_rfl) (by kernel_rfl) (by kernel_rfl) (by kernel_rfl) (fun _ _ _ h=>h) HS (Or.inl ⟨by kernel_rfl,fun wx hx => ?_⟩) ?_
       ·clear hx HS;go_simp
       simp only[Act.put,List.setIfInBounds_toArray,List.set_cons_zero,List.set_cons_succ];refine aC (i:=6) (v:=.agg #[.int .u64 d,.int .u64 0,.int .u64 0,.int .u64 0]) rfl (by kernel_rfl) (by kernel_rfl) (by kernel_rfl) (by kernel_rfl) (fun _ _ _ h=>h) HS (Or.inl ⟨by kernel_rfl,fun wx hx => ?_⟩) ?_
       ·clear hx HS;go_simp
       simp only[Act.put,List.setIfInBounds_toArray,List.set_cons_zero,List.set_cons_succ];clear HS;refine cI (i:=7) (j:=11) (by kernel_rfl) rfl rfl (fun K hK => ?_) (fun K hK => ?_)
       ·go_simp;refine (refAdd_calls p0 p1 p2 p3 d 0 0 0 hp okd _).mono ?_
        rintro e w3 ⟨s0,s1,s2,s3,c,rfl,hs',hc,es,hbl⟩
        have HV:=Lib.hid (show aA s0 s1 s2 s3+115792089237316195423570985008687907853269984665640564039457584007913129639936*(c+o)=cM (l.take (k+1)) by
         have h1:=Hep.out; have h2:=ev.out; have h3:=ed.out;have h4:aA d 0 0 0=d:=by unfold aA; omega
         rw[h3,←h2,Nat.mul_add]; omega)
        have HT:=Lib.hid (iW l (k+1));have M3:=Lib.hid (HM.out.on hbl);have HS:=HM.out.on hbl;clear HM hbl es;refine hK.out _ _ (Or.inr HS) (fun _ => ?_);clear hK K;refine aC (i:=8) (v:=.tuple #[.agg #[.int .u64 s0,.int .u64 s1,.int .u64 s2,.int .u64 s3],.int .u64 c]) rfl (by kernel_rfl) (by kernel_rfl) (by kernel_rfl) (by kernel_rfl) (fun _ _ _ h=>h) HS (Or.inl ⟨by kernel_rfl,fun wx hx => ?_⟩) ?_
        ·clear hx HS;go_simp
        simp only[Act.put,List.setIfInBounds_toArray,List.set_cons_zero,List.set_cons_succ];refine aC (i:=9) (v:=.agg #[.int .u64 s0,.int .u64 s1,.int .u64 s2,.int .u64 s3]) rfl (by kernel_rfl) (by kernel_rfl) (by kernel_rfl) (by kernel_rfl) (fun _ _ _ h=>h) HS (Or.inl ⟨by kernel_rfl,fun wx hx => ?_⟩) ?_
        ·clear hx HS;go_simp
        simp only[Act.put,List.setIfInBounds_toArray,List.set_cons_zero,List.set_cons_succ];refine aC (i:=10) (v:=.int .u64 c) rfl (by kernel_rfl) (by kernel_rfl) (by kernel_rfl) (by kernel_rfl) (fun _ _ _ h=>h) HS (Or.inl ⟨by kernel_rfl,fun wx hx => ?_⟩) ?_
        ·clear hx HS;go_simp
        simp only[Act.put,List.setIfInBounds_toArray,List.set_cons_zero,List.set_cons_succ];clear HS;refine aD (i:=11) (by kernel_rfl) rfl (fun K hK => ?_);go_simp;have M4:=Lib.hid (M3.out.new w3.heap.size 0 0 0 0 27 rfl);refine hK.out _ _ (Or.inr (M4.out.sub (fun r h=>List.mem_cons_of_mem _ h))) (fun _ => ?_);clear hK K;refine aD (i:=12) (by kernel_rfl) rfl (fun K hK => ?_);go_simp;have M5:=Lib.hid (M3.out.new w3.heap.size s0 s1 s2 s3 27 rfl);refine hK.out _ _ (Or.inr (M5.out.sub (fun r h=>List.mem_cons_of_mem _ h))) (fun _ => ?_);clear hK K M4;refine aD (i:=13) (by kernel_rfl) rfl (fun K hK => ?_);go_simp;refine hK.out _ _ (Or.inl rfl) (fun _ => ?_);clear hK K;refine aU (by kernel_rfl) ?_;have r3:=M3.out.2 (w.heap.size,0,0,0,0) (by simp);have r4:=M3.out.2 (w.heap.size+1,a0,a1,a2,a3) (by simp);have r6:=(M3.out.2 (w2.heap.size,o,0,0,0) (by simp)).2.c0;have l6:=(M3.out.2 (w2.heap.size,o,0,0,0) (by simp)).1;obtain⟨lz,y0,y1,y2,y3,yf⟩:=r3;obtain⟨la,c0,c1,c2,c3,cf⟩:=r4
        rcases Nat.eq_zero_or_pos o with rfl|h0
        ·rcases (show c=0∨c=1 by omega)with rfl|rfl
         ·have HN:=Lib.hid (show aA s0 s1 s2 s3=cM (l.take (k+1)) by have:=HV.out; omega);have M6:=Lib.hid (((M3.out.sub (rs':=[(w.heap.size+1,a0,a1,a2,a3),(w.heap.size,0,0,0,0)]) (fun r h=>List.mem_cons_of_mem _ (List.mem_cons_of_mem _ h))).put s0 s1 s2 s3 (by omega) (by simp)).on ((Below.refl _ _).alloc (Nat.le_refl _) (.cells #[.int .u64 s0,.int .u64 s1,.int .u64 s2,.int .u64 s3] 27)));go_wp2_with fail
          go_roundw
          case rel=>exact⟨k+1,s0,s1,s2,s3,by omega,by go_num,hs',HN,M6.out⟩
          case measure=>first|(simp[intOf]; done)|(simp[intOf]; omega)
         ·have HF:=Lib.hid (HBig.out (by have h1:=HV.out; have h2:=HT.out; omega));go_wp2_with fail;refine bodyPost_ret (v:=.tuple #[.agg #[.int .u64 0,.int .u64 0,.int .u64 0,.int .u64 0],.int .i64 4]) (by simp[results,results78,go_sem, *]) rfl ?_;exact⟨0,0,0,0,4,rfl,hz,HF.out.symm,(aM M3.out.1 (by omega) _ _ _ _).alloc (by simp only[World.size_setCell,set4]; omega) _⟩
        ·have t1:((o:Int) != 0)=true:=by simp; omega
         have HF:=Lib.hid (HBig.out (by have h1:=HV.out; have h2:=HT.out; omega));clear h0;go_wp2_with fail;refine bodyPost_ret (v:=.tuple #[.agg #[.int .u64 0,.int .u64 0,.int .u64 0,.int .u64 0],.int .i64 4]) (by simp[results,results78,go_sem, *]) rfl ?_;exact⟨0,0,0,0,4,rfl,hz,HF.out.symm,(aM M3.out.1 (by omega) _ _ _ _).alloc (by simp only[World.size_setCell,set4]; omega) _⟩
       ·go_simp;have M3:=Lib.hid (HM.out.new W2.heap.size 0 0 0 0 27 rfl);have lW:=(HM.out.2 (w.heap.size+1,a0,a1,a2,a3) (by simp)).1;have lW2:=(HM.out.2 (w2.heap.size+1,p0,p1,p2,p3) (by simp)).1;have gW:w.heap.size+1<W2.heap.size:=lW;have gW2:w2.heap.size+1<W2.heap.size:=lW2;clear HM lW lW2;refine hK.out _ _ (Or.inr (M3.out.sub (fun r h=>List.mem_cons_of_mem _ h))) (fun _ => ?_);clear hK K;refine aD (i:=7) (by kernel_rfl) rfl (fun K hK => ?_);go_simp;refine (refAdd_calls p0 p1 p2 p3 d 0 0 0 hp okd _).mono ?_
        rintro e w3 ⟨s0,s1,s2,s3,c,rfl,hs',hc,es,hbl⟩
        have HV:=Lib.hid (show aA s0 s1 s2 s3+115792089237316195423570985008687907853269984665640564039457584007913129639936*(c+o)=cM (l.take (k+1)) by
         have h1:=Hep.out; have h2:=ev.out; have h3:=ed.out;have h4:aA d 0 0 0=d:=by unfold aA; omega
         rw[h3,←h2,Nat.mul_add]; omega)
        have HT:=Lib.hid (iW l (k+1));have M4:=Lib.hid (M3.out.on hbl);have HS:=(M3.out.on hbl).sub (rs':=[(w2.heap.size+1,p0,p1,p2,p3),(w2.heap.size,o,0,0,0),(w.heap.size+1,a0,a1,a2,a3),(w.heap.size,0,0,0,0)]) (fun r h=>List.mem_cons_of_mem _ h);clear M3 hbl es;refine hK.out _ _ (Or.inr HS) (fun _ => ?_);clear hK K;refine aC (i:=8) (v:=.tuple #[.agg #[.int .u64 s0,.int .u64 s1,.int .u64 s2,.int .u64 s3],.int .u64 c]) rfl (by kernel_rfl) (by kernel_rfl) (by kernel_rfl) (by kernel_rfl) (fun _ _ _ h=>h) HS (Or.inl ⟨by kernel_rfl,fun wx hx => ?_⟩) ?_
        ·clear hx HS;go_simp
        simp only[Act.put,List.setIfInBounds_toArray,List.set_cons_zero,List.set_cons_succ];refine aC (i:=9) (v:=.agg #[.int .u64 s0,.int .u64 s1,.int .u64 s2,.int .u64 s3]) rfl (by kernel_rfl) (by kernel_rfl) (by kernel_rfl) (by kernel_rfl) (fun _ _ _ h=>h) HS (Or.inl ⟨by kernel_rfl,fun wx hx => ?_⟩) ?_
        ·clear hx HS;go_simp
        simp only[Act.put,List.setIfInBounds_toArray,List.set_cons_zero,List.set_cons_succ];refine aC (i:=10) (v:=.int .u64 c) rfl (by kernel_rfl) (by kernel_rfl) (by kernel_rfl) (by kernel_rfl) (fun _ _ _ h=>h) HS (Or.inl ⟨by kernel_rfl,fun wx hx => ?_⟩) ?_
        ·clear hx HS;go_simp
        simp only[Act.put,List.setIfInBounds_toArray,List.set_cons_zero,List.set_cons_succ];clear HS;have r5:=M4.out.2 (W2.heap.size,0,0,0,0) (by simp);obtain⟨lb,z0,z1,z2,z3,zf⟩:=r5;refine aD (i:=12) (by kernel_rfl) rfl (fun K hK => ?_);go_simp;have M5:=Lib.hid (M4.out.put s0 s1 s2 s3 (by omega) (by simp; omega));refine hK.out _ _ (Or.inr (M5.out.sub (fun r h=>List.mem_cons_of_mem _ h))) (fun _ => ?_);clear hK K z0 z1 z2 z3 zf lb;refine aD (i:=13) (by kernel_rfl) rfl (fun K hK => ?_);go_simp;refine hK.out _ _ (Or.inl rfl) (fun _ => ?_);clear hK K;refine aU (by kernel_rfl) ?_;have r3:=M4.out.2 (w.heap.size,0,0,0,0) (by simp);have r4:=M4.out.2 (w.heap.size+1,a0,a1,a2,a3) (by simp);have r5:=M4.out.2 (W2.heap.size,0,0,0,0) (by simp);obtain⟨lz,y0,y1,y2,y3,yf⟩:=r3;obtain⟨la,c0,c1,c2,c3,cf⟩:=r4;obtain⟨lb,z0,z1,z2,z3,zf⟩:=r5;have r6:=(M4.out.2 (w2.heap.size,o,0,0,0) (by simp)).2.c0
        rcases Nat.eq_zero_or_pos o with rfl|h0
        ·rcases (show c=0∨c=1 by omega)with rfl|rfl
         ·have HN:=Lib.hid (show aA s0 s1 s2 s3=cM (l.take (k+1)) by have:=HV.out; omega);have M6:=Lib.hid ((M5.out.sub (rs':=[(w.heap.size+1,a0,a1,a2,a3),(w.heap.size,0,0,0,0)]) (fun r h=>List.mem_cons_of_mem _ (List.mem_cons_of_mem _ (List.mem_cons_of_mem _ h)))).put s0 s1 s2 s3 (by omega) (by simp));go_wp2_with fail
          go_roundw
          case rel=>exact⟨k+1,s0,s1,s2,s3,by omega,by go_num,hs',HN,M6.out⟩
          case measure=>first|(simp[intOf]; done)|(simp[intOf]; omega)
         ·have HF:=Lib.hid (HBig.out (by have h1:=HV.out; have h2:=HT.out; omega));go_wp2_with fail;refine bodyPost_ret (v:=.tuple #[.agg #[.int .u64 0,.int .u64 0,.int .u64 0,.int .u64 0],.int .i64 4]) (by simp[results,results78,go_sem, *]) rfl ?_;exact⟨0,0,0,0,4,rfl,hz,HF.out.symm,aM M5.out.1 (by omega) _ _ _ _⟩
        ·have t1:((o:Int) != 0)=true:=by simp; omega
         have HF:=Lib.hid (HBig.out (by have h1:=HV.out; have h2:=HT.out; omega));clear h0;go_wp2_with fail;refine bodyPost_ret (v:=.tuple #[.agg #[.int .u64 0,.int .u64 0,.int .u64 0,.int .u64 0],.int .i64 4]) (by simp[results,results78,go_sem, *]) rfl ?_;exact⟨0,0,0,0,4,rfl,hz,HF.out.symm,aM M5.out.1 (by omega) _ _ _ _⟩
      ·obtain rfl:k=s.size:=by omega
       have HF:=Lib.hid (show (aA a0 a1 a2 a3,0)=dS l by
        have e1:cM (l.take s.size)=cM l:=by rw[List.take_of_length_le (by rw[Hll.out]; exact Nat.le_refl _)]
        have e2:=ev.out.trans e1;rw[HOk.out (by rw[←e2]; exact cE ha),e2])
       clear ev;go_wp2_with fail;refine bodyPost_ret (v:=.tuple #[.agg #[.int .u64 a0,.int .u64 a1,.int .u64 a2,.int .u64 a3],.int .i64 0]) (by simp[results,results78,go_sem, *]) rfl ?_;exact⟨a0,a1,a2,a3,0,rfl,ha,HF.out,aM M.out.1 (by omega) _ _ _ _⟩
theorem refParse_calls (s:ByteArray) (hs:s.size≤maxLen) (w:World) :
  Calls prog 78 #[.string s] w (gU (fun n c=>(n,c)=dS s.data.toList) w):=by
 rcases Nat.eq_zero_or_pos s.size with h|h
 ·exact refParse_empty s h w
 ·by_cases h1:1<s.size
  ·by_cases h0:(s[0]'(by omega)).toNat=48
   ·exact refParse_lead s hs h1 h0 w
   ·exact refParse_more s hs h1 h0 w
  ·exact refParse_one s hs (by omega) w
end Go.Proofs.YtpjlhhpjpnacmaaGreat.R1
namespace Go.Proofs.YtpjlhhpjpnacmaaGreat.Ex
open Go.Proofs.Tryz
open Go.RowKit
def Jw (b:Bool):gP:=Ut (fun _=>.one (.im (.bool b))) fun x=>[x<aO,decide (x<RM)=b]
theorem Ea (b:Bool):∀cs pre r,Jw b cs=some (pre,r)→aS pre→∀(args:List Value) (w:World),cH w cs args→bC prog 37 r args w :=
 TK (op:=fun _=>.one (.im (.bool b))) (c:=fun x=>[x<aO,decide (x<RM)=b]) fun x h w=>by
  have h':=Gw x ⟨h.1,trivial⟩ w;unfold Qo at h';rw[h.2.1]at h';exact h'
def CI:Tab:=((((T0.add 110 (Qn fA yR)).add 73 (Qn dQ yR)).add 69 (Qn aI yR)).add 39 (Ut (fun x=>.many [.fl [.q (WG x)],.im (.int .i64 0)]) fun x=>[x<RM,x≠0]))
theorem xK:TabOk prog (CI):=(((((dV _).ad func110 (FH Gx)).ad func73 (FH Gt)).ad func69 (FH Gu)).ad func39 (TK Gv))
theorem Ge (x y:Nat):kW prog CI (qG prog) (fun _=>true) f91 40 [.v (.fl [.q x]),.v (.fl [.q y])]=some ([x<RM,y<RM],.one (.fl [.q (fA x y)])):=by kernel_rfl
theorem Gc (x y:Nat):kW prog CI (qG prog) (fun _=>true) f40 40 [.v (.fl [.q x]),.v (.fl [.q y])]=some ([x<RM,y<RM],.one (.fl [.q (dQ x y)])):=by kernel_rfl
theorem Gd (x y:Nat):kW prog CI (qG prog) (fun _=>true) f38 40 [.v (.fl [.q x]),.v (.fl [.q y])]=some ([x<RM,y<RM],.one (.fl [.q (aI x y)])):=by kernel_rfl
def rK:Tab:=(((CI.add 91 (Ai fA yR)).add 40 (Ai dQ yR)).add 38 (Ai aI yR))
theorem nM:TabOk prog (rK):=(((xK.ad func91 (nQ (op:=fA) (c:=yR) fun x y h args w ha=>cF aQ xK (aT _) func91 (Ge x y) h ha)).ad func40 (nQ (op:=dQ) (c:=yR) fun x y h args w ha=>cF aQ xK (aT _) func40 (Gc x y) h ha)).ad func38 (nQ (op:=aI) (c:=yR) fun x y h args w ha=>cF aQ xK (aT _) func38 (Gd x y) h ha))
def WA (b:Bool):Tab:=(rK.add 37 (Jw b))
theorem IX (b:Bool):TabOk prog (WA b):=(nM.ad func37 (Ea b))
theorem Ny (p:NP):bR prog (qG prog) (fun n=>⟨fun _=>WA true,fun _=>true,fun _=>none⟩) f53 60 [.v (.fl [.q p.1,.q p.2])]=some ([p.1<aO,decide (p.1<RM)=true,p.2<aO,decide (p.2<RM)=true,p.1<RM,p.1<RM,p.2<RM,p.2<RM,168700<RM,aI p.1 p.1<RM,aI 168700 (aI p.1 p.1)<RM,aI p.2 p.2<RM,aI p.1 p.1<RM,aI p.2 p.2<RM,168696<RM,aI (aI p.1 p.1) (aI p.2 p.2)<RM,1<RM,aI 168696 (aI (aI p.1 p.1) (aI p.2 p.2))<RM,aB [At.q (fA (aI 168700 (aI p.1 p.1)) (aI p.2 p.2))]=aB [At.q (fA 1 (aI 168696 (aI (aI p.1 p.1) (aI p.2 p.2))))]],.one (.im (.bool true))):=by kernel_rfl
theorem Nz (p:NP):bR prog (qG prog) (fun n=>⟨fun _=>WA true,fun _=>false,fun _=>none⟩) f53 60 [.v (.fl [.q p.1,.q p.2])]=some ([p.1<aO,decide (p.1<RM)=true,p.2<aO,decide (p.2<RM)=true,p.1<RM,p.1<RM,p.2<RM,p.2<RM,168700<RM,aI p.1 p.1<RM,aI 168700 (aI p.1 p.1)<RM,aI p.2 p.2<RM,aI p.1 p.1<RM,aI p.2 p.2<RM,168696<RM,aI (aI p.1 p.1) (aI p.2 p.2)<RM,1<RM,aI 168696 (aI (aI p.1 p.1) (aI p.2 p.2))<RM,aB [At.q (fA (aI 168700 (aI p.1 p.1)) (aI p.2 p.2))]≠aB [At.q (fA 1 (aI 168696 (aI (aI p.1 p.1) (aI p.2 p.2))))]],.one (.im (.bool false))):=by kernel_rfl
theorem Oa (p:NP):bR prog (qG prog) (fun n=>⟨fun s=>WA (Nat.beq s 7),fun _=>true,fun _=>none⟩) f53 60 [.v (.fl [.q p.1,.q p.2])]=some ([p.1<aO,decide (p.1<RM)=true,p.2<aO,decide (p.2<RM)=false],.one (.im (.bool false))):=by kernel_rfl
theorem Ob (p:NP):bR prog (qG prog) (fun n=>⟨fun s=>WA false,fun _=>true,fun _=>none⟩) f53 60 [.v (.fl [.q p.1,.q p.2])]=some ([p.1<aO,decide (p.1<RM)=false],.one (.im (.bool false))):=by kernel_rfl
theorem LE (p:NP) (hp:w2 p) (args:List Value) (w:World) (ha:cH w [.v (.fl (q2 p))] args):bC prog 53 (.one (.im (.bool (oB p.1 p.2)))) args w:=by
 by_cases h1:p.1<RM
 ·by_cases h2:p.2<RM
  ·by_cases h:IT p.1 p.2
   ·rw[IU ⟨⟨h1,h2⟩,h⟩];exact aG aQ (fun _ _=>IX _) (aT _) func53 (Ny p) ⟨hp.1,decide_eq_true h1,hp.2,decide_eq_true h2,h1,h1,h2,h2,by decide,aF _ _,aF _ _,aF _ _,aF _ _,aF _ _,by decide,aF _ _,dG,aF _ _,by unfold IT at h; rw[h],trivial⟩ ha
   ·rw[show oB p.1 p.2=false from decide_eq_false fun q=>h q.2];exact aG aQ (fun _ _=>IX _) (aT _) func53 (Nz p) ⟨hp.1,decide_eq_true h1,hp.2,decide_eq_true h2,h1,h1,h2,h2,by decide,aF _ _,aF _ _,aF _ _,aF _ _,aF _ _,by decide,aF _ _,dG,aF _ _,fun e=>h (Dt (cL _ _) (cL _ _) e),trivial⟩ ha
  ·rw[show oB p.1 p.2=false from decide_eq_false fun q=>h2 q.1.2];exact aG aQ (fun _ _=>IX _) (aT _) func53 (Oa p) ⟨hp.1,decide_eq_true h1,hp.2,decide_eq_false h2,trivial⟩ ha
 ·rw[show oB p.1 p.2=false from decide_eq_false fun q=>h1 q.1.1];exact aG aQ (fun _ _=>IX _) (aT _) func53 (Ob p) ⟨hp.1,decide_eq_false h1,trivial⟩ ha
def Qk (b:Bool):gP:=g1 WF fun p=>([p.1<aO,p.2<aO,oB p.1 p.2=b],.one (.im (.bool b)))
theorem Ry (b:Bool):∀cs pre r,Qk b cs=some (pre,r)→aS pre→∀(args:List Value) (w:World),cH w cs args→bC prog 53 r args w :=
 hZ (op:=fun p=>([p.1<aO,p.2<aO,oB p.1 p.2=b],.one (.im (.bool b)))) lF fun p h args w ha=>by
  have h':=LE p ⟨h.1,h.2.1⟩ args w ha;rw[h.2.2.1]at h';exact h'
def Qc (p q:NJ):NJ :=
 let a:=aI p.2.2 q.2.2
 let b:=aI a a
 let c:=aI p.1 q.1
 let d:=aI p.2.1 q.2.1
 let e:=aI 168696 (aI c d)
 let f:=dQ b e
 let g:=fA b e
 let x:=dQ (dQ (aI (fA p.1 p.2.1) (fA q.1 q.2.1)) c) d
 let y:=dQ d (aI 168700 c)
 (aI a (aI f x),aI a (aI g y),aI f g)
theorem ZK (p q:NJ):Qc p q=lR p q:=by
 refine Prod.ext ?_ (Prod.ext ?_ rfl)
 ·exact (vT _ _ _).symm
 ·exact (vT _ _ _).symm
theorem XR (p q:NJ):bR prog (qG prog) (fun n=>⟨fun _=>rK,fun _=>true,fun _=>none⟩) f94 60 [.v (.fl (q3 p)),.v (.fl (q3 q))]=some ([p.2.2<RM,q.2.2<RM,(aI p.2.2 q.2.2)<RM,(aI p.2.2 q.2.2)<RM,p.1<RM,q.1<RM,p.2.1<RM,q.2.1<RM,(aI p.1 q.1)<RM,(aI p.2.1 q.2.1)<RM,168696<RM,(aI (aI p.1 q.1) (aI p.2.1 q.2.1))<RM,(aI (aI p.2.2 q.2.2) (aI p.2.2 q.2.2))<RM,(aI 168696 (aI (aI p.1 q.1) (aI p.2.1 q.2.1)))<RM,(aI (aI p.2.2 q.2.2) (aI p.2.2 q.2.2))<RM,(aI 168696 (aI (aI p.1 q.1) (aI p.2.1 q.2.1)))<RM,p.1<RM,p.2.1<RM,q.1<RM,q.2.1<RM,(fA p.1 p.2.1)<RM,(fA q.1 q.2.1)<RM,(aI (fA p.1 p.2.1) (fA q.1 q.2.1))<RM,(aI p.1 q.1)<RM,(dQ (aI (fA p.1 p.2.1) (fA q.1 q.2.1)) (aI p.1 q.1))<RM,(aI p.2.1 q.2.1)<RM,168700<RM,(aI p.1 q.1)<RM,(aI p.2.1 q.2.1)<RM,(aI 168700 (aI p.1 q.1))<RM,(dQ (aI (aI p.2.2 q.2.2) (aI p.2.2 q.2.2)) (aI 168696 (aI (aI p.1 q.1) (aI p.2.1 q.2.1))))<RM,(dQ (dQ (aI (fA p.1 p.2.1) (fA q.1 q.2.1)) (aI p.1 q.1)) (aI p.2.1 q.2.1))<RM,(aI p.2.2 q.2.2)<RM,(aI (dQ (aI (aI p.2.2 q.2.2) (aI p.2.2 q.2.2)) (aI 168696 (aI (aI p.1 q.1) (aI p.2.1 q.2.1)))) (dQ (dQ (aI (fA p.1 p.2.1) (fA q.1 q.2.1)) (aI p.1 q.1)) (aI p.2.1 q.2.1)))<RM,(fA (aI (aI p.2.2 q.2.2) (aI p.2.2 q.2.2)) (aI 168696 (aI (aI p.1 q.1) (aI p.2.1 q.2.1))))<RM,(dQ (aI p.2.1 q.2.1) (aI 168700 (aI p.1 q.1)))<RM,(aI p.2.2 q.2.2)<RM,(aI (fA (aI (aI p.2.2 q.2.2) (aI p.2.2 q.2.2)) (aI 168696 (aI (aI p.1 q.1) (aI p.2.1 q.2.1)))) (dQ (aI p.2.1 q.2.1) (aI 168700 (aI p.1 q.1))))<RM,(dQ (aI (aI p.2.2 q.2.2) (aI p.2.2 q.2.2)) (aI 168696 (aI (aI p.1 q.1) (aI p.2.1 q.2.1))))<RM,(fA (aI (aI p.2.2 q.2.2) (aI p.2.2 q.2.2)) (aI 168696 (aI (aI p.1 q.1) (aI p.2.1 q.2.1))))<RM],.one (.fl (q3 (Qc p q)))):=by kernel_rfl
theorem QG (p:NP):bR prog (qG prog) (fun n=>⟨fun _=>rK,fun _=>true,fun _=>none⟩) f92 60 [.v (.fl [.q p.1,.q p.2])]=some ([],.one (.fl [.q p.1,.q p.2,.f ⟨1,by decide⟩])):=by kernel_rfl
theorem QP  : bR prog (qG prog) (fun n=>⟨fun _=>rK,fun _=>true,fun _=>none⟩) f55 60 []=some ([],.one (.fl [.f ⟨0,cN⟩,.f ⟨1,by decide⟩])):=by kernel_rfl
theorem XQ (p:NJ):bR prog (qG prog) (fun n=>⟨fun _=>rK,fun _=>true,fun _=>none⟩) f96 60 [.v (.fl (q3 p))]=some ([p.2.2<RM,p.2.2≠0,p.1<RM,WG p.2.2<RM,p.2.1<RM,WG p.2.2<RM],.one (.fl [.q (tld p).1,.q (tld p).2])):=by kernel_rfl
theorem DL (w:World):bC prog 55 (.one (.fl [.q 0,.q 1])) [] w:=aG aQ (fun _ _=>nM) (aT _) func55 QP trivial (args:=[]) trivial
def VZ:Tab:=((((rK.add 94 (g2 OR OR fun p q=>(c3 p++c3 q,.one (.fl (q3 (lR p q)))))).add 92 (g1 WF fun p=>([],.one (.fl (q3 (p.1,p.2,1)))))).add 55 (g0 (.one (.fl [.q 0,.q 1])))).add 96 (g1 OR fun p=>(c3 p++[p.2.2≠0],.one (.fl [.q (tld p).1,.q (tld p).2]))))
theorem IW:TabOk prog (VZ):=((((nM.ad func94 (vS (op:=fun p q=>(c3 p++c3 q,.one (.fl (q3 (lR p q))))) iY iY fun p q h args w ha=>by
  rw[←ZK];exact aG aQ (fun _ _=>nM) (aT _) func94 (XR p q) ⟨h.2.2.1,h.2.2.2.2.2.1,(aF _ _),(aF _ _),h.1,h.2.2.2.1,h.2.1,h.2.2.2.2.1,(aF _ _),(aF _ _),(by decide),(aF _ _),(aF _ _),(aF _ _),(aF _ _),(aF _ _),h.1,h.2.1,h.2.2.2.1,h.2.2.2.2.1,(cL _ _),(cL _ _),(aF _ _),(aF _ _),(bK _ _),(aF _ _),(by decide),(aF _ _),(aF _ _),(aF _ _),(bK _ _),(bK _ _),(aF _ _),(aF _ _),(cL _ _),(bK _ _),(aF _ _),(aF _ _),(bK _ _),(cL _ _),trivial⟩ ha)).ad func92 (hZ (op:=fun p=>([],.one (.fl (q3 (p.1,p.2,1))))) lF fun p h args w ha=>aG aQ (fun _ _=>nM) (aT _) func92 (QG p) trivial ha)).ad func55 (nA DL)).ad func96 (hZ (op:=fun p=>(c3 p++[p.2.2≠0],.one (.fl [.q (tld p).1,.q (tld p).2]))) iY fun p h args w ha=>aG aQ (fun _ _=>nM) (aT _) func96 (XQ p) ⟨h.2.2.1,h.2.2.2.1,h.1,sP _,h.2.1,sP _,trivial⟩ ha))
def MP (L k:Nat):Value:=if k<L then iI (L-1-k)else .int .i64 (-1)
theorem Qb {L:Nat} (h:L≤256):aW .sub .i64 (Int.ofNat L) 1=some (MP L 0):=by
 unfold MP;cases L with
 | zero=>rfl
 | succ n =>
  rw[if_pos (by omega)];exact tE (k:=1) (i:=n+1) (by omega) (by omega)
theorem Dj {L k:Nat} (h:L≤256) (hk:k<L):aW .sub .i64 (Int.ofNat (L-1-k)) 1=some (MP L (k+1)):=by
 unfold MP
 by_cases e:k+1<L
 ·rw[if_pos e,←Nat.sub_sub (L-1) k 1];exact tE (k:=1) (by omega) (by omega)
 ·rw[if_neg e,show L-1-k=0 by omega];rfl
theorem Dk (n:Nat):aW .geq .i64 (Int.ofNat n) 0=some (.bool true):=by
 show some (Value.bool (decide ((0:Int)≤Int.ofNat n)))=_;rw[decide_eq_true (show (0:Int)≤Int.ofNat n from Int.natCast_nonneg n)]
theorem Dl (k:IntKind) (n:Nat):aW .eql k (Int.ofNat n) 1=some (.bool (decide (n=1))):=by
 show some (Value.bool ((n:Int)==1))=_
 by_cases h:n=1
 ·subst h; rfl
 ·rw[decide_eq_false h,beq_eq_false_iff_ne.2 (by omega)]
def rM (p:NJ) (n L:Nat):Nat→NJ
 | 0=>(0,1,1)
 | k+1=>if cS (wv n) (L-1-k)=1 then lR (lR (rM p n L k) (rM p n L k)) p else lR (rM p n L k) (rM p n L k)
theorem Gb (p:NJ) (n L:Nat):∀k,MH (rM p n L k)
 | 0=>⟨dJ,dG,dG⟩
 | k+1=>by
  unfold rM;split
  ·exact⟨aF _ _,aF _ _,aF _ _⟩
  ·exact⟨aF _ _,aF _ _,aF _ _⟩
theorem IF {a:NJ} {P:JP} (h:JRep a P) (n:Nat):∀k,k≤cK n→JRep (rM a n (cK n) k) (kQ.grp.ns (wv n/2^(cK n-k)) P)
 | 0,_=>by
  rw[Nat.sub_zero,Nat.div_eq_of_lt (oX n).1];exact FA
 | k+1,hk=>by
  have ih:=IF h n k (by omega);have e:wv n/2^(cK n-k)=wv n/2^(cK n-(k+1))/2:=by
   rw[show cK n-k=(cK n-(k+1))+1 by omega,Nat.pow_add,←Nat.div_div_eq_div_mul]
  have e2:cS (wv n) (cK n-1-k)=wv n/2^(cK n-(k+1))%2:=by
   unfold cS;rw[show cK n-1-k=cK n-(k+1) by omega]
  rw[e]at ih;generalize wv n/2^(cK n-(k+1))=y at ih e2 ⊢;have h2:=ih.pl ih;rw[←kQ.grp.ns_add]at h2
  by_cases hb:cS (wv n) (cK n-1-k)=1
  ·rw[show rM a n (cK n) (k+1)=lR (lR (rM a n (cK n) k) (rM a n (cK n) k)) a from if_pos hb];rw[e2]at hb;rw[show y=y/2+y/2+1 by omega];have h3:=h2.pl h;exact h3
  ·rw[show rM a n (cK n) (k+1)=lR (rM a n (cK n) k) (rM a n (cK n) k)from if_neg hb];rw[e2]at hb;rw[show y=y/2+y/2 by omega];exact h2
def Cx (p:NP) (n:Nat):NJ:=rM (p.1,p.2,1) n (cK n) (cK n)
theorem XN {p:NP} {P:JP} (h:JRep (p.1,p.2,1) P) (n:Nat):JRep (Cx p n) (kQ.grp.ns (wv n) P):=by
 have h1:=IF h n (cK n) (Nat.le_refl _);rw[Nat.sub_self,Nat.pow_zero,Nat.div_one]at h1;exact h1
def GS:Tab:=((VZ.add 93 NC).add 95 Jx)
theorem YV:TabOk prog GS:=((IW.ad func93 XU).ad func95 XZ)
def Cy (num:Nat→Option Value) (_:Nat):Cfg:=⟨fun _=>GS,fun _=>true,num⟩
def gC:Code:=(f54.body).getD .skip
def wY:Code:=By (By (cB (cA (cB (cB (cB gC))))))
theorem XP:gC=.seq (cA gC) (.seq (cA (cB gC)) (.seq (cA (cB (cB gC))) (.seq (.seq (cA (cA (cB (cB (cB gC))))) (.block 0 (.loop wY))) (cB (cB (cB (cB gC))))))):=by kernel_rfl
def Za:List At:=[.f ⟨0,cN⟩,.f ⟨0,cN⟩]
def Ui (p:NP) (n:Nat):List Fact:=[.slot 2 (.pt 2 0),.row 2 true (q2 p),.slot 3 (.pt 3 0),.row 3 true [.q n],.slot 4 (.pt 4 0),.row 4 true Za]
def Uh (p:NP) (n:Nat) (s:NJ):List Fact:=Ui p n++[.slot 5 (.pt 5 0),.row 5 true (q3 s)]
def Ug (p:NP) (n:Nat) (s:NJ):List Fact:=Uh p n s++[.slot 6 (.pt 6 0),.row 6 true (q3 (p.1,p.2,1))]
def zL (p:NP) (n:Nat) (s:NJ) (v:Value):List Fact:=Ug p n s++[.slot 7 (.im v)]
theorem Nu (p:NP) (n:Nat):bJ prog (qG prog) f54.ntmps (Cy fun _=>none) 60 (cA gC) (iO 0 [.v (.fl (q2 p)),.v (.fl [.q n])]) (Ui p n)=some ([],.nrm,Ui p n):=by kernel_rfl
theorem Nt (p:NP) (n:Nat):bJ prog (qG prog) f54.ntmps (Cy fun _=>none) 60 (cA (cB gC)) (Ui p n) (Uh p n (0,1,1))=some ([],.nrm,Uh p n (0,1,1)):=by kernel_rfl
theorem Nr (p:NP) (n:Nat) (s:NJ):bJ prog (qG prog) f54.ntmps (Cy fun _=>none) 60 (cA (cB (cB gC))) (Uh p n s) (Ug p n s)=some ([],.nrm,Ug p n s):=by kernel_rfl
theorem Nq (p:NP) (n:Nat) (s:NJ) (v:Value):bJ prog (qG prog) f54.ntmps (Cy (assoc [(14,v)])) 60 (cA (cA (cB (cB (cB gC))))) (Ug p n s) (zL p n s v)=some ([aW .sub .i64 (Int.ofNat (cK n)) 1=some v],.nrm,zL p n s v):=by kernel_rfl
theorem Fy (p:NP) (s:NJ) (n j:Nat) (v:Value):bJ prog (qG prog) f54.ntmps (Cy (assoc [(16,.bool true),(25,.bool true),(18,v)])) 60 wY (zL p n s (iI j)) (zL p n (lR (lR s s) (p.1,p.2,1)) v)=some ([aW .geq .i64 (Int.ofNat j) 0=some (.bool true),s.1<RM,s.2.1<RM,s.2.2<RM,s.1<RM,s.2.1<RM,s.2.2<RM,j<256,aW .eql .i64 (Int.ofNat (cS (wv n) j)) 1=some (.bool true),(lR s s).1<RM,(lR s s).2.1<RM,(lR s s).2.2<RM,p.1<RM,p.2<RM,1<RM,aW .sub .i64 (Int.ofNat j) 1=some v],.nrm,zL p n (lR (lR s s) (p.1,p.2,1)) v):=by kernel_rfl
theorem Fz (p:NP) (s:NJ) (n j:Nat) (v:Value):bJ prog (qG prog) f54.ntmps (Cy (assoc [(16,.bool true),(25,.bool false),(18,v)])) 60 wY (zL p n s (iI j)) (zL p n (lR s s) v)=some ([aW .geq .i64 (Int.ofNat j) 0=some (.bool true),s.1<RM,s.2.1<RM,s.2.2<RM,s.1<RM,s.2.1<RM,s.2.2<RM,j<256,aW .eql .i64 (Int.ofNat (cS (wv n) j)) 1=some (.bool false),aW .sub .i64 (Int.ofNat j) 1=some v],.nrm,zL p n (lR s s) v):=by kernel_rfl
theorem Ga (p:NP) (s:NJ) (n:Nat):bJ prog (qG prog) f54.ntmps (Cy fun _=>none) 60 wY (zL p n s (.int .i64 (-1))) (zL p n s (.int .i64 (-1)))=some ([],.ex 0,zL p n s (.int .i64 (-1))):=by kernel_rfl
theorem XO (p:NP) (s:NJ) (n:Nat) (v:Value):bJ prog (qG prog) f54.ntmps (Cy fun _=>none) 60 (cB (cB (cB (cB gC)))) (zL p n s v) [.slot 4 (.pt 4 0),.row 4 true [.q (tld s).1,.q (tld s).2]]=some ([s.1<RM,s.2.1<RM,s.2.2<RM,s.2.2≠0],.rt,[.slot 4 (.pt 4 0),.row 4 true [.q (tld s).1,.q (tld s).2]]):=by kernel_rfl
theorem LD (p:NP) (n:Nat) (h:OnJ p.1 p.2) (args:List Value) (w0:World) (ha:cH w0 [.v (.fl (q2 p)),.v (.fl [.q n])] args):bC prog 54 (.one (.fl [.q (kV p n).1,.q (kV p n).2])) args w0:=by
 have hG:dC prog (qG prog) w0.heap.size w0:=(aT _).w _ _;have hT:∀n d:Nat,TabOkW prog GS w0.heap.size w0:=fun _ _=>YV.w _ _
 have hL:=xR n;have hr:=XN (tL h) n;have e:tld (Cx p n)=kV p n:=hr.tld.trans (xQ h n).symm;rw[←e];refine eT func54 (c:=gC) rfl ha (Nat.le_of_ble_eq_true (by kernel_rfl)) fun b w' hA => ?_
 rw[XP];refine wp_seq (aE aQ hT hG (Nu p n) trivial hA fun b w' hA => ?_);refine wp_seq (aE aQ hT hG (Nt p n) trivial hA fun b w' hA => ?_);refine wp_seq (aE aQ hT hG (Nr p n _) trivial hA fun b w' hA => ?_);refine wp_seq (wp_seq (aE aQ hT hG (Nq p n _ (MP (cK n) 0)) ⟨Qb hL,trivial⟩ hA fun b w' hA => ?_));refine wp_block ?_;refine EU aQ (fun k=>zL p n (rM (p.1,p.2,1) n (cK n) k) (MP (cK n) k)) (cK n) (fun k hk => ?_) (.ex 0) (by simp) (zL p n (Cx p n) (.int .i64 (-1))) ?_ hA fun b w' hA => ?_
 ·have e0:MP (cK n) k=iI (cK n-1-k):=if_pos hk;have l:=Gb (p.1,p.2,1) n (cK n) k;show Ok _ _ _ _ _ (zL p n (rM (p.1,p.2,1) n (cK n) k) (MP (cK n) k)) _ (zL p n (rM (p.1,p.2,1) n (cK n) (k+1)) (MP (cK n) (k+1)));rw[e0]
  by_cases hb:cS (wv n) (cK n-1-k)=1
  ·rw[show rM (p.1,p.2,1) n (cK n) (k+1)=lR (lR (rM (p.1,p.2,1) n (cK n) k) (rM (p.1,p.2,1) n (cK n) k)) (p.1,p.2,1)from if_pos hb];exact⟨_,_,_,_,hG,hT,Fy p (rM (p.1,p.2,1) n (cK n) k) n (cK n-1-k) (MP (cK n) (k+1)),Dk _,l.1,l.2.1,l.2.2,l.1,l.2.1,l.2.2,by omega,by rw[Dl,decide_eq_true hb],aF _ _,aF _ _,aF _ _,h.1.1,h.1.2,dG,Dj hL hk,trivial⟩
  ·rw[show rM (p.1,p.2,1) n (cK n) (k+1)=lR (rM (p.1,p.2,1) n (cK n) k) (rM (p.1,p.2,1) n (cK n) k)from if_neg hb];exact⟨_,_,_,_,hG,hT,Fz p (rM (p.1,p.2,1) n (cK n) k) n (cK n-1-k) (MP (cK n) (k+1)),Dk _,l.1,l.2.1,l.2.2,l.1,l.2.1,l.2.2,by omega,by rw[Dl,decide_eq_false hb],Dj hL hk,trivial⟩
 ·show Ok _ _ _ _ _ (zL p n _ (MP (cK n) (cK n))) _ _;rw[show MP (cK n) (cK n)=.int .i64 (-1)from if_neg (Nat.lt_irrefl _)];exact⟨_,_,_,_,hG,hT,Ga p _ n,trivial⟩
 ·show (cB (cB (cB (cB gC)))).wp _ _ _ _;exact aE aQ hT hG (XO p (Cx p n) n _) ⟨hr.x,hr.y,hr.z,hr.nz,trivial⟩ hA fun b w' hA=>lT (l:=[.fl [.q (tld (Cx p n)).1,.q (tld (Cx p n)).2]]) (r:=.one (.fl [.q (tld (Cx p n)).1,.q (tld (Cx p n)).2])) (by kernel_rfl) (by kernel_rfl) hA
def Qj:gP:=g2 WF jV fun p n=>([OnJ p.1 p.2],.one (.fl [.q (kV p n).1,.q (kV p n).2]))
theorem Xb:∀cs pre r,Qj cs=some (pre,r)→aS pre→∀(args:List Value) (w:World),cH w cs args→bC prog 54 r args w :=
 vS (op:=fun p n=>([OnJ p.1 p.2],.one (.fl [.q (kV p n).1,.q (kV p n).2]))) lF bQ fun p n h args w ha=>LD p n h.1 args w ha
def vR:gP
 | [.v (.im (.string s))]=>some ([s.size≤maxLen],.one (.fl [.q (dS s.data.toList).1]))
 | _=>none
def Ab:gP
 | [.v (.im (.string s))]=>some ([s.size≤maxLen],.many [.fl [.q (dS s.data.toList).1],.im (.int .i64 ((dS s.data.toList).2:Nat))])
 | _=>none
theorem LW (l:List UInt8):(dS l).1<aO:=by
 unfold dS;split
 ·exact by decide
 ·split
  ·exact by decide
  ·split
   ·exact by decide
   ·rename_i h;exact Nat.lt_of_not_le h
theorem Dy:∀cs pre r,Ab cs=some (pre,r)→aS pre→∀(args:List Value) (w:World),cH w cs args→bC prog 78 r args w:=by
 intro cs pre r hg hp args w ha;unfold Ab at hg;split at hg
 ·rename_i s;cases hg
  match args,ha with
  | [v],ha =>
   have h1:v=.string s:=ha.1;subst h1;refine (R1.refParse_calls s hp.1 w).mono ?_
   rintro e w' ⟨s0,s1,s2,s3,c,rfl,hs,hv,hb⟩
   have h1:=congrArg Prod.fst hv;have h2:=congrArg Prod.snd hv;simp only at h1 h2;obtain⟨rfl,rfl,rfl,rfl⟩:=fN hs (LW _) h1;subst h2;exact⟨rfl,hb⟩
  | [],ha=>exact ha.elim
  | _::_::_,ha=>exact ha.2.elim
 ·cases hg
def Ep:Tab:=VZ.add 78 Ab
theorem Ii:TabOk prog Ep:=IW.ad func78 Dy
theorem YY (s:ByteArray):bR prog (qG prog) (fun n=>⟨fun _=>Ep,fun _=>true,fun _=>none⟩) f42 60 [.v (.im (.string s))]=some ([s.size≤maxLen],.one (.fl [.q (dS s.data.toList).1])):=by kernel_rfl
theorem Sb:∀cs pre r,vR cs=some (pre,r)→aS pre→∀(args:List Value) (w:World),cH w cs args→bC prog 42 r args w:=by
 intro cs pre r hg hp args w ha;unfold vR at hg;split at hg
 ·rename_i s;cases hg;exact aG aQ (fun _ _=>Ii) (aT _) func42 (YY s) hp ha
 ·cases hg
def Em:Tab:=VZ.add 42 vR
theorem Ig:TabOk prog Em:=IW.ad func42 Sb
def Yj:ByteArray:=⟨[50,55,51,54,48,51,48,51,53,56,57,55,57,57,48,57,52,48,50,55,56,48,56,48,48,55,49,56,49,53,55,49,53,57,51,56,54,48,55,54,56,49,51,57,55,50,49,53,56,53,54,55,50,53,57,50,48,48,50,49,53,54,54,48,57,52,56,52,52,55,51,55,51,48,52,49].toArray⟩
def Sm:ByteArray:=⟨[53,50,57,57,54,49,57,50,52,48,54,52,49,53,53,49,50,56,49,54,51,52,56,54,53,53,56,51,53,49,56,50,57,55,48,51,48,50,56,50,56,55,52,52,55,50,49,57,48,55,55,50,56,57,52,48,56,54,53,50,49,49,52,52,52,56,50,55,50,49,48,48,49,53,53,51].toArray⟩
def Yi:ByteArray:=⟨[49,54,57,53,48,49,53,48,55,57,56,52,54,48,54,53,55,55,49,55,57,53,56,54,50,53,53,54,55,56,50,49,56,51,52,53,53,48,51,48,49,54,54,51,49,54,49,54,50,52,55,48,55,55,56,55,50,50,50,56,49,53,57,51,54,49,56,50,54,51,56,57,54,56,50,48,51].toArray⟩
theorem QN  : bR prog (qG prog) (fun n=>⟨fun _=>Em,fun _=>true,fun _=>none⟩) f23 60 []=some ([Yj.size≤maxLen],.one (.fl [.q lJ])):=by kernel_rfl
theorem Sp:Yj.size≤maxLen:=Nat.le_of_ble_eq_true (by kernel_rfl)
theorem So:Sm.size≤maxLen:=Nat.le_of_ble_eq_true (by kernel_rfl)
theorem Sn:Yi.size≤maxLen:=Nat.le_of_ble_eq_true (by kernel_rfl)
theorem nF (w:World):bC prog 23 (.one (.fl [.q lJ])) [] w:=aG aQ (fun _ _=>Ig) (aT _) func23 QN ⟨Sp,trivial⟩ (args:=[]) trivial
def KO (b:Bool):Tab:=((VZ.add 53 (Qk b)).add 54 Qj).add 23 (g0 (.one (.fl [.q lJ])))
theorem EL (b:Bool):TabOk prog (KO b):=((IW.ad func53 (Ry b)).ad func54 Xb).ad func23 (nA nF)
theorem Hc (p:NP):bR prog (qG prog) (fun n=>⟨fun _=>KO false,fun _=>true,fun _=>none⟩) f31 60 [.v (.fl [.q p.1,.q p.2])]=some ([p.1<aO,p.2<aO,oB p.1 p.2=false],.one (.im (.int .i64 41))):=by kernel_rfl
theorem Ha (p:NP):bR prog (qG prog) (fun n=>⟨fun _=>KO true,fun _=>true,fun _=>none⟩) f31 60 [.v (.fl [.q p.1,.q p.2])]=some ([p.1<aO,p.2<aO,oB p.1 p.2=true,OnJ p.1 p.2,aB [At.q (kV p lJ).1,.q (kV p lJ).2]=aB [At.q 0,.q 1]],.one (.im (.int .i64 0))):=by kernel_rfl
theorem Hb (p:NP):bR prog (qG prog) (fun n=>⟨fun _=>KO true,fun _=>false,fun _=>none⟩) f31 60 [.v (.fl [.q p.1,.q p.2])]=some ([p.1<aO,p.2<aO,oB p.1 p.2=true,OnJ p.1 p.2,aB [At.q (kV p lJ).1,.q (kV p lJ).2]≠aB [At.q 0,.q 1]],.one (.im (.int .i64 111))):=by kernel_rfl
theorem DQ (p:NP) (hp:w2 p) (args:List Value) (w:World) (ha:cH w [.v (.fl (q2 p))] args):bC prog 31 (.one (.im (.int .i64 (eE p)))) args w:=by
 cases h:oB p.1 p.2
 ·rw[BW fun q=>by rw[IU q]at h; cases h];exact aG aQ (fun _ _=>EL _) (aT _) func31 (Hc p) ⟨hp.1,hp.2,h,trivial⟩ ha
 ·have h1:=sC.1 h;rw[yL h1];have e:=xQ h1 lJ;rw[PC]at e
  by_cases k:kQ.grp.ns lJ (jp h1)=kQ.grp.zero
  ·rw[if_pos k];exact aG aQ (fun _ _=>EL _) (aT _) func31 (Ha p) ⟨hp.1,hp.2,h,h1,by rw[e,k,BU],trivial⟩ ha
  ·rw[if_neg k];exact aG aQ (fun _ _=>EL _) (aT _) func31 (Hb p) ⟨hp.1,hp.2,h,h1,fun q=>k (by rw[e]at q; exact Bi.1 (q.trans (by rw[BU]))),trivial⟩ ha
theorem WQ {x y:Nat} (hx:x<aO) (hy:y<aO):aB [At.q x]=aB [At.q y]↔x=y:=by
 constructor
 ·intro h;have h2:w4 x=w4 y:=by
   have h3:w4 x++[]=w4 y++[]:=h;simpa using h3
  unfold w4 at h2;simp only[List.cons.injEq,Value.int.injEq,true_and,and_true]at h2;obtain⟨e0,e1,e2,e3⟩:=h2;have h3:=gY hx;have h4:=gY hy;have c0:fw x 0=fw y 0:=by omega
  have c1:fw x 1=fw y 1:=by omega
  have c2:fw x 2=fw y 2:=by omega
  have c3:fw x 3=fw y 3:=by omega
  rw[c0,c1,c2,c3,h4]at h3;exact h3.symm
 ·rintro rfl
  rfl
def Dr:gP:=g2 jV jV fun x y=>([x<aO,y<aO],.one (.im (.int .i64 (Go.Proofs.YtpjlhhpjpnacmaaGreat.bF x y))))
theorem Yf {x:Nat} (hx:x<aO):aA (fw x 0) (fw x 1) (fw x 2) (fw x 3)=x:=gY hx
theorem Sf:∀cs pre r,Dr cs=some (pre,r)→aS pre→∀(args:List Value) (w:World),cH w cs args→bC prog 35 r args w :=
 vS bQ bQ fun x y h args w ha=>by
  match args,ha with
  | [u,v],ha =>
   have e1:u=.agg (aB [At.q x]).toArray:=ha.1;have e2:v=.agg (aB [At.q y]).toArray:=ha.2.1;subst e1; subst e2;have:=wD (fw x 0) (fw x 1) (fw x 2) (fw x 3) (fw y 0) (fw y 1) (fw y 2) (fw y 3) (cP x) (cP y) w;rw[Yf h.1,Yf h.2.1]at this;exact this
  | [],ha=>exact ha.elim
  | [_],ha=>exact ha.2.elim
  | _::_::_::_,ha=>exact ha.2.2.elim
def Ck:Tab:=(((T0.add 35 Dr).add 36 (g0 (.one (.fl [.q lJ])))).add 80 (g0 (.one (.fl [.q bX,.q bY])))).add 79 (Ql true)
theorem SG:TabOk prog Ck:=((((dV _).ad func35 Sf).ad func36 (nA sZ)).ad func80 (nA CD)).ad func79 (Ad ER true)
theorem Lm (n:Nat) (z:Bool):bR prog (qG prog) (fun _=>⟨fun _=>Ck,fun _=>true,assoc [(6,.bool z)]⟩) f19 60 [.v (.fl [.q n])]=some ([n<aO,lJ<aO,aW .lss .i64 (Go.Proofs.YtpjlhhpjpnacmaaGreat.bF n lJ) 0=some (.bool z)],.one (.im (.bool z))):=by kernel_rfl
theorem Wf:lJ<aO:=by decide
theorem Kw (n:Nat):aW .lss .i64 (Go.Proofs.YtpjlhhpjpnacmaaGreat.bF n lJ) 0=some (.bool (decide (n<lJ))):=by
 show some (Value.bool (decide (Go.Proofs.YtpjlhhpjpnacmaaGreat.bF n lJ<0)))=_;have e:(Go.Proofs.YtpjlhhpjpnacmaaGreat.bF n lJ<0)↔n<lJ:=by
  unfold Go.Proofs.YtpjlhhpjpnacmaaGreat.bF;generalize lJ=l;split
  ·constructor<;>intro h<;>omega
  ·split<;>constructor<;>intro h<;>omega
 rw[decide_eq_decide.2 e]
def Ak (z:Bool):gP:=g1 jV fun n=>([n<aO,decide (n<lJ)=z],.one (.im (.bool z)))
theorem Kp (z:Bool):∀cs pre r,Ak z cs=some (pre,r)→aS pre→∀(args:List Value) (w:World),cH w cs args→bC prog 19 r args w :=
 hZ bQ fun n h args w ha=>aG aQ (fun _ _=>SG) (aT _) func19 (Lm n z) ⟨h.1,Wf,by rw[Kw,h.2.1],trivial⟩ ha
def Cj (z:Bool):Tab:=Ck.add 19 (Ak z)
theorem SF (z:Bool):TabOk prog (Cj z):=SG.ad func19 (Kp z)
theorem Wj (n:Nat) (z:Bool):bR prog (qG prog) (fun _=>⟨fun _=>Cj z,fun _=>false,fun _=>none⟩) f43 60 [.v (.fl [.q n])]=some ([aB [At.q n]≠aB [At.f ⟨0,cN⟩],n<aO,decide (n<lJ)=z],.one (.im (.bool z))):=by cases z<;>kernel_rfl
theorem Wi (n:Nat):bR prog (qG prog) (fun _=>⟨fun _=>Cj true,fun _=>true,fun _=>none⟩) f43 60 [.v (.fl [.q n])]=some ([aB [At.q n]=aB [At.f ⟨0,cN⟩]],.one (.im (.bool false))):=by kernel_rfl
def DC (n:Nat):Bool:=decide (n≠0∧n<lJ)
def Ya (z:Bool):gP:=g1 jV fun n=>([n<aO,DC n=z],.one (.im (.bool z)))
theorem Xa (z:Bool):∀cs pre r,Ya z cs=some (pre,r)→aS pre→∀(args:List Value) (w:World),cH w cs args→bC prog 43 r args w :=
 hZ bQ fun n h args w ha=>by
  obtain⟨hn,hz,_⟩:=h;subst hz;unfold DC
  by_cases e:n=0
  ·subst e;rw[decide_eq_false (fun q=>q.1 rfl)];exact aG aQ (fun _ _=>SF true) (aT _) func43 (Wi 0) ⟨rfl,trivial⟩ ha
  ·rw[decide_eq_decide.2 (show n≠0∧n<lJ↔n<lJ from⟨fun q=>q.2,fun q=>⟨e,q⟩⟩)];exact aG aQ (fun _ _=>SF _) (aT _) func43 (Wj n _) ⟨fun q=>e ((WQ hn (by decide)).1 q),hn,rfl,trivial⟩ ha
theorem Fo (n:Nat):bR prog (qG prog) (fun _=>⟨fun _=>Ck,fun _=>true,fun _=>none⟩) f44 60 [.v (.fl [.q n])]=some ([bX<aO,bY<aO,oB bX bY=true],.one (.fl [.q (pN n).1,.q (pN n).2])):=by kernel_rfl
def Xz:gP:=g1 jV fun n=>([],.one (.fl [.q (pN n).1,.q (pN n).2]))
theorem Wy:∀cs pre r,Xz cs=some (pre,r)→aS pre→∀(args:List Value) (w:World),cH w cs args→bC prog 44 r args w :=
 hZ bQ fun n h args w ha=>aG aQ (fun _ _=>SG) (aT _) func44 (Fo n) ⟨(OnJ.w CE).1,(OnJ.w CE).2,IU CE,trivial⟩ ha
def Lt (z:Bool):Tab:=((Cj true).add 43 (Ya z)).add 44 Xz
theorem Df (z:Bool):TabOk prog (Lt z):=((SF true).ad func43 (Xa z)).ad func44 Wy
theorem Vy (n:Nat):bR prog (qG prog) (fun _=>⟨fun _=>Lt true,fun _=>true,fun _=>none⟩) f24 60 [.v (.fl [.q n])]=some ([n<aO,DC n=true],gF (pN n) 0):=by kernel_rfl
theorem Vz (n:Nat):bR prog (qG prog) (fun _=>⟨fun _=>Lt false,fun _=>true,fun _=>none⟩) f24 60 [.v (.fl [.q n])]=some ([n<aO,DC n=false],.many [.fl kX,.im (.int .i64 121)]):=by kernel_rfl
def Vm (z:Bool) (n:Nat):RV:=bif z then gF (pN n) 0 else gF (0,0) 121
def Yc (z:Bool):gP:=g1 jV fun n=>([n<aO,DC n=z],Vm z n)
theorem Mp (k:Int):RV.den (.many [.fl kX,.im (.int .i64 k)])=RV.den (gF (0,0) k):=by kernel_rfl
theorem Xc (z:Bool):∀cs pre r,Yc z cs=some (pre,r)→aS pre→∀(args:List Value) (w:World),cH w cs args→bC prog 24 r args w :=
 hZ bQ fun n h args w ha=>by
  cases z
  ·have:=aG aQ (fun _ _=>Df false) (aT _) func24 (Vz n) h ha;unfold bC at this ⊢;rw[Mp]at this;exact this
  ·exact aG aQ (fun _ _=>Df true) (aT _) func24 (Vy n) h ha
theorem wV {nt:Nat} {w:World} {a:Act} {ts:List (Nat×AV)} (hd:a.defers=[]) (hs:a.tmps.size=nt) (ht:∀x∈ts,∀β,a.tmps[x.1]?=some (x.2.den β)):Holds nt w.heap.size w (ts.map fun x=>.slot x.1 x.2) a w:=by
 refine⟨hd,hs,Below.refl _ _,Nat.le_refl _,fun _=>(w.heap.size,0,0),fun φ hφ => ?_,fun k k' o' l l' h1 => ?_,fun k l h1 => ?_,Nat.le_refl _,fun p h1 h2=>⟨rfl,rfl⟩,Shape.refl _⟩
 ·obtain⟨x,hx,rfl⟩:=List.mem_map.1 hφ;exact ht x hx _
 ·obtain⟨x,_,e⟩:=List.mem_map.1 h1; cases e
 ·obtain⟨x,_,e⟩:=List.mem_map.1 h1; cases e
def Zw (a b c d q:Nat):Nat:=if q=0 then a else if q=1 then b else if q=2 then c else d
end Go.Proofs.YtpjlhhpjpnacmaaGreat.Ex
namespace Go.Proofs.YtpjlhhpjpnacmaaGreat
open Go.Proofs.Tryz
open Go.RowKit
structure TWe (w wr:World) (b:Nat) (P:Nat→Nat):Prop where
 below:Below b w wr
 size:w.heap.size+1≤wr.heap.size
 row:RowIs wr b 8 P
 lt:∀k,P k<18446744073709551616
 others:∀p:Addr,p.block<w.heap.size→p.block≠b→wr.cell? p=w.cell? p∧wr.frozen? p=w.frozen? p
 shape:Ex.Shape w wr
 free:(∀q,w.frozen? ⟨b,q,none⟩=false)→∀q,wr.frozen? ⟨b,q,none⟩=false
theorem TWe.set {w wr:World} {b:Nat} {P:Nat→Nat} (h:TWe w wr b P) {k d:Nat} (hk:k<8) (hd:d<18446744073709551616):TWe w (wr.setCell ⟨b,k,none⟩ (.int .u64 (d:Nat))) b (cV P k d) :=
 ⟨h.below.setCell (p:=⟨b,k,none⟩) (Nat.le_refl _) _,by rw[World.size_setCell]; exact h.size,h.row.set hk,fun x=>by unfold cV; split; exact hd; exact h.lt x,fun p h1 h2=>by
  refine⟨?_,by rw[World.frozen?_setCell]; exact (h.others p h1 h2).2⟩;rw[World.cell?_setCell_other (h:=fun he=>h2 (by simpa using (congrArg Addr.block he).symm)) ..];exact (h.others p h1 h2).1,h.shape.trans (Ex.mW _ _ _),fun hf q=>by rw[World.frozen?_setCell]; exact h.free hf q⟩
theorem TWe.drew {w wr:World} {b:Nat} {P:Nat→Nat} (h:TWe w wr b P):TWe w wr.drew b P:=⟨h.below.drew,h.size,h.row,h.lt,h.others,h.shape.trans (Ex.Shape.drew _),h.free⟩
theorem TWe.wrc {w wr:World} {b:Nat} {P:Nat→Nat} (h:TWe w wr b P) (hf:∀q,w.frozen? ⟨b,q,none⟩=false) (hb:b<w.heap.size):Ex.WrC w wr b :=
 ⟨h.below,h.others,h.shape,h.free hf⟩
end Go.Proofs.YtpjlhhpjpnacmaaGreat
namespace Go.Proofs.YtpjlhhpjpnacmaaGreat.Ex
open Go.Proofs.Tryz
open Go.RowKit
abbrev NS:=NP×Nat
def fB (s:NS):List At:=[.q s.1.1,.q s.1.2,.q s.2]
def wE (s:NS):Int:=if eE s.1=0 then (if s.2<lJ then 0 else 4)else eE s.1
def KP (c:Int) (z:Bool):Tab:=(T0.add 26 (Aj c)).add 19 (Ak z)
theorem EM (c:Int) (z:Bool):TabOk prog (KP c z):=((dV _).ad func26 (xY nT c)).ad func19 (Kp z)
theorem Bh (s:NS) (c:Int):bR prog (qG prog) (fun _=>⟨fun _=>KP c true,fun _=>true,assoc [(8,.bool true)]⟩) f10 60 [.v (.fl (fB s))]=some ([s.1.1<aO,s.1.2<aO,eE s.1=c,aW .neq .i64 c 0=some (.bool true)],.one (.im (.int .i64 c))):=by kernel_rfl
theorem Bg (s:NS):bR prog (qG prog) (fun _=>⟨fun _=>KP 0 false,fun _=>true,fun _=>none⟩) f10 60 [.v (.fl (fB s))]=some ([s.1.1<aO,s.1.2<aO,eE s.1=0,s.2<aO,decide (s.2<lJ)=false],.one (.im (.int .i64 4))):=by kernel_rfl
theorem Bf (s:NS):bR prog (qG prog) (fun _=>⟨fun _=>KP 0 true,fun _=>true,fun _=>none⟩) f10 60 [.v (.fl (fB s))]=some ([s.1.1<aO,s.1.2<aO,eE s.1=0,s.2<aO,decide (s.2<lJ)=true],.one (.im (.int .i64 0))):=by kernel_rfl
theorem mN {k:Int} (h:k≠0):aW .neq .i64 k 0=some (.bool true):=by
 show some (Value.bool (k != 0))=_;rw[bne_iff_ne.2 h]
theorem NT (s:NS) (h1:s.1.1<aO) (h2:s.1.2<aO) (h3:s.2<aO) (args:List Value) (w:World) (ha:cH w [.v (.fl (fB s))] args):bC prog 10 (.one (.im (.int .i64 (wE s)))) args w:=by
 unfold wE;split
 ·rename_i h0;split
  ·exact aG aQ (fun _ _=>EM 0 true) (aT _) func10 (Bf s) ⟨h1,h2,h0,h3,decide_eq_true (by assumption),trivial⟩ ha
  ·exact aG aQ (fun _ _=>EM 0 false) (aT _) func10 (Bg s) ⟨h1,h2,h0,h3,decide_eq_false (by assumption),trivial⟩ ha
 ·exact aG aQ (fun _ _=>EM _ true) (aT _) func10 (Bh s _) ⟨h1,h2,rfl,mN (by assumption),trivial⟩ ha
def ND (c:Int):gP
 | [.v (.fl l)]=>match AT l with
  | some [a,b,d]=>some ([a<aO,b<aO,d<aO,wE ((a,b),d)=c,aB l=aB (fB ((a,b),d))],.one (.im (.int .i64 c)))
  | _=>none
 | _=>none
theorem Sg (c:Int):∀cs pre r,ND c cs=some (pre,r)→aS pre→∀(args:List Value) (w:World),cH w cs args→bC prog 10 r args w:=by
 intro cs pre r hg hp args w ha;unfold ND at hg;split at hg
 ·rename_i l;split at hg
  ·rename_i a b d hn;cases hg;obtain⟨p1,p2,p3,p4,p5,_⟩:=hp;subst p4
   match args,ha with
   | [x],ha =>
    have e1:x=.agg (aB l).toArray:=ha.1;subst e1;rw[p5];exact NT ((a,b),d) p1 p2 p3 _ w ⟨rfl,trivial⟩
   | [],ha=>exact ha.elim
   | _::_::_,ha=>exact ha.2.elim
  ·cases hg
 ·cases hg
def OY:List At:=[.f ⟨0,cN⟩,.f ⟨0,cN⟩,.f ⟨0,cN⟩]
theorem KF {p:NP} (h:eE p=0):OnJ p.1 p.2:=by
 apply Classical.byContradiction;intro hn;rw[BW hn]at h;exact absurd h (by decide)
theorem Ed {s:NS} (hs:wE s=0):eE s.1=0:=by
 unfold wE at hs;split at hs
 ·assumption
 ·exact hs
theorem Su:cj JB=(bX,bY):=Prod.ext (Wh CE) (Wg CE)
theorem Pg {n:Nat} (h:n<aO):pN n=cj (kQ.grp.ns n JB):=by
 have:=Ph n;rw[show wv n=n from gY h]at this;exact this
theorem Wa:pN 1=(bX,bY):=by rw[Pg (by decide),kQ.grp.ns_one,Su]
theorem XM (v:Value):bR prog (qG prog) (fun _=>⟨fun _=>T0,fun _=>true,fun _=>none⟩) f8 60 [.v (.im v)]=some ([],.one (.im v)):=by kernel_rfl
theorem Dz:∀cs pre r,Ac cs=some (pre,r)→aS pre→∀(args:List Value) (w:World),cH w cs args→bC prog 8 r args w:=by
 intro cs pre r hg hp args w ha;unfold Ac at hg;split at hg
 ·rename_i v;cases hg;exact aG aQ (fun _ _=>dV _) (aT prog) func8 (XM v) trivial ha
 ·cases hg
def Er:Tab:=T0.add 78 Ab
theorem Ij:TabOk prog Er:=(dV _).ad func78 Dy
theorem SJ (s:ByteArray):bR prog (qG prog) (fun n=>⟨fun _=>Er,fun _=>true,fun _=>none⟩) f42 60 [.v (.im (.string s))]=some ([s.size≤maxLen],.one (.fl [.q (dS s.data.toList).1])):=by kernel_rfl
theorem Ko:∀cs pre r,vR cs=some (pre,r)→aS pre→∀(args:List Value) (w:World),cH w cs args→bC prog 42 r args w:=by
 intro cs pre r hg hp args w ha;unfold vR at hg;split at hg
 ·rename_i s;cases hg;exact aG aQ (fun _ _=>Ij) (aT _) func42 (SJ s) hp ha
 ·cases hg
def El:Tab:=T0.add 42 vR
theorem If:TabOk prog El:=(dV _).ad func42 Ko
theorem DS:bR prog (qG prog) (fun n=>⟨fun _=>El,fun _=>true,fun _=>none⟩) f25 60 []=some ([Sm.size≤maxLen,Yi.size≤maxLen],.one (.fl [.q bX,.q bY])):=by kernel_rfl
theorem YA (w:World):bC prog 25 (.one (.fl [.q bX,.q bY])) [] w:=aG aQ (fun _ _=>If) (aT _) func25 DS ⟨So,Sn,trivial⟩ (args:=[]) trivial
def Ei (z y:Bool) (m:Nat):Nat→Tab:=fun s=>((T0.add 8 Ac).add 25 (g0 (.one (.fl [.q bX,.q bY])))).add 24 (Yc (bif Nat.blt s m then z else y))
theorem Ic (z y:Bool) (m s:Nat):TabOk prog (Ei z y m s):=(((dV _).ad func8 Dz).ad func25 (nA YA)).ad func24 (Xc _)
theorem Fe:bR prog (qG prog) (fun _=>⟨Ei true false 8,fun _=>true,fun _=>none⟩) f9 60 []=some ([1<aO,DC 1=true,0<aO,DC 0=false,aB [At.q (pN 1).1,.q (pN 1).2]=aB [At.q bX,.q bY]],.one (.im (.bool true))):=by kernel_rfl
theorem Fd (w:World):bC prog 9 (.one (.im (.bool true))) [] w :=
 aG aQ (fun _ s=>Ic true false 8 s) (aT _) func9 Fe ⟨by decide,decide_eq_true ⟨by decide,by decide⟩,by decide,decide_eq_false (fun h=>h.1 rfl),by rw[Wa],trivial⟩ (args:=[]) trivial
theorem OK (w:World) {n:Nat} (h0:0<n) (hn:n≤131072) (ty:TypeId):∃C w',(Builtin.append_ #[30,3] ty #[.slice none 0 0,iI n]).run prog w=.ok (bW w.heap.size 0 n C) w'∧n≤C∧AppAt w' w.heap.size 5 1 0 C∧Below w.heap.size w w':=by
 obtain⟨ht,i,z,hi,hz,hsize,hby,hzs,hsz⟩:=uD WS;have hu:prog.underlying 3=some (.int .i64):=by kernel_rfl
 have hn0:n≠0:=by omega
 have h48:¬(281474976710656<Builtin.nextslicecap n 0*i.bytes):=by rw[nextslicecap_zero h0,hby]; omega
 have hw:IntKind.i64.wrap (n:Int)=n:=by rw[IntKind.wrap_i64]; omega
 have hlt:¬((n:Int)<0):=by omega
 have h2:¬(281474976710656<(n:Int)*(i.bytes:Int)):=by rw[hby]; omega
 have h63:¬(9223372036854775807<(n:Int)):=by omega
 refine⟨grownCap w n 0 5,w.drew.alloc (.cells (Builtin.zeroCells z.cells n++Builtin.zeroCells z.cells (grownCap w n 0 5-n)) 5),?_,grownCap_ge _ _ _ _,?_,(Below.refl _ w).drew.alloc (Nat.le_refl _) _⟩
 ·simp[Builtin.append_,run_underlying ht,run_underlying hu,sizeOf,typeInfo,zeroValue,hi,hz,asInt,asIntOf,iI,hw,hlt,h2,hn0,h63,h48,Question.forced,Builtin.firstCells,newRow,grownCap,bW,hsize]
 ·refine⟨_,by have:=World.alloc_heap_new w.drew (.cells (Builtin.zeroCells z.cells n++Builtin.zeroCells z.cells (grownCap w n 0 5-n)) 5); exact this,Nat.zero_le _,grownCap_le_maxLen _ _ _ _ (by unfold maxLen; omega),?_⟩;have:=grownCap_ge w n 0 5;rw[Array.size_append,size_zeroCells,size_zeroCells,hzs,←Nat.add_mul,show n+(grownCap w n 0 5-n)=grownCap w n 0 5 by omega]
noncomputable abbrev Qh:Func:=f30
def fQ:Code:=(f30.body).getD .skip
def TG:Code:=cA (cB (cB fQ))
def vQ:Code:=cA TG
def Dp:Code:=cA (cB TG)
def pC:Code:=Tb (cB (cB TG))
theorem MZ:fQ=.seq (cA fQ) (.seq (cA (cB fQ)) (.seq (.seq (.region 3 (bP vQ) false) (.seq Dp (.cond (.tmp 16) (.region 5 (bP pC) false) .skip))) (cB (cB (cB fQ))))):=by kernel_rfl
theorem ZO:Qh.ntmps=27:=by kernel_rfl
def cG:Value:=.slice none 0 0
theorem ZN (n:Nat):bJ prog (qG prog) 27 (fun _=>tC T0 fun _=>none) 60 (cA fQ) (iO 0 [.v (.im cG),.v (.im (iI n))]) [.slot 0 (.im cG),.slot 1 (.im (iI n))]=some ([],.nrm,[.slot 0 (.im cG),.slot 1 (.im (iI n))]):=by kernel_rfl
theorem ZM (n:Nat):bJ prog (qG prog) 27 (fun _=>tC T0 (assoc [(6,.bool false)])) 60 (cA (cB fQ)) [.slot 0 (.im cG),.slot 1 (.im (iI n))] [.slot 0 (.im cG),.slot 1 (.im (iI n))]=some ([aW .lss .i64 (Int.ofNat n) 0=some (.bool false)],.nrm,[.slot 0 (.im cG),.slot 1 (.im (iI n))]):=by kernel_rfl
theorem ZT (n:Nat):jX prog (qG prog) 27 (tC T0 fun _=>none) ((bP vQ).extract 0 2) [.slot 0 (.im cG),.slot 1 (.im (iI n))] [.slot 8 (.im (iI n)),.slot 9 (.im cG),.slot 0 (.im cG)]=some ([],[.slot 8 (.im (iI n)),.slot 9 (.im cG),.slot 0 (.im cG)]):=by kernel_rfl
theorem ZS (n:Nat):jX prog (qG prog) 27 (tC T0 (assoc [(13,iI 0),(14,iI n)])) ((bP vQ).extract 3 8) [.slot 10 (.im (iI 0)),.slot 8 (.im (iI n)),.slot 0 (.im cG)] [.slot 0 (.im cG),.slot 1 (.im (iI n))]=some ([aW .sub .i64 (Int.ofNat 0) (Int.ofNat 0)=some (iI 0),aW .sub .i64 (Int.ofNat n) (Int.ofNat 0)=some (iI n)],[.slot 0 (.im cG),.slot 1 (.im (iI n))]):=by kernel_rfl
theorem Jb (n:Nat):bJ prog (qG prog) 27 (fun _=>tC T0 (assoc [(16,.bool true)])) 60 Dp [.slot 0 (.im cG),.slot 1 (.im (iI n))] [.slot 16 (.im (.bool true)),.slot 0 (.im cG),.slot 1 (.im (iI n))]=some ([aW .gtr .i64 (Int.ofNat n) 0=some (.bool true)],.nrm,[.slot 16 (.im (.bool true)),.slot 0 (.im cG),.slot 1 (.im (iI n))]):=by kernel_rfl
theorem ZR (n:Nat):jX prog (qG prog) 27 (tC T0 fun _=>none) ((bP pC).extract 0 2) [.slot 0 (.im cG),.slot 1 (.im (iI n))] [.slot 17 (.im cG),.slot 18 (.im cG),.slot 0 (.im cG),.slot 1 (.im (iI n))]=some ([],[.slot 17 (.im cG),.slot 18 (.im cG),.slot 0 (.im cG),.slot 1 (.im (iI n))]):=by kernel_rfl
theorem ZQ (n:Nat):jX prog (qG prog) 27 (tC T0 fun _=>none) ((bP pC).extract 3 5) [.slot 19 (.im (iI 0)),.slot 17 (.im cG),.slot 0 (.im cG),.slot 1 (.im (iI n))] [.slot 20 (.im cG),.slot 21 (.im (iI n)),.slot 0 (.im cG)]=some ([0≤0],[.slot 20 (.im cG),.slot 21 (.im (iI n)),.slot 0 (.im cG)]):=by kernel_rfl
theorem ZP (b n C:Nat):jX prog (qG prog) 27 (tC T0 fun _=>none) ((bP pC).extract 6 10) [.slot 22 (.im (bW b 0 n C)),.slot 0 (.im cG)] [.slot 0 (.im (bW b 0 0 C))]=some ([0≤C],[.slot 0 (.im (bW b 0 0 C))]):=by kernel_rfl
theorem Ja (v:Value):bJ prog (qG prog) 27 (fun _=>tC T0 fun _=>none) 60 (cB (cB (cB fQ))) [.slot 0 (.im v)] [.slot 4 (.im v)]=some ([],.rt,[.slot 4 (.im v)]):=by kernel_rfl
theorem tZ {o:Oper} {a:Act} {w:World} {s:Nat} (hop:o.op=.call ⟨.builtin .cap,#[.tmp s],#[30]⟩) (h:a.tmps[s]?=some cG):(execOp a.eval o).run prog w=.ok (.value (iI 0)) w:=by
 have hu:prog.underlying 30=some (.slice 5):=underlying30;simp[execOp,hop,resolve,invoke,builtin,yB h,cG,Builtin.cap_,iI,goInt,run_underlying hu]
theorem FF {w0:World} {n:Nat} (h0:0<n) (hn:n≤131072):Calls prog 30 [cG,iI n].toArray w0 fun e w'=>∃b C,e=.returned (bW b 0 0 C)∧n≤C∧AppAt w' b 5 1 0 C∧w0.heap.size≤b∧Below w0.heap.size w0 w':=by
 have hG:∀base w,dC prog (qG prog) base w:=fun _ _=>(aT _).w _ _
 have hT:∀base w,∀n d:Nat,TabOkW prog T0 base w:=fun _ _ _ _=>(dV _).w _ _
 have hnt:f30.ntmps=27:=ZO;refine eT func30 (cs:=[.v (.im cG),.v (.im (iI n))]) (args:=[cG,iI n]) (c:=fQ) rfl ⟨rfl,rfl,trivial⟩ (Nat.le_of_ble_eq_true (by kernel_rfl)) fun a w hA => ?_
 rw[hnt]at hA;rw[MZ];refine wp_seq (aE aQ (hT _ _) (hG _ _) (ZN n) trivial hA fun a w hA => ?_);refine wp_seq (aE aQ (hT _ _) (hG _ _) (ZM n) ⟨oR (i:=n) (n:=0) (Nat.zero_le _),trivial⟩ hA fun a w hA => ?_);refine wp_seq (wp_seq (gH (l:=List.range' 0 ((bP vQ).extract 0 2).size++(2::(List.range' 3 ((bP vQ).extract 3 8).size++[]))) (by kernel_rfl) ?_));refine bO (c:=tC T0 _) (hT _ _ 0) (hG _ _) (ZT n) trivial (by kernel_rfl) hA fun a1 w1 hA => ?_
 obtain⟨o2,ho2,hop2,hd2,hg2⟩:∃x,(bP vQ)[2]?=some x∧x.op=.call ⟨.builtin .cap,#[.tmp 9],#[30]⟩∧x.dst=some 10∧x.guard=none:=⟨_,rfl,rfl,rfl,rfl⟩
 refine eU ho2 hg2 (fP (tZ hop2 (hA.slot (s:=9) (by simp))) ?_);rw[hd2];have hb1:=hA.below;have hS:=cT (nt:=27) (w:=w1) (a:=a1.put (some 10) (iI 0)) (ts:=[(10,iI 0),(8,iI n),(0,cG)]) hA.defers (by rw[cJ]; exact hA.size) (fun x hx=>by
  simp only[List.mem_cons,List.not_mem_nil,or_false]at hx
  rcases hx with rfl|rfl|rfl
  ·exact dD _ _ _ (by rw[hA.size]; decide)
  ·exact mX (hA.slot (by simp)) (by simp)
  ·exact mX (hA.slot (by simp)) (by simp))
 clear hA;refine bO (c:=tC T0 _) (hT _ _ 0) (hG _ _) (ZS n) ⟨tE (i:=0) (k:=0) (Nat.le_refl _) (by decide),tE (i:=n) (k:=0) (Nat.zero_le _) (by omega),trivial⟩ (by kernel_rfl) hS fun a2 w2 hA => ?_
 show (Code.seq _ _).wp _ _ _ _;refine wp_seq (aE aQ (hT _ _) (hG _ _) (Jb n) ⟨Qi h0,trivial⟩ hA fun a3 w3 hA => ?_);have hc:=hA.imV (s:=16) (v:=.bool true) (by simp);refine wp_cond_true hc ?_;have hb3:=hb1.trans (hA.below.mono hb1.size);have hS3:=cT (nt:=27) (w:=w3) (a:=a3) (ts:=[(0,cG),(1,iI n)]) hA.defers hA.size (fun x hx=>by
  simp only[List.mem_cons,List.not_mem_nil,or_false]at hx
  rcases hx with rfl|rfl<;>exact hA.slot (by simp))
 clear hA hS;refine gH (l:=List.range' 0 ((bP pC).extract 0 2).size++(2::(List.range' 3 ((bP pC).extract 3 5).size++(5::(List.range' 6 ((bP pC).extract 6 10).size++[]))))) (by kernel_rfl) ?_;refine bO (c:=tC T0 _) (hT _ _ 0) (hG _ _) (ZR n) trivial (by kernel_rfl) hS3 fun a4 w4 hA => ?_
 obtain⟨o5,ho5,hop5,hd5,hg5⟩:∃x,(bP pC)[2]?=some x∧x.op=.call ⟨.builtin .cap,#[.tmp 18],#[30]⟩∧x.dst=some 19∧x.guard=none:=⟨_,rfl,rfl,rfl,rfl⟩
 refine eU ho5 hg5 (fP (tZ hop5 (hA.slot (s:=18) (by simp))) ?_);rw[hd5];have hb4:=hb3.trans (hA.below.mono hb3.size);have hS4:=cT (nt:=27) (w:=w4) (a:=a4.put (some 19) (iI 0)) (ts:=[(19,iI 0),(17,cG),(0,cG),(1,iI n)]) hA.defers (by rw[cJ]; exact hA.size) (fun x hx=>by
  simp only[List.mem_cons,List.not_mem_nil,or_false]at hx
  rcases hx with rfl|rfl|rfl|rfl
  ·exact dD _ _ _ (by rw[hA.size]; decide)
  ·exact mX (hA.slot (by simp)) (by simp)
  ·exact mX (hA.slot (by simp)) (by simp)
  ·exact mX (hA.slot (by simp)) (by simp))
 clear hA hS3;refine bO (c:=tC T0 _) (hT _ _ 0) (hG _ _) (ZQ n) ⟨Nat.le_refl _,trivial⟩ (by kernel_rfl) hS4 fun a5 w5 hA => ?_
 obtain⟨o6,ho6,hop6,hd6,hg6⟩:∃x,(bP pC)[5]?=some x∧x.op=.call ⟨.builtin .append,#[.tmp 20,.tmp 21],#[30,3]⟩∧x.dst=some 22∧x.guard=none:=⟨_,rfl,rfl,rfl,rfl⟩
 obtain⟨C,w6,hr,hnC,hap,hb6⟩:=OK w5 h0 hn o6.type;have hrun:(execOp a5.eval o6).run prog w5=.ok (.value (bW w5.heap.size 0 n C)) w6:=by
  have h20:=yB (hA.slot (s:=20) (v:=cG) (by simp));have h21:=yB (hA.slot (s:=21) (v:=iI n) (by simp));unfold execOp;simp only[hop6,resolve,invoke,builtin,Sem.run_bind,Sem.run_pure,Result.andThen_ok,List.map_toArray,List.map_cons,List.map_nil,h20,h21,cG,hr]
 refine eU ho6 hg6 (fP hrun ?_);rw[hd6];have hb5:=hb4.trans (hA.below.mono hb4.size);generalize hbl:w5.heap.size=bl at *;have hbl0:w0.heap.size≤bl:=by rw[←hbl]; exact hb5.size
 have hb16:Below w0.heap.size w0 w6:=hb5.trans (hb6.mono hbl0);have hS6:=cT (nt:=27) (w:=w6) (a:=a5.put (some 22) (bW bl 0 n C)) (ts:=[(22,bW bl 0 n C),(0,cG)]) hA.defers (by rw[cJ]; exact hA.size) (fun x hx=>by
  simp only[List.mem_cons,List.not_mem_nil,or_false]at hx
  rcases hx with rfl|rfl
  ·exact dD _ _ _ (by rw[hA.size]; decide)
  ·exact mX (hA.slot (by simp)) (by simp))
 clear hA hS4;refine bO (c:=tC T0 _) (hT _ _ 0) (hG _ _) (ZP bl n C) ⟨Nat.zero_le _,trivial⟩ (by kernel_rfl) hS6 fun a7 w7 hA => ?_
 show (cB (cB (cB fQ))).wp _ _ _ _;refine aE aQ (hT _ _) (hG _ _) (Ja _) trivial hA fun a8 w8 hA => ?_
 exact iB (l:=[.im (bW bl 0 0 C)]) (r:=.one (.im (bW bl 0 0 C))) (by kernel_rfl) (by kernel_rfl) hA ⟨bl,C,rfl,hnC,hap.shape hA.shape,hbl0,hb16.trans (hA.below.mono hb16.size)⟩
end Go.Proofs.YtpjlhhpjpnacmaaGreat.Ex
