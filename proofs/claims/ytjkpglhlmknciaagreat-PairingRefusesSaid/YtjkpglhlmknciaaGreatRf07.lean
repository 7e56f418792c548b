/- Rf07 -/
import Derived.Laws.MakeOwn
import Derived.Deep.RegionHeld3
import Derived.Deep.DeepCutAuto
import Derived.Deep.LoopGhost
import Derived.RegionTactic
import Derived.Laws.StructEq
import Derived.IntWalk
import Derived.Test.YtjkpglhlmknciaaGreatRf06
import Derived.Test.YtjkpglhlmknciaaGreatRf04
import Derived.Test.YtjkpglhlmknciaaGreatRf05
import Derived.Test.YtjkpglhlmknciaaGreatRf00
import Derived.Test.YtjkpglhlmknciaaGreatProg
set_option maxRecDepth 100000
set_option linter.unusedVariables false
set_option linter.unusedSimpArgs false
set_option linter.unnecessarySimpa false
noncomputable section
namespace Go.Proofs.YtjkpglhlmknciaaGreat
open Go.Proofs.Tryz
open Go.RowKit
section
variable {M g:Nat}
end
theorem Bad1.ne {f c:Int} {A:Nat} (h:Bad1 f A c):c≠0:=by rcases h with⟨_,_,h⟩|⟨_,_,_,h⟩<;>omega
theorem Bad2.ne {f c:Int} {A B:Nat} (h:Bad2 f A B c):c≠0:=by
 rcases h with h|⟨_,_,_,_,h⟩
 ·exact h.ne
 ·omega
theorem FieldIs.uniq {f:Int} {F G:FC} (h:FieldIs f F) (k:FieldIs f G):F=G:=by
 rcases h with⟨h,rfl⟩|⟨h,rfl⟩<;>rcases k with⟨k,rfl⟩|⟨k,rfl⟩<;>first|rfl|omega
open Go.ChangeShapes Go.WideShapes Go.ChangeAt Go.RowKit
def KU (A:Nat→Nat→Nat) (j:Nat):Nat:=aC (A j 0) (A j 1) (A j 2) (A j 3)
set_option maxRecDepth 20000 in
set_option maxHeartbeats 4000000 in
theorem Jl (p:Option Addr) (cap b:Nat) (w:World) :
  Calls prog 139 #[.pointer (some ⟨b,0,none⟩),.slice p 0 cap] w fun e w'=>e=.returned (.bool true)∧w'=w:=by
 go_enter func139,ntmps139
 go_wp2_with fail;refine wp_loop_rounds 2 ?_;rw[rounds_succ];go_wp2_with fail;go_ret;exact⟨rfl,rfl⟩
def FIs (W:World) (o:Option Addr) (len:Nat) (A:Nat→Nat→Nat):Prop:=len*32≤140737488351232∧LOk len A∧(0<len→∃g off,o=some ⟨g,off,none⟩∧g<W.heap.size∧LAt W g off len A)
theorem FIs.on {W w:World} {o:Option Addr} {len:Nat} {A:Nat→Nat→Nat} (h:FIs W o len A) (hb:Below W.heap.size W w):FIs w o len A:=by
 refine⟨h.1,h.2.1,fun hl => ?_⟩;obtain⟨g,off,e,hg,hc⟩:=h.2.2 hl;exact⟨g,off,e,Nat.lt_of_lt_of_le hg hb.size,hc.same (fun _=>hg) hb⟩
def Cx (M:Nat) (len:Nat) (A:Nat→Nat→Nat):Prop:=∀k,k<len→KU A k<M
theorem IX (F:FC) (hF:F.Ok) (b:Nat) (o:Option Addr) (len cap:Nat) (A:Nat→Nat→Nat) (w:World) (hk:KIs w b F) (h:FIs w o len A) :
  Calls prog 139 #[.pointer (some ⟨b,0,none⟩),.slice o len cap] w fun e w'=>(∃t:Bool,e=.returned (.bool t)∧(t=true↔Cx F.M len A))∧Below w.heap.size w w':=by
 by_cases h0:0<len
 ·obtain⟨g,off,rfl,hg,hc⟩:=h.2.2 h0;exact SD F hF b g off len cap A h.2.1 (by have:=h.1; omega) w hk (fun _=>hg) hc
 ·obtain rfl:len=0:=by omega
  refine (Jl o cap b w).mono ?_
  rintro e w' ⟨he,rfl⟩
  exact⟨⟨true,he,fun _ k hk=>absurd hk (by omega),fun _=>rfl⟩,Below.refl _ _⟩
def yW (M:Nat) (X Y:Nat→Nat):Nat→Nat
 | 0=>0
 | n+1=>(yW M X Y n+X n*Y n)%M
theorem aKN {M:Nat} (h:0<M) (X Y:Nat→Nat):∀n,yW M X Y n<M
 | 0=>h
 | n+1=>Nat.mod_lt _ h
theorem aFa {F:FC} (hF:F.Ok) {s x y d:Nat} (h:s*F.R%F.M=d):(s+x*y*F.Ri%F.M)%F.M*F.R%F.M=(d+x*y)%F.M:=by
 have e1:(s+x*y*F.Ri%F.M)%F.M*F.R%F.M=(s*F.R+x*y*F.Ri*F.R)%F.M:=by
  rw[Nat.mod_mul_mod,Nat.add_mul,Nat.add_mod,Nat.mod_mul_mod,←Nat.add_mod]
 have e2:x*y*F.Ri*F.R%F.M=x*y%F.M:=by rw[Nat.mul_right_comm]; exact pI hF _
 rw[e1,Nat.add_mod,h,e2,Nat.add_mod_mod]
set_option maxHeartbeats 4000000 in
theorem Qq (f:Int) (F:FC) (hf:FieldIs f F) (p q:Option Addr) (la ca lb cb:Nat) (A B:Nat→Nat→Nat) (h1:la=lb) (h2:la≤65536) (ia:Cx F.M la A) (ib:Cx F.M lb B) (w:World) (hA:FIs w p la A) (hB:FIs w q lb B) :
  Calls prog 105 #[.int .i64 f,.slice p la ca,.slice q lb cb] w (Ss 0 (yW F.M (KU A) (KU B) la) w):=by
 subst h1;have hok:=hf.ok;have hpos:=hf.ok.pos;have IA:=Lib.hid ia;have IB:=Lib.hid ib;clear ia ib;have HA:=Lib.hid hA;have HB:=Lib.hid hB;clear hA hB
 go_enter func105,ntmps105
 go_wp2_with fail;have HM:=Lib.hid ((Mem.nil w).new (w.heap.size) 0 0 0 0 27 (by simp));refine (fU f F hf _).mono ?_
 rintro e w1 ⟨rfl,hbl⟩
 have KK:=Lib.hid (KIs.new w1 F 164);have B1:=Lib.hid (HM.out.on hbl);clear HM hbl;have HM:=Lib.hid (show Mem w (w1.alloc (.cells #[.int .u64 F.m0,.int .u64 F.m1,.int .u64 F.m2,.int .u64 F.m3,.int .u64 F.inv,.int .u64 F.s0,.int .u64 F.s1,.int .u64 F.s2,.int .u64 F.s3] 164)) [(w.heap.size,0,0,0,0)]from B1.out.on ((Below.refl _ _).alloc (Nat.le_refl _) _));clear B1;have t1:decide ((65536:Int)<(la:Int))=false:=decide_eq_false (by omega);go_wp2_with fail;refine (IX F hf.ok w1.heap.size p la ca A _ KK.out (HA.out.on HM.out.1)).mono ?_
 rintro e w2 ⟨⟨t,rfl,ht⟩,hbl⟩
 obtain rfl:t=true:=ht.2 IA.out;have KK':=Lib.hid (KK.out.same hbl);have HM':=Lib.hid (HM.out.on hbl);clear hbl KK ht;have KK:=KK';clear KK';clear HM;have HM:=HM';clear HM';go_wp2_with fail;refine (IX F hf.ok w1.heap.size q la cb B _ KK.out (HB.out.on HM.out.1)).mono ?_
 rintro e w3 ⟨⟨t,rfl,ht⟩,hbl⟩
 obtain rfl:t=true:=ht.2 IB.out;have KK':=Lib.hid (KK.out.same hbl);have HM':=Lib.hid (HM.out.on hbl);clear hbl KK ht;have KK:=KK';clear KK';clear HM;have HM:=HM';clear HM';go_wp2_with fail;have kl:w1.heap.size<w3.heap.size:=KK.out.lt;have ls:w.heap.size<w3.heap.size:=HM.out.lt (b:=w.heap.size) (c0:=0) (c1:=0) (c2:=0) (c3:=0) (by simp);have HM':=Lib.hid (HM.out.new w3.heap.size 0 0 0 0 27 rfl);have KK':=Lib.hid (KK.out.same ((Below.refl _ w3).alloc (Nat.le_refl _) (.cells #[.int .u64 (0:Nat),.int .u64 (0:Nat),.int .u64 (0:Nat),.int .u64 (0:Nat)] 27)));clear KK;have KK:=KK';clear KK';clear HM;have HM:=HM';clear HM';obtain⟨W5,hW5⟩:∃W5,W5=(w3.alloc (.cells #[.int .u64 (0:Nat),.int .u64 (0:Nat),.int .u64 (0:Nat),.int .u64 (0:Nat)] 27)):=⟨_,rfl⟩
 obtain⟨gs,hgs⟩:∃gs,gs=w3.heap.size:=⟨_,rfl⟩
 rw[←hgs]at HM kl ls ⊢;clear hgs hW5 W5
 go_loopw [43] (fun t wr=>∃(k s0 s1 s2 s3:Nat),k≤la∧t=.int .i64 k∧bV s0 s1 s2 s3∧Hid (aC s0 s1 s2 s3<F.M∧aC s0 s1 s2 s3*F.R%F.M=yW F.M (KU A) (KU B) k)∧Hid (Mem w wr [(gs,s0,s1,s2,s3),(w.heap.size,0,0,0,0)])∧Hid (KIs wr w1.heap.size F)) (fun t _=>la-(intOf t).toNat)
 case atStart=>exact⟨0,0,0,0,0,Nat.zero_le _,rfl,zok,Lib.hid ⟨hpos,by rw[show aC 0 0 0 0=0 from rfl,Nat.zero_mul,Nat.zero_mod]; rfl⟩,HM,KK⟩
 case round =>
  clear HM KK;obtain⟨k,s0,s1,s2,s3,hk,rfl,hs,HV,HM,KK⟩:=hrel
  by_cases hlt:k<la
  ·obtain⟨g,off,rfl,hg,hla⟩:=HA.out.2.2 (by omega);obtain⟨g2,off2,rfl,hg2,hlb⟩:=HB.out.2.2 (by omega);obtain⟨a0,a1,a2,a3,e0,e1,e2,e3⟩:∃a0 a1 a2 a3:Nat,a0=A k 0∧a1=A k 1∧a2=A k 2∧a3=A k 3:=⟨_,_,_,_,rfl,rfl,rfl,rfl⟩
   obtain⟨b0,b1,b2,b3,d0,d1,d2,d3⟩:∃b0 b1 b2 b3:Nat,b0=B k 0∧b1=B k 1∧b2=B k 2∧b3=B k 3:=⟨_,_,_,_,rfl,rfl,rfl,rfl⟩
   have hoka:=HA.out.2.1 k hlt;have hokb:=HB.out.2.1 k hlt;have hva:KU A k=aC a0 a1 a2 a3:=by unfold KU; rw[←e0,←e1,←e2,←e3]
   have hvb:KU B k=aC b0 b1 b2 b3:=by unfold KU; rw[←d0,←d1,←d2,←d3]
   have hlb':aC b0 b1 b2 b3<F.M:=by rw[←hvb]; exact IB.out k hlt
   rw[←e0,←e1,←e2,←e3]at hoka;rw[←d0,←d1,←d2,←d3]at hokb;have HCA:=Lib.hid (show ∀wx,Below w.heap.size w wx→wx.cell? ⟨g,off+k*4,none⟩=some (.int .u64 (a0:Nat))∧wx.cell? ⟨g,off+k*4+1,none⟩=some (.int .u64 (a1:Nat))∧wx.cell? ⟨g,off+k*4+2,none⟩=some (.int .u64 (a2:Nat))∧wx.cell? ⟨g,off+k*4+3,none⟩=some (.int .u64 (a3:Nat))from fun wx hx=>by
    have q:=(hla.same (fun _=>hg) hx) k hlt;rw[←e0,←e1,←e2,←e3]at q;exact q)
   have HCB:=Lib.hid (show ∀wx,Below w.heap.size w wx→wx.cell? ⟨g2,off2+k*4,none⟩=some (.int .u64 (b0:Nat))∧wx.cell? ⟨g2,off2+k*4+1,none⟩=some (.int .u64 (b1:Nat))∧wx.cell? ⟨g2,off2+k*4+2,none⟩=some (.int .u64 (b2:Nat))∧wx.cell? ⟨g2,off2+k*4+3,none⟩=some (.int .u64 (b3:Nat))from fun wx hx=>by
    have q:=(hlb.same (fun _=>hg2) hx) k hlt;rw[←d0,←d1,←d2,←d3]at q;exact q)
   have HO:=Lib.hid (And.intro hoka hokb);have HE:=Lib.hid (And.intro hva (And.intro hvb hlb'));clear e0 e1 e2 e3 d0 d1 d2 d3 hla hlb hoka hokb hva hvb hlb';go_wp2_with fail;refine eH (fun wx=>Below wr.heap.size wr wx) 11 (by kernel_rfl) ?_;have HS:=bD wr.heap.size wr 1;have H8:=Lib.hid HS;refine aK (i:=0) (v:=.agg #[.int .u64 s0,.int .u64 s1,.int .u64 s2,.int .u64 s3]) rfl (by kernel_rfl) (by kernel_rfl) (by kernel_rfl) (by kernel_rfl) (fun _ _ _ h=>h) HS (Or.inl ⟨by kernel_rfl,fun wx hx => ?_⟩) ?_
   ·have kr:=(HM.out.on hx).row (b:=gs) (c0:=s0) (c1:=s1) (c2:=s2) (c3:=s3) (by simp);have x0:=kr.c0; have x1:=kr.c1; have x2:=kr.c2; have x3:=kr.c3;clear kr;clear HS hx;go_simp
   simp only[Act.put,List.setIfInBounds_toArray,List.set_cons_zero,List.set_cons_succ];refine aK (i:=1) (v:=.slice (some ⟨g,off,none⟩) la ca) rfl (by kernel_rfl) (by kernel_rfl) (by kernel_rfl) (by kernel_rfl) (fun _ _ _ h=>h) HS (Or.inl ⟨by kernel_rfl,fun wx hx => ?_⟩) ?_
   ·clear HS hx;go_simp
   simp only[Act.put,List.setIfInBounds_toArray,List.set_cons_zero,List.set_cons_succ];refine aK (i:=2) (v:=.int .i64 k) rfl (by kernel_rfl) (by kernel_rfl) (by kernel_rfl) (by kernel_rfl) (fun _ _ _ h=>h) HS (Or.inl ⟨by kernel_rfl,fun wx hx => ?_⟩) ?_
   ·clear HS hx;go_simp
   simp only[Act.put,List.setIfInBounds_toArray,List.set_cons_zero,List.set_cons_succ];refine aK (i:=3) (v:=.pointer (some ⟨g,off+k*4,none⟩)) rfl (by kernel_rfl) (by kernel_rfl) (by kernel_rfl) (by kernel_rfl) (fun _ _ _ h=>h) HS (Or.inl ⟨by kernel_rfl,fun wx hx => ?_⟩) ?_
   ·clear HS hx;go_simp
   simp only[Act.put,List.setIfInBounds_toArray,List.set_cons_zero,List.set_cons_succ];refine aK (i:=4) (v:=.agg #[.int .u64 a0,.int .u64 a1,.int .u64 a2,.int .u64 a3]) rfl (by kernel_rfl) (by kernel_rfl) (by kernel_rfl) (by kernel_rfl) (fun _ _ _ h=>h) HS (Or.inl ⟨by kernel_rfl,fun wx hx => ?_⟩) ?_
   ·have q:=HCA.out wx (HM.out.on hx).1;have x0:=q.1; have x1:=q.2.1; have x2:=q.2.2.1; have x3:=q.2.2.2;clear q;clear HS hx;go_simp
   simp only[Act.put,List.setIfInBounds_toArray,List.set_cons_zero,List.set_cons_succ];refine aK (i:=5) (v:=.slice (some ⟨g2,off2,none⟩) la cb) rfl (by kernel_rfl) (by kernel_rfl) (by kernel_rfl) (by kernel_rfl) (fun _ _ _ h=>h) HS (Or.inl ⟨by kernel_rfl,fun wx hx => ?_⟩) ?_
   ·clear HS hx;go_simp
   simp only[Act.put,List.setIfInBounds_toArray,List.set_cons_zero,List.set_cons_succ];refine aK (i:=6) (v:=.int .i64 k) rfl (by kernel_rfl) (by kernel_rfl) (by kernel_rfl) (by kernel_rfl) (fun _ _ _ h=>h) HS (Or.inl ⟨by kernel_rfl,fun wx hx => ?_⟩) ?_
   ·clear HS hx;go_simp
   simp only[Act.put,List.setIfInBounds_toArray,List.set_cons_zero,List.set_cons_succ];refine aK (i:=7) (v:=.pointer (some ⟨g2,off2+k*4,none⟩)) rfl (by kernel_rfl) (by kernel_rfl) (by kernel_rfl) (by kernel_rfl) (fun _ _ _ h=>h) HS (Or.inl ⟨by kernel_rfl,fun wx hx => ?_⟩) ?_
   ·clear HS hx;go_simp
   simp only[Act.put,List.setIfInBounds_toArray,List.set_cons_zero,List.set_cons_succ];refine aK (i:=8) (v:=.agg #[.int .u64 b0,.int .u64 b1,.int .u64 b2,.int .u64 b3]) rfl (by kernel_rfl) (by kernel_rfl) (by kernel_rfl) (by kernel_rfl) (fun _ _ _ h=>h) HS (Or.inl ⟨by kernel_rfl,fun wx hx => ?_⟩) ?_
   ·have q:=HCB.out wx (HM.out.on hx).1;have x0:=q.1; have x1:=q.2.1; have x2:=q.2.2.1; have x3:=q.2.2.2;clear q;clear HS hx;go_simp
   simp only[Act.put,List.setIfInBounds_toArray,List.set_cons_zero,List.set_cons_succ];clear HS;refine aN (i:=9) (by kernel_rfl) rfl (fun K hK => ?_);go_simp;refine (jF F hok w1.heap.size a0 a1 a2 a3 b0 b1 b2 b3 HO.out.1 HO.out.2 HE.out.2.2 _ (KK.out.same H8.out)).mono ?_
   rintro e v1 ⟨p0,p1,p2,p3,rfl,hp,hv,hbl⟩
   have HVp:=Lib.hid hv;clear hv;have HS:=H8.out.trans (hbl.mono H8.out.size);clear H8 hbl;have H8:=Lib.hid HS;refine hK.out _ _ (Or.inr HS) (fun _ => ?_);clear hK K;clear HS;refine aN (i:=10) (by kernel_rfl) rfl (fun K hK => ?_);go_simp;refine (GN F hok w1.heap.size s0 s1 s2 s3 p0 p1 p2 p3 hs hp HV.out.1 (by rw[HVp.out]; exact Nat.mod_lt _ hpos) _ (KK.out.same H8.out)).mono ?_
   rintro e v2 ⟨u0,u1,u2,u3,rfl,hu,hv,hbl⟩
   have HVu:=Lib.hid (show aC u0 u1 u2 u3<F.M∧aC u0 u1 u2 u3*F.R%F.M=yW F.M (KU A) (KU B) (k+1) by
    rw[hv,HVp.out];refine⟨Nat.mod_lt _ hpos,?_⟩;rw[aFa hok HV.out.2,←HE.out.1,←HE.out.2.1];rfl)
   clear hv;have HS:=H8.out.trans (hbl.mono H8.out.size);clear H8 hbl;have H8:=Lib.hid HS;refine hK.out _ _ (Or.inr HS) (fun _ => ?_);clear hK K;clear HS;have HM':=Lib.hid (HM.out.on H8.out);have KK':=Lib.hid (KK.out.same H8.out);clear HM KK H8;have HM:=HM';have KK:=KK';clear HM' KK';have kr:=HM.out.row (b:=gs) (c0:=s0) (c1:=s1) (c2:=s2) (c3:=s3) (by simp);have y0:=kr.c0; have y1:=kr.c1; have y2:=kr.c2; have y3:=kr.c3; have yf:=kr.fr;clear kr;have yl:=HM.out.lt (b:=gs) (c0:=s0) (c1:=s1) (c2:=s2) (c3:=s3) (by simp);refine aN (i:=11) (by kernel_rfl) rfl (fun K hK => ?_);go_simp;have HM':=Lib.hid (HM.out.put u0 u1 u2 u3 (by omega) (by intro r hr; simp at hr; subst hr; show w.heap.size≠gs; omega));have KK':=Lib.hid (KK.out.set4 (d:=gs) (by omega) u0 u1 u2 u3);clear HM KK;have HM:=HM';have KK:=KK';clear HM' KK';refine hK.out _ _ (Or.inl rfl) (fun _ => ?_);clear hK K;refine dJ (by kernel_rfl) ?_;go_wp2_with fail
   go_roundw
   case rel=>exact⟨k+1,u0,u1,u2,u3,by omega,by go_num,hu,HVu,HM,KK⟩
   case measure=>simp[intOf]; omega
  ·obtain rfl:la=k:=by omega
   obtain⟨wo,rfl⟩:∃wo,wo=wr:=⟨_,rfl⟩
   have kr:=HM.out.row (b:=gs) (c0:=s0) (c1:=s1) (c2:=s2) (c3:=s3) (by simp);have x0:=kr.c0; have x1:=kr.c1; have x2:=kr.c2; have x3:=kr.c3;clear kr;have xl:=HM.out.lt (b:=gs) (c0:=s0) (c1:=s1) (c2:=s2) (c3:=s3) (by simp);clear hk hlt;go_wp2_with fail;refine (qY F hok w1.heap.size s0 s1 s2 s3 hs _ KK.out).mono ?_
   rintro e w4 ⟨u0,u1,u2,u3,rfl,hu,hv,hbl⟩
   have HVu:=Lib.hid (show aC u0 u1 u2 u3=yW F.M (KU A) (KU B) la by rw[hv]; exact HV.out.2);have HM':=Lib.hid (HM.out.on hbl);clear hv hbl x0 x1 x2 x3 xl;clear HM;have HM:=HM';clear HM';have kr:=HM.out.row (b:=w.heap.size) (c0:=0) (c1:=0) (c2:=0) (c3:=0) (by simp);have y0:=kr.c0; have y1:=kr.c1; have y2:=kr.c2; have y3:=kr.c3; have yf:=kr.fr;clear kr;have yl:=HM.out.lt (b:=w.heap.size) (c0:=0) (c1:=0) (c2:=0) (c3:=0) (by simp);go_wp2_with fail;refine bodyPost_ret (v:=.tuple #[.agg #[.int .u64 u0,.int .u64 u1,.int .u64 u2,.int .u64 u3],.int .i64 0]) (by simp[results,results105,go_sem, *]) rfl ?_;refine⟨_,_,_,_,rfl,hu,HVu.out,?_⟩;exact bG HM.out.1 (Nat.le_refl _) _ _ _ _
structure LW (w wr:World) (s0 s1 s2 s3 a0 a1 a2 a3 b0 b1 b2 b3:Nat):Prop where
 below:Below w.heap.size w wr
 size:w.heap.size+1+1+1<wr.heap.size
 rowS:Row4 wr w.heap.size s0 s1 s2 s3
 rowA:Row4 wr (w.heap.size+1) a0 a1 a2 a3
 rowB:Row4 wr (w.heap.size+1+1) b0 b1 b2 b3
 rowO:Row4 wr (w.heap.size+1+1+1) 0 0 0 0
theorem aFO (w:World) (o1 o2 o3 o4:Obj):Below w.heap.size w ((((w.alloc o1).alloc o2).alloc o3).alloc o4) :=
 (Kh w o1 o2 o3).alloc (by simp; omega) o4
def Zz (a0 a1 a2 a3:Nat):Nat→Nat
 | 0=>0
 | 1=>a3
 | 2=>a3*18446744073709551616+a2
 | 3=>(a3*18446744073709551616+a2)*18446744073709551616+a1
 | _=>((a3*18446744073709551616+a2)*18446744073709551616+a1)*18446744073709551616+a0
def UU (a0 a1 a2 a3:Nat):Nat→Nat
 | 0=>a3
 | 1=>a2
 | 2=>a1
 | _=>a0
theorem Tc (a0 a1 a2 a3:Nat) {k:Nat} (h:k<4):Zz a0 a1 a2 a3 (k+1)=Zz a0 a1 a2 a3 k*18446744073709551616+UU a0 a1 a2 a3 k:=by
 match k,h with
 | 0,_=>simp[Zz,UU]
 | 1,_=>rfl
 | 2,_=>rfl
 | 3,_=>rfl
theorem Zk {a0 a1 a2 a3:Nat} (h:bV a0 a1 a2 a3) (k:Nat):UU a0 a1 a2 a3 k<18446744073709551616:=by
 obtain⟨h0,h1,h2,h3⟩:=h
 match k with
 | 0=>exact h3
 | 1=>exact h2
 | 2=>exact h1
 | k+3=>exact h0
theorem aDn (n m x b:Nat):((n%b)*m+x)%b=(n*m+x)%b:=by
 rw[Nat.add_mod,Nat.mul_mod,Nat.mod_mod,←Nat.mul_mod,←Nat.add_mod]
def TIn (R b:Nat) (a0 a1 a2 a3 k v:Nat):Prop:=v<b∧v=(R*18446744073709551616^k+Zz a0 a1 a2 a3 k)%b
theorem aAe {R b k v x:Nat} {a0 a1 a2 a3:Nat} (h:TIn R b a0 a1 a2 a3 k v) (hk:k<4) (hb:0<b) (hx:x=UU a0 a1 a2 a3 k):TIn R b a0 a1 a2 a3 (k+1) ((v*18446744073709551616+x)%b):=by
 refine⟨Nat.mod_lt _ hb,?_⟩;rw[h.2,aDn,Tc _ _ _ _ hk,hx,Nat.pow_succ,Nat.add_mul,Nat.mul_assoc,Nat.add_assoc]
theorem aHg {R b v:Nat} {a0 a1 a2 a3:Nat} (h:TIn R b a0 a1 a2 a3 4 v):v=(R*115792089237316195423570985008687907853269984665640564039457584007913129639936+aC a0 a1 a2 a3)%b:=by
 rw[h.2,show 18446744073709551616^4=115792089237316195423570985008687907853269984665640564039457584007913129639936 by simp,show Zz a0 a1 a2 a3 4=aC a0 a1 a2 a3 by show ((a3*18446744073709551616+a2)*18446744073709551616+a1)*18446744073709551616+a0=_; unfold aC; omega]
theorem aBj {w:World} {g:Nat} {a0 a1 a2 a3:Nat} (rA:Row4 w g a0 a1 a2 a3) (k:Nat) (hk:k<4):∃j x,j+k=3∧x=UU a0 a1 a2 a3 k∧w.cell? ⟨g,j,none⟩=some (.int .u64 (x:Nat)):=by
 match k,hk with
 | 0,_=>exact⟨3,_,rfl,rfl,rA.c3⟩
 | 1,_=>exact⟨2,_,rfl,rfl,rA.c2⟩
 | 2,_=>exact⟨1,_,rfl,rfl,rA.c1⟩
 | 3,_=>exact⟨0,_,rfl,rfl,rA.c0⟩
set_option maxHeartbeats 1000000 in
theorem xL (r0 r1 r2 r3 a0 a1 a2 a3 b0 b1 b2 b3:Nat) (hr:bV r0 r1 r2 r3) (ha:bV a0 a1 a2 a3) (hb:bV b0 b1 b2 b3) (h3:9223372036854775808≤b3) (hlt:aC r0 r1 r2 r3<aC b0 b1 b2 b3) (w:World) :
  Calls prog 197 #[.agg #[.int .u64 r0,.int .u64 r1,.int .u64 r2,.int .u64 r3],.agg #[.int .u64 a0,.int .u64 a1,.int .u64 a2,.int .u64 a3],.agg #[.int .u64 b0,.int .u64 b1,.int .u64 b2,.int .u64 b3]] w (dB (fun n=>n=(aC r0 r1 r2 r3*115792089237316195423570985008687907853269984665640564039457584007913129639936+aC a0 a1 a2 a3)%aC b0 b1 b2 b3) w):=by
 go_enter func197,ntmps197
 go_wp2_with fail
 go_loopw [8] (fun i wr=>∃k s0 s1 s2 s3:Nat,k≤4∧i=.int .i64 k∧bV s0 s1 s2 s3∧Hid (TIn (aC r0 r1 r2 r3) (aC b0 b1 b2 b3) a0 a1 a2 a3 k (aC s0 s1 s2 s3))∧LW w wr s0 s1 s2 s3 a0 a1 a2 a3 b0 b1 b2 b3) (fun i _=>4-(intOf i).toNat)
 case atStart =>
  refine⟨0,r0,r1,r2,r3,by omega,rfl,hr,Lib.hid ⟨hlt,by show _=(_*18446744073709551616^0+0)%_; rw[Nat.pow_zero,Nat.mul_one,Nat.add_zero,Nat.mod_eq_of_lt hlt]⟩,⟨aFO _ _ _ _ _,by simp,?_,?_,?_,?_⟩⟩
  all_goals exact⟨by simp[go_sem],by simp[go_sem],by simp[go_sem],by simp[go_sem],fun k=>by simp[go_sem]⟩
 case round =>
  obtain⟨k,s0,s1,s2,s3,hk,rfl,hs,ti,lw⟩:=hrel;have hsz:=lw.size;obtain⟨x0,x1,x2,x3,xf⟩:=lw.rowS;obtain⟨z0,z1,z2,z3,zf⟩:=lw.rowB
  by_cases hlt':k<4
  ·obtain⟨j,x,hj,hx,cx⟩:=aBj lw.rowA k hlt';have wj:IntKind.i64.wrap (3-(k:Int))=(j:Int):=by simp[IntKind.wrap,IntKind.bits,IntKind.signed]; omega
   have bj:(j:Int)<4:=by omega
   have bx:x<18446744073709551616:=by rw[hx]; exact Zk ha k
   have Hx:=Lib.hid hx;have HL:=Lib.hid lw;clear lw hx hj;go_wp2_with fail;refine wp_region_still_tail 6 (by kernel_rfl) (by kernel_rfl) ?_;simp only[List.take_succ_cons,List.take_zero,List.drop_succ_cons,List.drop_zero];change wpStill _ _ wr.drew _ _ _
   repeat still_step
   refine wpStill_nil ?_;change wpList _ _ _ _ _ wr.drew;go_wp2_with fail;refine (FJ s0 s1 s2 s3 x b0 b1 b2 b3 hs bx hb h3 ti.out.1 _).mono ?_
   rintro e w3 ⟨n0,n1,n2,n3,rfl,hn,en,hbl⟩
   have hz3:wr.heap.size≤w3.heap.size:=hbl.size;have S3:=HL.out.rowS.drewN 1 |>.below hbl (show w.heap.size<wr.heap.size by omega)
   have T3:LW w (set4 w3 w.heap.size n0 n1 n2 n3) n0 n1 n2 n3 a0 a1 a2 a3 b0 b1 b2 b3 :=
    ⟨bG ((HL.out.below.drew).trans (hbl.mono HL.out.below.size)) (Nat.le_refl _) _ _ _ _,by unfold set4; simp only[World.size_setCell]; omega,S3.set4 _ _ _ _,
     (HL.out.rowA.drewN 1 |>.below hbl (show w.heap.size+1<wr.heap.size by omega)).set4_other (by omega) _ _ _ _,
     (HL.out.rowB.drewN 1 |>.below hbl (show w.heap.size+1+1<wr.heap.size by omega)).set4_other (by omega) _ _ _ _,
     (HL.out.rowO.drewN 1 |>.below hbl (show w.heap.size+1+1+1<wr.heap.size by omega)).set4_other (by omega) _ _ _ _⟩
   have HT:=Lib.hid T3;have Hti:=Lib.hid (aAe ti.out hlt' (by have:=ti.out.1; omega) Hx.out);rw[←en]at Hti;obtain⟨v0,v1,v2,v3,vf⟩:=S3;clear hbl en T3 ti;go_wp2_with fail
   go_roundw
   case rel=>exact⟨k+1,n0,n1,n2,n3,by omega,by go_num,hn,Hti,HT.out⟩
   case measure=>simp[intOf]; omega
  ·obtain rfl:k=4:=by omega
   have HF:=Lib.hid (aHg ti.out);obtain⟨o0,o1,o2,o3,of⟩:=lw.rowO;have HB:=Lib.hid lw.below;clear ti lw;go_wp2_with fail;refine bodyPost_ret (v:=.agg #[.int .u64 s0,.int .u64 s1,.int .u64 s2,.int .u64 s3]) (by simp[results,results197,go_sem, *]) rfl ?_;exact⟨s0,s1,s2,s3,rfl,hs,HF.out,bG HB.out (by omega) _ _ _ _⟩
theorem aTT (a0 a1 a2 a3:Nat) (n:Int) (ha:bV a0 a1 a2 a3) (h0:0<n) (hq:n/64=0) (w:World) :
  Calls prog 195 #[.agg #[.int .u64 a0,.int .u64 a1,.int .u64 a2,.int .u64 a3],.int .i64 n] w (dB (fun v=>v=aC a0 a1 a2 a3*2^n.toNat%115792089237316195423570985008687907853269984665640564039457584007913129639936) w):=by
 obtain⟨p,hr,hp,en⟩:=Ca (by omega) 0 hq (by omega);have b1:n<256:=by omega
 have t0:decide (n≤0)=false:=decide_eq_false (by omega);obtain⟨lo0,hi0,u0,d0,bl0,bh0,e0,g0,m0⟩:=vF (a:=a0) (p:=p) ha.1 hp;obtain⟨lo1,hi1,u1,d1,ET,bh1,e1,g1,m1⟩:=vF (a:=a1) (p:=p) ha.2.1 hp;obtain⟨lo2,hi2,u2,d2,rM,bh2,e2,g2,m2⟩:=vF (a:=a2) (p:=p) ha.2.2.1 hp;obtain⟨lo3,hi3,u3,d3,bl3,bh3,e3,g3,m3⟩:=vF (a:=a3) (p:=p) ha.2.2.2 hp;obtain⟨s1,o1,bs1,f1⟩:=OC ET bh0 g0 m1;obtain⟨s2,o2,bs2,f2⟩:=OC rM bh1 g1 m2;obtain⟨s3,o3,bs3,f3⟩:=OC bl3 bh2 g2 m3;have HF:Hid (aC lo0 s1 s2 s3=aC a0 a1 a2 a3*2^n.toNat%115792089237316195423570985008687907853269984665640564039457584007913129639936):=Lib.hid (by
  have hk:bV lo0 s1 s2 s3:=⟨bl0,bs1,bs2,bs3⟩;rw[en,yA];have:=e0.out;have:=e1.out;have:=e2.out;have:=e3.out;have:=f1.out;have:=f2.out;have:=f3.out;have hv:=bK hk;have hT:aC a0 a1 a2 a3*(18446744073709551616^((0:Int)).toNat*2^p)=aC a0 a1 a2 a3*2^p*1:=by
   rw[show 18446744073709551616^((0:Int)).toNat=1 by simp,Nat.mul_comm 1,Nat.mul_assoc]
  rw[hT];have hD:aC a0 a1 a2 a3*2^p=a0*2^p+18446744073709551616*(a1*2^p)+340282366920938463463374607431768211456*(a2*2^p)+6277101735386680763835789423207666416102355444464034512896*(a3*2^p):=by
   unfold aC; simp only[Nat.add_mul,Nat.mul_assoc]; omega
  rw[hD];unfold aC at hv ⊢;generalize 2^p=T at *;omega)
 clear e0 g0 m0 e1 g1 m1 e2 g2 m2 e3 g3 m3 f1 f2 f3;have HEN:=Lib.hid en;clear en
 go_enter func195,ntmps195
 go_wp2_with fail;refine wp_loop_rounds 5 ?_;rw[rounds_succ];go_wp2_with fail;rw[rounds_succ];go_wp2_with fail
 go_region
 go_wp2_with fail;rw[rounds_succ];go_wp2_with fail
 go_region
 go_wp2_with fail;rw[rounds_succ];go_wp2_with fail
 go_region
 go_wp2_with fail;rw[rounds_succ];go_wp2_with fail;refine bodyPost_ret (v:=.agg #[.int .u64 lo0,.int .u64 s1,.int .u64 s2,.int .u64 s3]) (by simp[results,results195,go_sem]) rfl ?_;refine⟨lo0,s1,s2,s3,rfl,⟨bl0,bs1,bs2,bs3⟩,HF.out,?_⟩
 repeat (first|exact Below.refl _ _|refine Below.drew ?_|refine Below.alloc ?_ (by first|(simp; done)|(simp; omega)) _)
theorem aTS (a0 a1 a2 a3:Nat) (n:Int) (ha:bV a0 a1 a2 a3) (h0:0<n) (hq:n/64=1) (w:World) :
  Calls prog 195 #[.agg #[.int .u64 a0,.int .u64 a1,.int .u64 a2,.int .u64 a3],.int .i64 n] w (dB (fun v=>v=aC a0 a1 a2 a3*2^n.toNat%115792089237316195423570985008687907853269984665640564039457584007913129639936) w):=by
 obtain⟨p,hr,hp,en⟩:=Ca (by omega) 1 hq (by omega);have b1:n<256:=by omega
 have t0:decide (n≤0)=false:=decide_eq_false (by omega);obtain⟨lo0,hi0,u0,d0,bl0,bh0,e0,g0,m0⟩:=vF (a:=a0) (p:=p) ha.1 hp;obtain⟨lo1,hi1,u1,d1,ET,bh1,e1,g1,m1⟩:=vF (a:=a1) (p:=p) ha.2.1 hp;obtain⟨lo2,hi2,u2,d2,rM,bh2,e2,g2,m2⟩:=vF (a:=a2) (p:=p) ha.2.2.1 hp;obtain⟨s1,o1,bs1,f1⟩:=OC ET bh0 g0 m1;obtain⟨s2,o2,bs2,f2⟩:=OC rM bh1 g1 m2;have HF:Hid (aC 0 lo0 s1 s2=aC a0 a1 a2 a3*2^n.toNat%115792089237316195423570985008687907853269984665640564039457584007913129639936):=Lib.hid (by
  have hk:bV 0 lo0 s1 s2:=⟨(by omega),bl0,bs1,bs2⟩;rw[en,yA];have:=e0.out;have:=e1.out;have:=e2.out;have:=f1.out;have:=f2.out;have hv:=bK hk;have hT:aC a0 a1 a2 a3*(18446744073709551616^((1:Int)).toNat*2^p)=aC a0 a1 a2 a3*2^p*18446744073709551616:=by
   rw[show 18446744073709551616^((1:Int)).toNat=18446744073709551616 by simp,Nat.mul_comm 18446744073709551616,Nat.mul_assoc]
  rw[hT];have hD:aC a0 a1 a2 a3*2^p=a0*2^p+18446744073709551616*(a1*2^p)+340282366920938463463374607431768211456*(a2*2^p)+6277101735386680763835789423207666416102355444464034512896*(a3*2^p):=by
   unfold aC; simp only[Nat.add_mul,Nat.mul_assoc]; omega
  rw[hD];unfold aC at hv ⊢;generalize 2^p=T at *;omega)
 clear e0 g0 m0 e1 g1 m1 e2 g2 m2 f1 f2;have HEN:=Lib.hid en;clear en
 go_enter func195,ntmps195
 go_wp2_with fail;refine wp_loop_rounds 4 ?_;rw[rounds_succ];go_wp2_with fail;rw[rounds_succ];go_wp2_with fail
 go_region
 go_wp2_with fail;rw[rounds_succ];go_wp2_with fail
 go_region
 go_wp2_with fail;rw[rounds_succ];go_wp2_with fail;refine bodyPost_ret (v:=.agg #[.int .u64 0,.int .u64 lo0,.int .u64 s1,.int .u64 s2]) (by simp[results,results195,go_sem]) rfl ?_;refine⟨0,lo0,s1,s2,rfl,⟨(by omega),bl0,bs1,bs2⟩,HF.out,?_⟩
 repeat (first|exact Below.refl _ _|refine Below.drew ?_|refine Below.alloc ?_ (by first|(simp; done)|(simp; omega)) _)
theorem aTR (a0 a1 a2 a3:Nat) (n:Int) (ha:bV a0 a1 a2 a3) (h0:0<n) (hq:n/64=2) (w:World) :
  Calls prog 195 #[.agg #[.int .u64 a0,.int .u64 a1,.int .u64 a2,.int .u64 a3],.int .i64 n] w (dB (fun v=>v=aC a0 a1 a2 a3*2^n.toNat%115792089237316195423570985008687907853269984665640564039457584007913129639936) w):=by
 obtain⟨p,hr,hp,en⟩:=Ca (by omega) 2 hq (by omega);have b1:n<256:=by omega
 have t0:decide (n≤0)=false:=decide_eq_false (by omega);obtain⟨lo0,hi0,u0,d0,bl0,bh0,e0,g0,m0⟩:=vF (a:=a0) (p:=p) ha.1 hp;obtain⟨lo1,hi1,u1,d1,ET,bh1,e1,g1,m1⟩:=vF (a:=a1) (p:=p) ha.2.1 hp;obtain⟨s1,o1,bs1,f1⟩:=OC ET bh0 g0 m1;have HF:Hid (aC 0 0 lo0 s1=aC a0 a1 a2 a3*2^n.toNat%115792089237316195423570985008687907853269984665640564039457584007913129639936):=Lib.hid (by
  have hk:bV 0 0 lo0 s1:=⟨(by omega),(by omega),bl0,bs1⟩;rw[en,yA];have:=e0.out;have:=e1.out;have:=f1.out;have hv:=bK hk;have hT:aC a0 a1 a2 a3*(18446744073709551616^((2:Int)).toNat*2^p)=aC a0 a1 a2 a3*2^p*340282366920938463463374607431768211456:=by
   rw[show 18446744073709551616^((2:Int)).toNat=340282366920938463463374607431768211456 by simp,Nat.mul_comm 340282366920938463463374607431768211456,Nat.mul_assoc]
  rw[hT];have hD:aC a0 a1 a2 a3*2^p=a0*2^p+18446744073709551616*(a1*2^p)+340282366920938463463374607431768211456*(a2*2^p)+6277101735386680763835789423207666416102355444464034512896*(a3*2^p):=by
   unfold aC; simp only[Nat.add_mul,Nat.mul_assoc]; omega
  rw[hD];unfold aC at hv ⊢;generalize 2^p=T at *;omega)
 clear e0 g0 m0 e1 g1 m1 f1;have HEN:=Lib.hid en;clear en
 go_enter func195,ntmps195
 go_wp2_with fail;refine wp_loop_rounds 3 ?_;rw[rounds_succ];go_wp2_with fail;rw[rounds_succ];go_wp2_with fail
 go_region
 go_wp2_with fail;rw[rounds_succ];go_wp2_with fail;refine bodyPost_ret (v:=.agg #[.int .u64 0,.int .u64 0,.int .u64 lo0,.int .u64 s1]) (by simp[results,results195,go_sem]) rfl ?_;refine⟨0,0,lo0,s1,rfl,⟨(by omega),(by omega),bl0,bs1⟩,HF.out,?_⟩
 repeat (first|exact Below.refl _ _|refine Below.drew ?_|refine Below.alloc ?_ (by first|(simp; done)|(simp; omega)) _)
theorem aTQ (a0 a1 a2 a3:Nat) (n:Int) (ha:bV a0 a1 a2 a3) (h0:0<n) (hq:n/64=3) (w:World) :
  Calls prog 195 #[.agg #[.int .u64 a0,.int .u64 a1,.int .u64 a2,.int .u64 a3],.int .i64 n] w (dB (fun v=>v=aC a0 a1 a2 a3*2^n.toNat%115792089237316195423570985008687907853269984665640564039457584007913129639936) w):=by
 obtain⟨p,hr,hp,en⟩:=Ca (by omega) 3 hq (by omega);have b1:n<256:=by omega
 have t0:decide (n≤0)=false:=decide_eq_false (by omega);obtain⟨lo0,hi0,u0,d0,bl0,bh0,e0,g0,m0⟩:=vF (a:=a0) (p:=p) ha.1 hp;have HF:Hid (aC 0 0 0 lo0=aC a0 a1 a2 a3*2^n.toNat%115792089237316195423570985008687907853269984665640564039457584007913129639936):=Lib.hid (by
  have hk:bV 0 0 0 lo0:=⟨(by omega),(by omega),(by omega),bl0⟩;rw[en,yA];have:=e0.out;have hv:=bK hk;have hT:aC a0 a1 a2 a3*(18446744073709551616^((3:Int)).toNat*2^p)=aC a0 a1 a2 a3*2^p*6277101735386680763835789423207666416102355444464034512896:=by
   rw[show 18446744073709551616^((3:Int)).toNat=6277101735386680763835789423207666416102355444464034512896 by simp,Nat.mul_comm 6277101735386680763835789423207666416102355444464034512896,Nat.mul_assoc]
  rw[hT];have hD:aC a0 a1 a2 a3*2^p=a0*2^p+18446744073709551616*(a1*2^p)+340282366920938463463374607431768211456*(a2*2^p)+6277101735386680763835789423207666416102355444464034512896*(a3*2^p):=by
   unfold aC; simp only[Nat.add_mul,Nat.mul_assoc]; omega
  rw[hD];unfold aC at hv ⊢;generalize 2^p=T at *;omega)
 clear e0 g0 m0;have HEN:=Lib.hid en;clear en
 go_enter func195,ntmps195
 go_wp2_with fail;refine wp_loop_rounds 2 ?_;rw[rounds_succ];go_wp2_with fail;rw[rounds_succ];go_wp2_with fail;refine bodyPost_ret (v:=.agg #[.int .u64 0,.int .u64 0,.int .u64 0,.int .u64 lo0]) (by simp[results,results195,go_sem]) rfl ?_;refine⟨0,0,0,lo0,rfl,⟨(by omega),(by omega),(by omega),bl0⟩,HF.out,?_⟩
 repeat (first|exact Below.refl _ _|refine Below.drew ?_|refine Below.alloc ?_ (by first|(simp; done)|(simp; omega)) _)
theorem aAw (a0 a1 a2 a3:Nat) (n:Int) (ha:bV a0 a1 a2 a3) (h0:n≤0) (w:World) :
  Calls prog 195 #[.agg #[.int .u64 a0,.int .u64 a1,.int .u64 a2,.int .u64 a3],.int .i64 n] w (dB (fun v=>v=aC a0 a1 a2 a3) w):=by
 have t0:decide (n≤0)=true:=decide_eq_true h0
 go_enter func195,ntmps195
 go_wp2_with fail;refine bodyPost_ret (v:=.agg #[.int .u64 a0,.int .u64 a1,.int .u64 a2,.int .u64 a3]) (by simp[results,results195,go_sem]) rfl ?_;refine⟨a0,a1,a2,a3,rfl,ha,rfl,?_⟩
 repeat (first|exact Below.refl _ _|refine Below.drew ?_|refine Below.alloc ?_ (by first|(simp; done)|(simp; omega)) _)
theorem aHz (a0 a1 a2 a3:Nat) (n:Int) (ha:bV a0 a1 a2 a3) (h0:256≤n) (h1:n≤9223372036854775807) (w:World) :
  Calls prog 195 #[.agg #[.int .u64 a0,.int .u64 a1,.int .u64 a2,.int .u64 a3],.int .i64 n] w (dB (fun v=>v=0) w):=by
 have t0:decide (n≤0)=false:=decide_eq_false (by omega);obtain⟨q,hq,bq,bq'⟩:∃q:Nat,n/64=(q:Int)∧4≤q∧q≤9223372036854775807:=⟨(n/64).toNat,by omega,by omega,by omega⟩
 have t1:decide ((0:Int)<4-(q:Int))=false:=decide_eq_false (by omega)
 go_enter func195,ntmps195
 go_wp2_with fail;refine wp_loop_rounds 1 ?_;rw[rounds_succ];go_wp2_with fail;refine bodyPost_ret (v:=.agg #[.int .u64 0,.int .u64 0,.int .u64 0,.int .u64 0]) (by simp[results,results195,go_sem]) rfl ?_;refine⟨0,0,0,0,rfl,⟨by omega,by omega,by omega,by omega⟩,rfl,?_⟩
 repeat (first|exact Below.refl _ _|refine Below.drew ?_|refine Below.alloc ?_ (by first|(simp; done)|(simp; omega)) _)
theorem zW (a0 a1 a2 a3:Nat) (n:Int) (ha:bV a0 a1 a2 a3) (h0:0≤n) (h1:n≤9223372036854775807) (w:World) :
  Calls prog 195 #[.agg #[.int .u64 a0,.int .u64 a1,.int .u64 a2,.int .u64 a3],.int .i64 n] w (dB (fun v=>v=aC a0 a1 a2 a3*2^n.toNat%115792089237316195423570985008687907853269984665640564039457584007913129639936) w):=by
 by_cases hz:n≤0
 ·refine (aAw a0 a1 a2 a3 n ha hz w).mono ?_
  rintro e w' ⟨s0,s1,s2,s3,he,hs,hv,hb⟩
  refine⟨s0,s1,s2,s3,he,hs,?_,hb⟩;have:=bK ha;rw[hv,show n.toNat=0 by omega,Nat.pow_zero]; omega
 ·by_cases hf:256≤n
  ·refine (aHz a0 a1 a2 a3 n ha hf h1 w).mono ?_
   rintro e w' ⟨s0,s1,s2,s3,he,hs,hv,hb⟩
   refine⟨s0,s1,s2,s3,he,hs,?_,hb⟩;rw[hv];obtain⟨k,hk⟩:∃k,n.toNat=256+k:=⟨n.toNat-256,by omega⟩
   rw[hk,Nat.pow_add,Nat.mul_left_comm,show (2:Nat)^256=115792089237316195423570985008687907853269984665640564039457584007913129639936 by simp];exact (Nat.mul_mod_right _ _).symm
  ·have hq:n/64=0∨n/64=1∨n/64=2∨n/64=3:=by omega
   rcases hq with h|h|h|h
   ·exact aTT a0 a1 a2 a3 n ha (by omega) h w
   ·exact aTS a0 a1 a2 a3 n ha (by omega) h w
   ·exact aTR a0 a1 a2 a3 n ha (by omega) h w
   ·exact aTQ a0 a1 a2 a3 n ha (by omega) h w
theorem aJT {m L:Nat} (hL:L≤256) (h:LenIs m L) (hm:0<m):0<L∧m*2^(256-L)<115792089237316195423570985008687907853269984665640564039457584007913129639936∧57896044618658097711785492504343953926634992332820282019728792003956564819968≤m*2^(256-L):=by
 have hpos:0<L:=by
  rcases Nat.eq_zero_or_pos L with e|e
  ·subst e; have:=h.1; simp at this; omega
  ·exact e
 have e:2^L*2^(256-L)=115792089237316195423570985008687907853269984665640564039457584007913129639936:=by rw[←Nat.pow_add,show L+(256-L)=256 by omega]
 have e':2^(L-1)*2^(256-L)=57896044618658097711785492504343953926634992332820282019728792003956564819968:=by rw[←Nat.pow_add,show L-1+(256-L)=255 by omega]
 refine⟨hpos,?_,?_⟩
 ·have:=Nat.mul_lt_mul_of_pos_right h.1 (Nat.two_pow_pos (256-L));rw[e]at this; exact this
 ·have:=Nat.mul_le_mul_right (2^(256-L)) (h.2 hpos);rw[e']at this; exact this
theorem aGX {b0 b1 b2 b3:Nat} (h:bV b0 b1 b2 b3) (hb:57896044618658097711785492504343953926634992332820282019728792003956564819968≤aC b0 b1 b2 b3):9223372036854775808≤b3:=by
 obtain⟨h0,h1,h2,h3⟩:=h;unfold aC at hb; omega
theorem aIo {x m L:Nat} (hL:L≤256) (hm:0<m) (hx:x<115792089237316195423570985008687907853269984665640564039457584007913129639936):x/2^L<m*2^(256-L):=by
 have e:2^(256-L)*2^L=115792089237316195423570985008687907853269984665640564039457584007913129639936:=by rw[←Nat.pow_add,show 256-L+L=256 by omega]
 have h1:x/2^L<2^(256-L):=by rw[Nat.div_lt_iff_lt_mul (Nat.two_pow_pos _),e]; exact hx
 have h2:=Nat.mul_le_mul_right (2^(256-L)) (show 1≤m from hm);omega
theorem UX {x L:Nat} (hL:L≤256):x/2^L*115792089237316195423570985008687907853269984665640564039457584007913129639936+x*2^(256-L)%115792089237316195423570985008687907853269984665640564039457584007913129639936=x*2^(256-L):=by
 have e:2^L*2^(256-L)=115792089237316195423570985008687907853269984665640564039457584007913129639936:=by rw[←Nat.pow_add,show L+(256-L)=256 by omega]
 have hd:x*2^(256-L)/115792089237316195423570985008687907853269984665640564039457584007913129639936=x/2^L:=by rw[←e]; exact Nat.mul_div_mul_right _ _ (Nat.two_pow_pos _)
 rw[←hd]; omega
theorem aDL {x y L:Nat} (hL:L≤256) (hy:y<115792089237316195423570985008687907853269984665640564039457584007913129639936):(x*2^(256-L)%115792089237316195423570985008687907853269984665640564039457584007913129639936) ||| (y/2^L)=x*2^(256-L)%115792089237316195423570985008687907853269984665640564039457584007913129639936+y/2^L:=by
 have e:2^L*2^(256-L)=115792089237316195423570985008687907853269984665640564039457584007913129639936:=by rw[←Nat.pow_add,show L+(256-L)=256 by omega]
 have hlt:y/2^L<2^(256-L):=by rw[Nat.div_lt_iff_lt_mul (Nat.two_pow_pos _),Nat.mul_comm,e]; exact hy
 have hm:x*2^(256-L)%115792089237316195423570985008687907853269984665640564039457584007913129639936=2^(256-L)*(x%2^L):=by
  rw[←e,Nat.mul_mod_mul_right,Nat.mul_comm]
 rw[hm,←Nat.two_pow_add_eq_or_of_lt hlt]
theorem Xe (n m x b:Nat):((n%b)*m+x)%b=(n*m+x)%b:=by
 rw[Nat.add_mod,Nat.mul_mod,Nat.mod_mod,←Nat.mul_mod,←Nat.add_mod]
theorem aJM {h l m L r1 r2:Nat} (hL:L≤256)
  (e1:r1=(h/2^L*115792089237316195423570985008687907853269984665640564039457584007913129639936+(h*2^(256-L)%115792089237316195423570985008687907853269984665640564039457584007913129639936+l/2^L))%(m*2^(256-L)))
  (e2:r2=(r1*115792089237316195423570985008687907853269984665640564039457584007913129639936+l*2^(256-L)%115792089237316195423570985008687907853269984665640564039457584007913129639936)%(m*2^(256-L))):r2/2^(256-L)=(h*115792089237316195423570985008687907853269984665640564039457584007913129639936+l)%m:=by
 have k1:=UX (x:=h) hL;have k2:=UX (x:=l) hL;rw[e1,Xe]at e2;have e3:(h/2^L*115792089237316195423570985008687907853269984665640564039457584007913129639936+(h*2^(256-L)%115792089237316195423570985008687907853269984665640564039457584007913129639936+l/2^L))*115792089237316195423570985008687907853269984665640564039457584007913129639936+l*2^(256-L)%115792089237316195423570985008687907853269984665640564039457584007913129639936=(h*115792089237316195423570985008687907853269984665640564039457584007913129639936+l)*2^(256-L):=by
  have:(h*115792089237316195423570985008687907853269984665640564039457584007913129639936+l)*2^(256-L)=h*2^(256-L)*115792089237316195423570985008687907853269984665640564039457584007913129639936+l*2^(256-L):=by rw[Nat.add_mul,Nat.mul_right_comm]
  rw[this];generalize h*2^(256-L)%115792089237316195423570985008687907853269984665640564039457584007913129639936=Q at *;generalize l*2^(256-L)%115792089237316195423570985008687907853269984665640564039457584007913129639936=U at *;rw[←k1,←k2];simp only[Nat.add_mul,Nat.add_assoc]
 rw[e3,Nat.mul_mod_mul_right]at e2;rw[e2,Nat.mul_div_cancel _ (Nat.two_pow_pos _)]
def aLs (P:Nat→Nat→Prop) (w:World) (e:Ending) (w':World):Prop :=
 ∃s0 s1 s2 s3 c:Nat,e=.returned (.tuple #[.agg #[.int .u64 s0,.int .u64 s1,.int .u64 s2,.int .u64 s3],.int .i64 c])∧bV s0 s1 s2 s3∧P (aC s0 s1 s2 s3) c∧Below w.heap.size w w'
theorem Xy (a0 a1 a2 a3:Nat) (w:World):(Op.equalIn 10000 67 (.agg #[.int .u64 a0,.int .u64 a1,.int .u64 a2,.int .u64 a3]) (.agg #[.int .u64 0,.int .u64 0,.int .u64 0,.int .u64 0])).run prog w=.ok (Qz a0 a1 a2 a3 0 0 0 0) w :=
 JI 9998 a0 a1 a2 a3 0 0 0 0 w
structure MR (w wr:World) (g9 g10:Nat) (h0 h1 h2 h3 l0 l1 l2 l3 b0 b1 b2 b3 r0 r1 r2 r3:Nat):Prop where
 below:Below w.heap.size w wr
 lo:w.heap.size+1+1+1<g9
 mid:g9<g10
 size:g10<wr.heap.size
 rowH:Row4 wr w.heap.size h0 h1 h2 h3
 rowL:Row4 wr (w.heap.size+1) l0 l1 l2 l3
 rowB:Row4 wr g9 b0 b1 b2 b3
 rowR:Row4 wr g10 r0 r1 r2 r3
 rowO:Row4 wr (w.heap.size+1+1+1) 0 0 0 0
theorem MR.on {w wr w':World} {g9 g10:Nat} {h0 h1 h2 h3 l0 l1 l2 l3 b0 b1 b2 b3 r0 r1 r2 r3:Nat} (m:MR w wr g9 g10 h0 h1 h2 h3 l0 l1 l2 l3 b0 b1 b2 b3 r0 r1 r2 r3) (hb:Below wr.heap.size wr w'):MR w w' g9 g10 h0 h1 h2 h3 l0 l1 l2 l3 b0 b1 b2 b3 r0 r1 r2 r3 :=
 ⟨m.below.trans (hb.mono m.below.size),m.lo,m.mid,Nat.lt_of_lt_of_le m.size hb.size,m.rowH.below hb (by have:=m.lo; have:=m.mid; have:=m.size; omega),m.rowL.below hb (by have:=m.lo; have:=m.mid; have:=m.size; omega),
  m.rowB.below hb (by have:=m.mid; have:=m.size; omega),m.rowR.below hb m.size,m.rowO.below hb (by have:=m.lo; have:=m.mid; have:=m.size; omega)⟩
theorem MR.drewN {w wr:World} {g9 g10:Nat} {h0 h1 h2 h3 l0 l1 l2 l3 b0 b1 b2 b3 r0 r1 r2 r3:Nat} (m:MR w wr g9 g10 h0 h1 h2 h3 l0 l1 l2 l3 b0 b1 b2 b3 r0 r1 r2 r3) (n:Nat):MR w (wr.drewN n) g9 g10 h0 h1 h2 h3 l0 l1 l2 l3 b0 b1 b2 b3 r0 r1 r2 r3:=m.on (bD _ _ n)
theorem MR.onDrew {w wr w':World} {g9 g10:Nat} {h0 h1 h2 h3 l0 l1 l2 l3 b0 b1 b2 b3 r0 r1 r2 r3:Nat} (m:MR w wr g9 g10 h0 h1 h2 h3 l0 l1 l2 l3 b0 b1 b2 b3 r0 r1 r2 r3) (hb:Below wr.drew.heap.size wr.drew w'):MR w w' g9 g10 h0 h1 h2 h3 l0 l1 l2 l3 b0 b1 b2 b3 r0 r1 r2 r3:=(m.drewN 1).on hb
theorem MR.put {w wr:World} {g9 g10:Nat} {h0 h1 h2 h3 l0 l1 l2 l3 b0 b1 b2 b3 r0 r1 r2 r3:Nat} (m:MR w wr g9 g10 h0 h1 h2 h3 l0 l1 l2 l3 b0 b1 b2 b3 r0 r1 r2 r3) (s0 s1 s2 s3:Nat):MR w (set4 wr g10 s0 s1 s2 s3) g9 g10 h0 h1 h2 h3 l0 l1 l2 l3 b0 b1 b2 b3 s0 s1 s2 s3 :=
 ⟨bG m.below (by have:=m.lo; have:=m.mid; omega) _ _ _ _,m.lo,m.mid,by unfold set4; simp only[World.size_setCell]; exact m.size,m.rowH.set4_other (by have:=m.lo; have:=m.mid; omega) _ _ _ _,m.rowL.set4_other (by have:=m.lo; have:=m.mid; omega) _ _ _ _,
  m.rowB.set4_other (by have:=m.mid; omega) _ _ _ _,m.rowR.set4 _ _ _ _,m.rowO.set4_other (by have:=m.lo; have:=m.mid; omega) _ _ _ _⟩
set_option maxHeartbeats 4000000 in
theorem aDo (h0 h1 h2 h3 l0 l1 l2 l3 m0 m1 m2 m3:Nat) (hh:bV h0 h1 h2 h3) (hl:bV l0 l1 l2 l3) (hm:bV m0 m1 m2 m3) (hpz:0<aC m0 m1 m2 m3) (w:World) :
  Calls prog 182 #[.agg #[.int .u64 h0,.int .u64 h1,.int .u64 h2,.int .u64 h3],.agg #[.int .u64 l0,.int .u64 l1,.int .u64 l2,.int .u64 l3],.agg #[.int .u64 m0,.int .u64 m1,.int .u64 m2,.int .u64 m3]] w (aLs (fun v c=>v=(aC h0 h1 h2 h3*115792089237316195423570985008687907853269984665640564039457584007913129639936+aC l0 l1 l2 l3)%aC m0 m1 m2 m3∧c=0) w):=by
 have hE:=fun w=>Xy m0 m1 m2 m3 w
 have hG:=Cf;have q:Qz m0 m1 m2 m3 0 0 0 0=false:=by
  have:=yV hm (show bV 0 0 0 0 from⟨by omega,by omega,by omega,by omega⟩)
  rcases h:Qz m0 m1 m2 m3 0 0 0 0 with _|_
  ·rfl
  ·exact absurd (this.1 h) (by unfold aC at hpz ⊢; omega)
 rw[q]at hE;clear q
 go_enter func182,ntmps182
 go_wp2_with fail;refine (BC m0 m1 m2 m3 hm _).mono ?_
 rintro e w1 ⟨L,rfl,bL,lenL,hbl⟩
 obtain⟨hpos,hb1,hb2⟩:=aJT bL lenL hpz;obtain⟨S,eS⟩:∃S,S=256-L:=⟨_,rfl⟩
 have wS:(256:Int)-(L:Int)=(S:Int):=by omega
 have wL:(256:Int)-(S:Int)=(L:Int):=by omega
 have bS:S≤256:=by omega
 have H1:=(((Row4.new w h0 h1 h2 h3 67).alloc (by simp) _).alloc (by simp; omega) _).alloc (by simp; omega) _ |>.below hbl (by simp; omega)
 have L1:=(((Row4.new (w.alloc _) l0 l1 l2 l3 67).alloc (by simp) _).alloc (by simp) _).below hbl (by simp);have M1:=((Row4.new ((w.alloc _).alloc _) m0 m1 m2 m3 67).alloc (by simp) _).below hbl (by simp);have O1:=(Row4.new (((w.alloc _).alloc _).alloc _) 0 0 0 0 67).below hbl (by simp);simp only[World.size_alloc]at L1 M1 O1;have hz1:w.heap.size+1+1+1<w1.heap.size:=by have:=hbl.size; simp at this; omega
 have B1:=(aFO w _ _ _ _).trans (hbl.mono (by simp; omega));have HeS:=Lib.hid eS; have Hb1:=Lib.hid hb1; have Hb2:=Lib.hid hb2; have HL:=Lib.hid lenL; have HB1:=Lib.hid B1;have HH1:=Lib.hid H1; have HL1:=Lib.hid L1; have HM1:=Lib.hid M1; have HO1:=Lib.hid O1;have y0:w.heap.size<w1.heap.size:=by omega
 have y1:w.heap.size+1<w1.heap.size:=by omega
 have y2:w.heap.size+1+1<w1.heap.size:=by omega
 obtain⟨m0',m1',m2',m3',mf⟩:=M1;clear hE hG eS hb1 hb2 lenL B1 H1 L1 O1 hbl;go_wp2_with fail;refine (zW m0 m1 m2 m3 S hm (by omega) (by omega) _).mono ?_
 rintro e w2 ⟨b0,b1,b2,b3,rfl,hb,vb,hbl⟩
 rw[Int.toNat_natCast]at vb;have H2:=HH1.out.below hbl y0;have L2:=HL1.out.below hbl y1;have O2:=HO1.out.below hbl hz1;have hz2:w1.heap.size≤w2.heap.size:=hbl.size;have B2:=HB1.out.trans (hbl.mono HB1.out.size);have HH2:=Lib.hid H2; have HL2:=Lib.hid L2; have HO2:=Lib.hid O2; have HB2:=Lib.hid B2; have Hvb:=Lib.hid vb;have z0:w.heap.size<w2.heap.size:=by omega
 have z1:w.heap.size+1<w2.heap.size:=by omega
 have z3:w.heap.size+1+1+1<w2.heap.size:=by omega
 obtain⟨h0',h1',h2',h3',hf⟩:=H2;clear L2 O2 B2 vb hbl m0' m1' m2' m3' mf;go_wp2_with fail;refine (tX h0 h1 h2 h3 L hh (by omega) (by omega) _).mono ?_
 rintro e w3 ⟨r0,r1,r2,r3,rfl,hr,vr,hbl⟩
 rw[Int.toNat_natCast]at vr;clear h0' h1' h2' h3' hf;have MR1:MR w (w3.alloc (.cells #[.int .u64 r0,.int .u64 r1,.int .u64 r2,.int .u64 r3] 67)) w2.heap.size w3.heap.size h0 h1 h2 h3 l0 l1 l2 l3 b0 b1 b2 b3 r0 r1 r2 r3:=by
  have hb':=hbl;have hz3:=hb'.size;rw[World.size_alloc]at hz3;have hall:∀{x:Nat} {c0 c1 c2 c3:Nat},Row4 w2 x c0 c1 c2 c3→x<w2.heap.size→Row4 (w3.alloc (.cells #[.int .u64 r0,.int .u64 r1,.int .u64 r2,.int .u64 r3] 67)) x c0 c1 c2 c3:=fun q hx =>
   ((q.alloc hx _).below hb' (by rw[World.size_alloc]; omega)).alloc (by omega) _
  refine⟨((HB2.out.alloc (by omega) _).trans (hb'.mono (by rw[World.size_alloc]; omega))).alloc (by omega) _,z3,by omega,by simp,hall HH2.out z0,hall HL2.out z1,?_,Row4.new _ _ _ _ _ _,hall HO2.out z3⟩;exact ((Row4.new w2 b0 b1 b2 b3 67).below hb' (by simp)).alloc (by omega) _
 go_wp2_with fail;clear hbl;have Hvr:=Lib.hid vr;clear vr;generalize w3.alloc (.cells #[.int .u64 r0,.int .u64 r1,.int .u64 r2,.int .u64 r3] 67)=W at *;generalize w2.heap.size=g9 at *;generalize w3.heap.size=g10 at *;have M:=MR1;clear MR1;have wLL:IntKind.i64.wrap (L:Int)=(L:Int):=by simp[IntKind.wrap,IntKind.bits,IntKind.signed]; omega
 have HM:=Lib.hid M;have evb:aC b0 b1 b2 b3=aC m0 m1 m2 m3*2^S:=by rw[Hvb.out,HeS.out,Nat.mod_eq_of_lt Hb1.out]
 have hb3:9223372036854775808≤b3:=aGX hb (by rw[evb,HeS.out]; exact Hb2.out);have hrb:aC r0 r1 r2 r3<aC b0 b1 b2 b3:=by rw[evb,Hvr.out,HeS.out]; exact aIo bL hpz (bK hh)
 have Hevb:=Lib.hid evb;clear evb;clear M y0 y1 y2 z0 z1 z3 hz1 hz2 HH1 HL1 HM1 HO1 HB1 HH2 HL2 HO2 HB2;have g0:∀k,W.cell? ⟨w.heap.size,k,none⟩=W.cell? ⟨w.heap.size,k,none⟩:=fun _=>rfl
 clear g0;clear wS wL;have wL':IntKind.i64.wrap (256-(S:Int))=(L:Int):=by have:=HeS.out; simp[IntKind.wrap,IntKind.bits,IntKind.signed]; omega
 go_wp2_with fail;refine eH (fun wx=>MR w wx g9 g10 h0 h1 h2 h3 l0 l1 l2 l3 b0 b1 b2 b3 r0 r1 r2 r3) 11 (by kernel_rfl) ?_;have HS:(fun wx=>MR w wx g9 g10 h0 h1 h2 h3 l0 l1 l2 l3 b0 b1 b2 b3 r0 r1 r2 r3) W.drew:=HM.out.drewN 1;refine aK (i:=0) (v:=.agg #[.int .u64 r0,.int .u64 r1,.int .u64 r2,.int .u64 r3]) rfl (by kernel_rfl) (by kernel_rfl) (by kernel_rfl) (by kernel_rfl) (fun _ _ _ h=>h) HS (Or.inl ⟨by rfl,fun wx hx => ?_⟩) ?_
 ·obtain⟨k0,k1,k2,k3,kf⟩:=MR.rowR hx;clear HS;go_simp
 simp only[Act.put,List.setIfInBounds_toArray,List.set_cons_zero,List.set_cons_succ];refine aK (i:=1) (v:=.agg #[.int .u64 h0,.int .u64 h1,.int .u64 h2,.int .u64 h3]) rfl (by kernel_rfl) (by kernel_rfl) (by kernel_rfl) (by kernel_rfl) (fun _ _ _ h=>h) HS (Or.inl ⟨by rfl,fun wx hx => ?_⟩) ?_
 ·obtain⟨k0,k1,k2,k3,kf⟩:=MR.rowH hx;clear HS;go_simp
 simp only[Act.put,List.setIfInBounds_toArray,List.set_cons_zero,List.set_cons_succ];refine aK (i:=2) (v:=.int .i64 (S:Nat)) rfl (by kernel_rfl) (by kernel_rfl) (by kernel_rfl) (by kernel_rfl) (fun _ _ _ h=>h) HS (Or.inl ⟨by rfl,fun wx hx => ?_⟩) ?_
 ·clear hx HS;go_simp
 simp only[Act.put,List.setIfInBounds_toArray,List.set_cons_zero,List.set_cons_succ];refine aK (i:=4) (v:=.agg #[.int .u64 l0,.int .u64 l1,.int .u64 l2,.int .u64 l3]) rfl (by kernel_rfl) (by kernel_rfl) (by kernel_rfl) (by kernel_rfl) (fun _ _ _ h=>h) HS (Or.inl ⟨by rfl,fun wx hx => ?_⟩) ?_
 ·obtain⟨k0,k1,k2,k3,kf⟩:=MR.rowL hx;clear HS;go_simp
 simp only[Act.put,List.setIfInBounds_toArray,List.set_cons_zero,List.set_cons_succ];refine aK (i:=5) (v:=.int .i64 (S:Nat)) rfl (by kernel_rfl) (by kernel_rfl) (by kernel_rfl) (by kernel_rfl) (fun _ _ _ h=>h) HS (Or.inl ⟨by rfl,fun wx hx => ?_⟩) ?_
 ·clear hx HS;go_simp
 simp only[Act.put,List.setIfInBounds_toArray,List.set_cons_zero,List.set_cons_succ];refine aK (i:=6) (v:=.int .i64 (L:Nat)) rfl (by kernel_rfl) (by kernel_rfl) (by kernel_rfl) (by kernel_rfl) (fun _ _ _ h=>h) HS (Or.inl ⟨by rfl,fun wx hx => ?_⟩) ?_
 ·clear hx HS;go_simp
 simp only[Act.put,List.setIfInBounds_toArray,List.set_cons_zero,List.set_cons_succ];refine aK (i:=9) (v:=.agg #[.int .u64 b0,.int .u64 b1,.int .u64 b2,.int .u64 b3]) rfl (by kernel_rfl) (by kernel_rfl) (by kernel_rfl) (by kernel_rfl) (fun _ _ _ h=>h) HS (Or.inl ⟨by rfl,fun wx hx => ?_⟩) ?_
 ·obtain⟨k0,k1,k2,k3,kf⟩:=MR.rowB hx;clear HS;go_simp
 simp only[Act.put,List.setIfInBounds_toArray,List.set_cons_zero,List.set_cons_succ];clear HS;refine aN (i:=3) (by kernel_rfl) rfl (fun K hK => ?_);go_simp;refine (zW h0 h1 h2 h3 S hh (by omega) (by omega) _).mono ?_
 rintro e w4 ⟨x0,x1,x2,x3,rfl,hx,vx,hbl⟩
 rw[Int.toNat_natCast]at vx;have Hvx:=Lib.hid vx;clear vx;have M4:=HM.out.onDrew hbl;clear hbl;go_wp2_with fail;refine hK.out _ _ (Or.inr M4) (fun hHeld => ?_);clear hK K hHeld
 try simp only[Act.put,List.setIfInBounds_toArray,List.set_cons_zero,List.set_cons_succ]
 refine aN (i:=7) (by kernel_rfl) rfl (fun K hK => ?_);go_simp;refine (tX l0 l1 l2 l3 L hl (by omega) (by omega) _).mono ?_
 rintro e w5 ⟨y0,y1,y2,y3,rfl,hy,vy,hbl⟩
 rw[Int.toNat_natCast]at vy;have Hvy:=Lib.hid vy;clear vy;have M5:=M4.on hbl;clear hbl;go_wp2_with fail;refine hK.out _ _ (Or.inr M5) (fun hHeld => ?_);clear hK K hHeld
 try simp only[Act.put,List.setIfInBounds_toArray,List.set_cons_zero,List.set_cons_succ]
 refine aN (i:=8) (by kernel_rfl) rfl (fun K hK => ?_);go_simp;refine (RY x0 x1 x2 x3 y0 y1 y2 y3 hx hy _).mono ?_
 rintro e w6 ⟨z0,z1,z2,z3,rfl,hz,vz,hbl⟩
 have Hvz:=Lib.hid vz;clear vz;have M6:=M5.on hbl;clear hbl;go_wp2_with fail;refine hK.out _ _ (Or.inr M6) (fun hHeld => ?_);clear hK K hHeld
 try simp only[Act.put,List.setIfInBounds_toArray,List.set_cons_zero,List.set_cons_succ]
 refine aN (i:=10) (by kernel_rfl) rfl (fun K hK => ?_);go_simp;refine (xL r0 r1 r2 r3 z0 z1 z2 z3 b0 b1 b2 b3 hr hz hb hb3 hrb _).mono ?_
 rintro e w7 ⟨n0,n1,n2,n3,rfl,hn,vn,hbl⟩
 have Hvn:=Lib.hid vn;clear vn;have M7:=M6.on hbl;clear hbl;go_wp2_with fail;refine hK.out _ _ (Or.inr M7) (fun hHeld => ?_);clear hK K hHeld
 try simp only[Act.put,List.setIfInBounds_toArray,List.set_cons_zero,List.set_cons_succ]
 obtain⟨q0,q1,q2,q3,qf⟩:=M7.rowR;have M8:=M7.put n0 n1 n2 n3;refine aN (i:=11) (by kernel_rfl) rfl (fun K hK => ?_);have hsz:=M7.size;clear M4 M5 M6 M7;have HM8:=Lib.hid M8;clear M8;go_simp;refine hK.out _ _ (Or.inl rfl) (fun hHeld => ?_);clear hK K hHeld q0 q1 q2 q3 qf;refine dJ (by kernel_rfl) ?_;have hnb:aC n0 n1 n2 n3<aC b0 b1 b2 b3:=by rw[Hvn.out]; exact Nat.mod_lt _ (by omega)
 have HG:=HM8.out;unfold set4 at HG;generalize (((w7.setCell ⟨g10,0,none⟩ (.int .u64 (n0:Nat))).setCell ⟨g10,1,none⟩ (.int .u64 (n1:Nat))).setCell ⟨g10,2,none⟩ (.int .u64 (n2:Nat))).setCell ⟨g10,3,none⟩ (.int .u64 (n3:Nat))=W2 at HG ⊢;have HM9:=Lib.hid HG;clear HG HM8 hrb;go_wp2_with fail;refine eH (fun wx=>MR w wx g9 g10 h0 h1 h2 h3 l0 l1 l2 l3 b0 b1 b2 b3 n0 n1 n2 n3) 6 (by kernel_rfl) ?_;have HS:(fun wx=>MR w wx g9 g10 h0 h1 h2 h3 l0 l1 l2 l3 b0 b1 b2 b3 n0 n1 n2 n3) W2.drew:=HM9.out.drewN 1;refine aK (i:=0) (v:=.agg #[.int .u64 n0,.int .u64 n1,.int .u64 n2,.int .u64 n3]) rfl (by kernel_rfl) (by kernel_rfl) (by kernel_rfl) (by kernel_rfl) (fun _ _ _ h=>h) HS (Or.inl ⟨by rfl,fun wx hx => ?_⟩) ?_
 ·obtain⟨k0,k1,k2,k3,kf⟩:=MR.rowR hx;clear HS;go_simp
 simp only[Act.put,List.setIfInBounds_toArray,List.set_cons_zero,List.set_cons_succ];refine aK (i:=1) (v:=.agg #[.int .u64 l0,.int .u64 l1,.int .u64 l2,.int .u64 l3]) rfl (by kernel_rfl) (by kernel_rfl) (by kernel_rfl) (by kernel_rfl) (fun _ _ _ h=>h) HS (Or.inl ⟨by rfl,fun wx hx => ?_⟩) ?_
 ·obtain⟨k0,k1,k2,k3,kf⟩:=MR.rowL hx;clear HS;go_simp
 simp only[Act.put,List.setIfInBounds_toArray,List.set_cons_zero,List.set_cons_succ];refine aK (i:=2) (v:=.int .i64 (S:Nat)) rfl (by kernel_rfl) (by kernel_rfl) (by kernel_rfl) (by kernel_rfl) (fun _ _ _ h=>h) HS (Or.inl ⟨by rfl,fun wx hx => ?_⟩) ?_
 ·clear hx HS;go_simp
 simp only[Act.put,List.setIfInBounds_toArray,List.set_cons_zero,List.set_cons_succ];refine aK (i:=4) (v:=.agg #[.int .u64 b0,.int .u64 b1,.int .u64 b2,.int .u64 b3]) rfl (by kernel_rfl) (by kernel_rfl) (by kernel_rfl) (by kernel_rfl) (fun _ _ _ h=>h) HS (Or.inl ⟨by rfl,fun wx hx => ?_⟩) ?_
 ·obtain⟨k0,k1,k2,k3,kf⟩:=MR.rowB hx;clear HS;go_simp
 simp only[Act.put,List.setIfInBounds_toArray,List.set_cons_zero,List.set_cons_succ];clear HS;refine aN (i:=3) (by kernel_rfl) rfl (fun K hK => ?_);go_simp;refine (zW l0 l1 l2 l3 S hl (by omega) (by omega) _).mono ?_
 rintro e w8 ⟨u0,u1,u2,u3,rfl,hu,vu,hbl⟩
 rw[Int.toNat_natCast]at vu;have Hvu:=Lib.hid vu;clear vu;have M4:=HM9.out.onDrew hbl;clear hbl;go_wp2_with fail;refine hK.out _ _ (Or.inr M4) (fun hHeld => ?_);clear hK K hHeld
 try simp only[Act.put,List.setIfInBounds_toArray,List.set_cons_zero,List.set_cons_succ]
 refine aN (i:=5) (by kernel_rfl) rfl (fun K hK => ?_);go_simp;refine (xL n0 n1 n2 n3 u0 u1 u2 u3 b0 b1 b2 b3 hn hu hb hb3 hnb _).mono ?_
 rintro e w9 ⟨p0,p1,p2,p3,rfl,hp,vp,hbl⟩
 have Hvp:=Lib.hid vp;clear vp;have M7:=M4.on hbl;clear hbl;go_wp2_with fail;refine hK.out _ _ (Or.inr M7) (fun hHeld => ?_);clear hK K hHeld
 try simp only[Act.put,List.setIfInBounds_toArray,List.set_cons_zero,List.set_cons_succ]
 obtain⟨q0,q1,q2,q3,qf⟩:=M7.rowR;have M8:=M7.put p0 p1 p2 p3;refine aN (i:=6) (by kernel_rfl) rfl (fun K hK => ?_);have hsz:=M7.size;clear M4 M7;have HM8:=Lib.hid M8;clear M8;go_simp;refine hK.out _ _ (Or.inl rfl) (fun hHeld => ?_);clear hK K hHeld q0 q1 q2 q3 qf;refine dJ (by kernel_rfl) ?_;have HG:=HM8.out;unfold set4 at HG;generalize (((w9.setCell ⟨g10,0,none⟩ (.int .u64 (p0:Nat))).setCell ⟨g10,1,none⟩ (.int .u64 (p1:Nat))).setCell ⟨g10,2,none⟩ (.int .u64 (p2:Nat))).setCell ⟨g10,3,none⟩ (.int .u64 (p3:Nat))=W3 at HG ⊢;have HM10:=Lib.hid HG;obtain⟨q0,q1,q2,q3,qf⟩:=HG.rowR;clear HG HM8;go_wp2_with fail;refine (tX p0 p1 p2 p3 S hp (by omega) (by omega) _).mono ?_
 rintro e wz ⟨s0,s1,s2,s3,rfl,hs,vs,hbl⟩
 rw[Int.toNat_natCast]at vs;have HF:Hid (aC s0 s1 s2 s3=(aC h0 h1 h2 h3*115792089237316195423570985008687907853269984665640564039457584007913129639936+aC l0 l1 l2 l3)%aC m0 m1 m2 m3):=Lib.hid (by
  rw[vs,HeS.out];refine aJM (L:=L) (r1:=aC n0 n1 n2 n3) bL ?_ ?_
  ·rw[Hvn.out,Hvz.out,Hvx.out,Hvy.out,Hevb.out,Hvr.out,HeS.out,aDL bL (bK hl)]
  ·rw[Hvp.out,Hvu.out,Hevb.out,HeS.out])
 have M11:=HM10.out.on hbl;obtain⟨o0,o1,o2,o3,of⟩:=M11.rowO;have HB:=Lib.hid M11.below;clear vs hbl M11 q0 q1 q2 q3 qf;go_wp2_with fail;refine bodyPost_ret (v:=.tuple #[.agg #[.int .u64 s0,.int .u64 s1,.int .u64 s2,.int .u64 s3],.int .i64 0]) (by simp[results,results182,go_sem, *]) rfl ?_;exact⟨s0,s1,s2,s3,0,rfl,hs,⟨HF.out,rfl⟩,bG HB.out (by omega) _ _ _ _⟩
def hor (B:Nat→Nat) (s:Nat):Nat→Nat
 | 0=>0
 | n+1=>hor B s n*256+B (s+n)
def RowB (w:World) (b n:Nat) (P:Nat→Nat):Prop:=∀k,k<n→w.cell? ⟨b,k,none⟩=some (.int .u8 (P k:Nat))∧w.frozen? ⟨b,k,none⟩=false
theorem RowB.below {w w':World} {b n:Nat} {P:Nat→Nat} (h:RowB w b n P) {B:Nat} (hb:Below B w w') (hB:b<B):RowB w' b n P:=fun k hk =>
 ⟨(hb.cell (p:=⟨b,k,none⟩) hB).trans (h k hk).1,(hb.frozen (p:=⟨b,k,none⟩) hB).trans (h k hk).2⟩
theorem RowB.set {w:World} {b n i v:Nat} {P:Nat→Nat} (h:RowB w b n P) (hi:i<n):RowB (w.setCell ⟨b,i,none⟩ (.int .u8 (v:Nat))) b n (fW P i v):=by
 intro k hk;refine⟨?_,by rw[World.frozen?_setCell]; exact (h k hk).2⟩;unfold fW
 by_cases e:k=i
 ·subst e; rw[if_pos rfl]; exact World.cell?_setCell_same (h:=(h k hk).1) ..
 ·rw[if_neg e,World.cell?_setCell_other (h:=fun he=>e (by simpa using (congrArg Addr.off he).symm)) ..]; exact (h k hk).1
theorem RowB.other {w:World} {b n i:Nat} {P:Nat→Nat} (h:RowB w b n P) {c:Nat} (hc:c≠b) (x:Value):RowB (w.setCell ⟨c,i,none⟩ x) b n P:=by
 intro k hk;exact⟨by rw[World.cell?_setCell_other (h:=fun he=>hc (by simpa using congrArg Addr.block he)) ..]; exact (h k hk).1,by rw[World.frozen?_setCell]; exact (h k hk).2⟩
theorem RowB.drewN {w:World} {b n:Nat} {P:Nat→Nat} (h:RowB w b n P) (m:Nat):RowB (w.drewN m) b n P:=h
theorem RowB.ext {w:World} {b n:Nat} {P R:Nat→Nat} (h:RowB w b n P) (e:∀k,k<n→P k=R k):RowB w b n R:=fun k hk=>⟨by rw[←e k hk]; exact (h k hk).1,(h k hk).2⟩
set_option maxHeartbeats 2000000 in
theorem Jr (f:Int) (F:FC) (hf:FieldIs f F) (g0 g1 g2 g3 l0 l1 l2 l3:Nat) (hg:bV g0 g1 g2 g3) (hl:bV l0 l1 l2 l3) (w:World) :
  Calls prog 174 #[.int .i64 f,.agg #[.int .u64 g0,.int .u64 g1,.int .u64 g2,.int .u64 g3],.agg #[.int .u64 l0,.int .u64 l1,.int .u64 l2,.int .u64 l3]] w (Ss 0 ((aC g0 g1 g2 g3*115792089237316195423570985008687907853269984665640564039457584007913129639936+aC l0 l1 l2 l3)%F.M) w):=by
 go_enter func174,ntmps174
 go_wp2_with fail;refine (fU f F hf _).mono ?_
 rintro e w1 ⟨rfl,hbl⟩
 have M1:=((((Mem.nil w).new (w.heap.size) g0 g1 g2 g3 67 (by simp)).new (w.heap.size+1) l0 l1 l2 l3 67 (by simp)).new (w.heap.size+1+1) 0 0 0 0 27 (by simp)).on hbl;clear hbl;have z0:w.heap.size<w1.heap.size:=M1.lt (c0:=g0) (c1:=g1) (c2:=g2) (c3:=g3) (by simp);have z1:w.heap.size+1<w1.heap.size:=M1.lt (c0:=l0) (c1:=l1) (c2:=l2) (c3:=l3) (by simp);have z2:w.heap.size+1+1<w1.heap.size:=M1.lt (c0:=0) (c1:=0) (c2:=0) (c3:=0) (by simp);have HM:=Lib.hid (M1.on ((Below.refl _ _).alloc (Nat.le_refl _) (.cells #[.int .u64 F.m0,.int .u64 F.m1,.int .u64 F.m2,.int .u64 F.m3,.int .u64 F.inv,.int .u64 F.s0,.int .u64 F.s1,.int .u64 F.s2,.int .u64 F.s3] 164)));have KK:=Lib.hid (KIs.new w1 F 164);have kr:=M1.row (b:=w.heap.size) (c0:=g0) (c1:=g1) (c2:=g2) (c3:=g3) (by simp);have x0:=kr.c0; have x1:=kr.c1; have x2:=kr.c2; have x3:=kr.c3;clear kr;have xl:=M1.lt (b:=w.heap.size) (c0:=g0) (c1:=g1) (c2:=g2) (c3:=g3) (by simp);have kr:=M1.row (b:=w.heap.size+1) (c0:=l0) (c1:=l1) (c2:=l2) (c3:=l3) (by simp);have u0:=kr.c0; have u1:=kr.c1; have u2:=kr.c2; have u3:=kr.c3;clear kr;have ul:=M1.lt (b:=w.heap.size+1) (c0:=l0) (c1:=l1) (c2:=l2) (c3:=l3) (by simp);have k0:=KK.out.k0; have k1:=KK.out.k1; have k2:=KK.out.k2; have k3:=KK.out.k3;go_wp2_with fail;refine (aDo g0 g1 g2 g3 l0 l1 l2 l3 F.m0 F.m1 F.m2 F.m3 hg hl hf.ok.okm hf.ok.pos _).mono ?_
 rintro e w2 ⟨s0,s1,s2,s3,er,rfl,hs,⟨hv,rfl⟩,hbl⟩
 have HV:=Lib.hid hv;clear hv;have HM':=Lib.hid (HM.out.on hbl);have KK':=Lib.hid (KK.out.same hbl);have zk:=KK'.out.lt;clear HM KK hbl M1;have HM:=HM';have KK:=KK';clear HM' KK';clear zk k0 k1 k2 k3 x0 x1 x2 x3 xl u0 u1 u2 u3 ul;have wz:w.heap.size+1+1<w2.heap.size:=HM.out.lt (b:=w.heap.size+1+1) (c0:=0) (c1:=0) (c2:=0) (c3:=0) (by simp);have kr:=HM.out.row (b:=w.heap.size+1+1) (c0:=0) (c1:=0) (c2:=0) (c3:=0) (by simp);have y0:=kr.c0; have y1:=kr.c1; have y2:=kr.c2; have y3:=kr.c3; have yf:=kr.fr;clear kr;have yl:=HM.out.lt (b:=w.heap.size+1+1) (c0:=0) (c1:=0) (c2:=0) (c3:=0) (by simp);go_wp2_with fail;refine bodyPost_ret (v:=.tuple #[.agg #[.int .u64 s0,.int .u64 s1,.int .u64 s2,.int .u64 s3],.int .i64 0]) (by simp[results,results174,go_sem, *]) rfl ?_;refine⟨_,_,_,_,rfl,hs,HV.out,?_⟩
 repeat (first|exact HM.out.1|refine Below.alloc ?_ (by first|(simp; done)|(simp; omega)) _|refine Below.setCell ?_ (by first|(simp; done)|(simp; omega)) _)
theorem oV:FieldIs 1 FP:=Or.inl ⟨rfl,rfl⟩
def FwPost (x:Nat) (w:World) (e:Ending) (w':World):Prop:=e=.returned (.agg #[.int .u64 (fw x 0:Nat),.int .u64 (fw x 1:Nat),.int .u64 (fw x 2:Nat),.int .u64 (fw x 3:Nat)])∧Below w.heap.size w w'
theorem FwPost.of {x:Nat} {w:World} {e:Ending} {w':World} (hx:x<FP.M) (h:fC x w e w'):FwPost x w e w':=by
 obtain⟨s0,s1,s2,s3,rfl,hs,hv,hb⟩:=h;obtain⟨rfl,rfl,rfl,rfl⟩:=pW hs (CT hx) hv;exact⟨rfl,hb⟩
set_option maxHeartbeats 4000000 in
theorem PF (a0 a1 a2 a3 b0 b1 b2 b3:Nat) (ha:bV a0 a1 a2 a3) (hb:bV b0 b1 b2 b3) (la:aC a0 a1 a2 a3<FP.M) (lb:aC b0 b1 b2 b3<FP.M) (w:World) :
  Calls prog 155 #[.agg #[.int .u64 a0,.int .u64 a1,.int .u64 a2,.int .u64 a3],.agg #[.int .u64 b0,.int .u64 b1,.int .u64 b2,.int .u64 b3]] w (fC ((aC a0 a1 a2 a3+aC b0 b1 b2 b3)%FP.M) w):=by
 go_enter func155,ntmps155
 go_wp2_with fail;have HM:=Lib.hid ((((Mem.nil w).new (w.heap.size) a0 a1 a2 a3 27 (by simp)).new (w.heap.size+1) b0 b1 b2 b3 27 (by simp)).new (w.heap.size+1+1) 0 0 0 0 27 (by simp));refine (Qv 1 FP oV a0 a1 a2 a3 b0 b1 b2 b3 ha hb la lb _).mono ?_
 rintro e w1 ⟨s0,s1,s2,s3,rfl,hs,hv,hbl⟩
 have HV:=Lib.hid hv;have HM':=Lib.hid (HM.out.on hbl);clear hv hbl;clear HM;have HM:=HM';clear HM';have kr:=HM.out.row (b:=w.heap.size+1+1) (c0:=0) (c1:=0) (c2:=0) (c3:=0) (by simp);have y0:=kr.c0; have y1:=kr.c1; have y2:=kr.c2; have y3:=kr.c3; have yf:=kr.fr;clear kr;have yl:=HM.out.lt (b:=w.heap.size+1+1) (c0:=0) (c1:=0) (c2:=0) (c3:=0) (by simp);have HB1:=Lib.hid HM.out.1;clear HM;go_wp2_with fail;refine bodyPost_ret (v:=.agg #[.int .u64 s0,.int .u64 s1,.int .u64 s2,.int .u64 s3]) (by simp[results,results155,go_sem, *]) rfl ?_;refine⟨_,_,_,_,rfl,hs,HV.out,?_⟩;have hbx:=HB1.out;have hsz:=hbx.size
 repeat (first|exact hbx|refine Below.drew ?_|refine Below.alloc ?_ (by first|exact hsz|(simp; done)|(simp; omega)) _|refine Below.setCell ?_ (by first|(simp; done)|(simp; omega)) _)
theorem VF (x y:Nat) (hx:x<FP.M) (hy:y<FP.M) (w:World):Calls prog 155 #[.agg #[.int .u64 (fw x 0:Nat),.int .u64 (fw x 1:Nat),.int .u64 (fw x 2:Nat),.int .u64 (fw x 3:Nat)],.agg #[.int .u64 (fw y 0:Nat),.int .u64 (fw y 1:Nat),.int .u64 (fw y 2:Nat),.int .u64 (fw y 3:Nat)]] w (FwPost ((x+y)%FP.M) w):=by
 refine (PF _ _ _ _ _ _ _ _ (cQ x) (cQ y) (by rw[cM hx]; exact hx) (by rw[cM hy]; exact hy) w).mono ?_;rw[cM hx,cM hy];exact fun e w' h=>FwPost.of (Nat.mod_lt _ gF) h
set_option maxHeartbeats 4000000 in
theorem KY (a0 a1 a2 a3 b0 b1 b2 b3:Nat) (ha:bV a0 a1 a2 a3) (hb:bV b0 b1 b2 b3) (la:aC a0 a1 a2 a3<FP.M) (lb:aC b0 b1 b2 b3<FP.M) (w:World) :
  Calls prog 145 #[.agg #[.int .u64 a0,.int .u64 a1,.int .u64 a2,.int .u64 a3],.agg #[.int .u64 b0,.int .u64 b1,.int .u64 b2,.int .u64 b3]] w (fC ((aC a0 a1 a2 a3+FP.M-aC b0 b1 b2 b3)%FP.M) w):=by
 go_enter func145,ntmps145
 go_wp2_with fail;have HM:=Lib.hid ((((Mem.nil w).new (w.heap.size) a0 a1 a2 a3 27 (by simp)).new (w.heap.size+1) b0 b1 b2 b3 27 (by simp)).new (w.heap.size+1+1) 0 0 0 0 27 (by simp));refine (Qg 1 FP oV a0 a1 a2 a3 b0 b1 b2 b3 ha hb la lb _).mono ?_
 rintro e w1 ⟨s0,s1,s2,s3,rfl,hs,hv,hbl⟩
 have HV:=Lib.hid hv;have HM':=Lib.hid (HM.out.on hbl);clear hv hbl;clear HM;have HM:=HM';clear HM';have kr:=HM.out.row (b:=w.heap.size+1+1) (c0:=0) (c1:=0) (c2:=0) (c3:=0) (by simp);have y0:=kr.c0; have y1:=kr.c1; have y2:=kr.c2; have y3:=kr.c3; have yf:=kr.fr;clear kr;have yl:=HM.out.lt (b:=w.heap.size+1+1) (c0:=0) (c1:=0) (c2:=0) (c3:=0) (by simp);have HB1:=Lib.hid HM.out.1;clear HM;go_wp2_with fail;refine bodyPost_ret (v:=.agg #[.int .u64 s0,.int .u64 s1,.int .u64 s2,.int .u64 s3]) (by simp[results,results145,go_sem, *]) rfl ?_;refine⟨_,_,_,_,rfl,hs,HV.out,?_⟩;have hbx:=HB1.out;have hsz:=hbx.size
 repeat (first|exact hbx|refine Below.drew ?_|refine Below.alloc ?_ (by first|exact hsz|(simp; done)|(simp; omega)) _|refine Below.setCell ?_ (by first|(simp; done)|(simp; omega)) _)
theorem PI (x y:Nat) (hx:x<FP.M) (hy:y<FP.M) (w:World):Calls prog 145 #[.agg #[.int .u64 (fw x 0:Nat),.int .u64 (fw x 1:Nat),.int .u64 (fw x 2:Nat),.int .u64 (fw x 3:Nat)],.agg #[.int .u64 (fw y 0:Nat),.int .u64 (fw y 1:Nat),.int .u64 (fw y 2:Nat),.int .u64 (fw y 3:Nat)]] w (FwPost ((x+FP.M-y)%FP.M) w):=by
 refine (KY _ _ _ _ _ _ _ _ (cQ x) (cQ y) (by rw[cM hx]; exact hx) (by rw[cM hy]; exact hy) w).mono ?_;rw[cM hx,cM hy];exact fun e w' h=>FwPost.of (Nat.mod_lt _ gF) h
set_option maxHeartbeats 4000000 in
theorem KX (a0 a1 a2 a3 b0 b1 b2 b3:Nat) (ha:bV a0 a1 a2 a3) (hb:bV b0 b1 b2 b3) (la:aC a0 a1 a2 a3<FP.M) (lb:aC b0 b1 b2 b3<FP.M) (w:World) :
  Calls prog 134 #[.agg #[.int .u64 a0,.int .u64 a1,.int .u64 a2,.int .u64 a3],.agg #[.int .u64 b0,.int .u64 b1,.int .u64 b2,.int .u64 b3]] w (fC (aC a0 a1 a2 a3*aC b0 b1 b2 b3%FP.M) w):=by
 go_enter func134,ntmps134
 go_wp2_with fail;have HM:=Lib.hid ((((Mem.nil w).new (w.heap.size) a0 a1 a2 a3 27 (by simp)).new (w.heap.size+1) b0 b1 b2 b3 27 (by simp)).new (w.heap.size+1+1) 0 0 0 0 27 (by simp));refine (Ql 1 FP oV a0 a1 a2 a3 b0 b1 b2 b3 ha hb la lb _).mono ?_
 rintro e w1 ⟨s0,s1,s2,s3,rfl,hs,hv,hbl⟩
 have HV:=Lib.hid hv;have HM':=Lib.hid (HM.out.on hbl);clear hv hbl;clear HM;have HM:=HM';clear HM';have kr:=HM.out.row (b:=w.heap.size+1+1) (c0:=0) (c1:=0) (c2:=0) (c3:=0) (by simp);have y0:=kr.c0; have y1:=kr.c1; have y2:=kr.c2; have y3:=kr.c3; have yf:=kr.fr;clear kr;have yl:=HM.out.lt (b:=w.heap.size+1+1) (c0:=0) (c1:=0) (c2:=0) (c3:=0) (by simp);have HB1:=Lib.hid HM.out.1;clear HM;go_wp2_with fail;refine bodyPost_ret (v:=.agg #[.int .u64 s0,.int .u64 s1,.int .u64 s2,.int .u64 s3]) (by simp[results,results134,go_sem, *]) rfl ?_;refine⟨_,_,_,_,rfl,hs,HV.out,?_⟩;have hbx:=HB1.out;have hsz:=hbx.size
 repeat (first|exact hbx|refine Below.drew ?_|refine Below.alloc ?_ (by first|exact hsz|(simp; done)|(simp; omega)) _|refine Below.setCell ?_ (by first|(simp; done)|(simp; omega)) _)
theorem PD (x y:Nat) (hx:x<FP.M) (hy:y<FP.M) (w:World):Calls prog 134 #[.agg #[.int .u64 (fw x 0:Nat),.int .u64 (fw x 1:Nat),.int .u64 (fw x 2:Nat),.int .u64 (fw x 3:Nat)],.agg #[.int .u64 (fw y 0:Nat),.int .u64 (fw y 1:Nat),.int .u64 (fw y 2:Nat),.int .u64 (fw y 3:Nat)]] w (FwPost (x*y%FP.M) w):=by
 refine (KX _ _ _ _ _ _ _ _ (cQ x) (cQ y) (by rw[cM hx]; exact hx) (by rw[cM hy]; exact hy) w).mono ?_;rw[cM hx,cM hy];exact fun e w' h=>FwPost.of (Nat.mod_lt _ gF) h
set_option maxHeartbeats 4000000 in
theorem VH (a0 a1 a2 a3:Nat) (ha:bV a0 a1 a2 a3) (la:aC a0 a1 a2 a3<FP.M) (w:World) :
  Calls prog 135 #[.agg #[.int .u64 a0,.int .u64 a1,.int .u64 a2,.int .u64 a3]] w (fC ((0+FP.M-aC a0 a1 a2 a3)%FP.M) w):=by
 go_enter func135,ntmps135
 go_wp2_with fail;have HM:=Lib.hid (((Mem.nil w).new (w.heap.size) a0 a1 a2 a3 27 (by simp)).new (w.heap.size+1) 0 0 0 0 27 (by simp));refine (Qk 1 FP oV a0 a1 a2 a3 ha la _).mono ?_
 rintro e w1 ⟨s0,s1,s2,s3,rfl,hs,hv,hbl⟩
 have HV:=Lib.hid hv;have HM':=Lib.hid (HM.out.on hbl);clear hv hbl;clear HM;have HM:=HM';clear HM';have kr:=HM.out.row (b:=w.heap.size+1) (c0:=0) (c1:=0) (c2:=0) (c3:=0) (by simp);have y0:=kr.c0; have y1:=kr.c1; have y2:=kr.c2; have y3:=kr.c3; have yf:=kr.fr;clear kr;have yl:=HM.out.lt (b:=w.heap.size+1) (c0:=0) (c1:=0) (c2:=0) (c3:=0) (by simp);have kr:=HM.out.row (b:=w.heap.size) (c0:=a0) (c1:=a1) (c2:=a2) (c3:=a3) (by simp);have x0:=kr.c0; have x1:=kr.c1; have x2:=kr.c2; have x3:=kr.c3; have xf:=kr.fr;clear kr;have xl:=HM.out.lt (b:=w.heap.size) (c0:=a0) (c1:=a1) (c2:=a2) (c3:=a3) (by simp);go_wp2_with fail;refine bodyPost_ret (v:=.agg #[.int .u64 s0,.int .u64 s1,.int .u64 s2,.int .u64 s3]) (by simp[results,results135,go_sem, *]) rfl ?_;refine⟨_,_,_,_,rfl,hs,HV.out,?_⟩;exact bG (bG HM.out.1 (Nat.le_refl _) _ _ _ _) (by omega) _ _ _ _
theorem Ds (x:Nat) (hx:x<FP.M) (w:World):Calls prog 135 #[.agg #[.int .u64 (fw x 0:Nat),.int .u64 (fw x 1:Nat),.int .u64 (fw x 2:Nat),.int .u64 (fw x 3:Nat)]] w (FwPost ((0+FP.M-x)%FP.M) w):=by
 refine (VH _ _ _ _ (cQ x) (by rw[cM hx]; exact hx) w).mono ?_;rw[cM hx];exact fun e w' h=>FwPost.of (Nat.mod_lt _ gF) h
set_option maxHeartbeats 4000000 in
theorem PE (a0 a1 a2 a3:Nat) (ha:bV a0 a1 a2 a3) (w:World) :
  Calls prog 146 #[.agg #[.int .u64 a0,.int .u64 a1,.int .u64 a2,.int .u64 a3]] w (fC (aC a0 a1 a2 a3%FP.M) w):=by
 go_enter func146,ntmps146
 go_wp2_with fail;have HM:=Lib.hid (((Mem.nil w).new (w.heap.size) a0 a1 a2 a3 27 (by simp)).new (w.heap.size+1) 0 0 0 0 27 (by simp))
 by_cases la:aC a0 a1 a2 a3<FP.M
 ·refine (OB 1 FP oV a0 a1 a2 a3 ha la _).mono ?_
  rintro e w1 ⟨rfl,hbl⟩
  have HL:=Lib.hid la;have HM':=Lib.hid (HM.out.on hbl);clear hbl la;clear HM;have HM:=HM';clear HM';have kr:=HM.out.row (b:=w.heap.size+1) (c0:=0) (c1:=0) (c2:=0) (c3:=0) (by simp);have y0:=kr.c0; have y1:=kr.c1; have y2:=kr.c2; have y3:=kr.c3; have yf:=kr.fr;clear kr;have yl:=HM.out.lt (b:=w.heap.size+1) (c0:=0) (c1:=0) (c2:=0) (c3:=0) (by simp);have kr:=HM.out.row (b:=w.heap.size) (c0:=a0) (c1:=a1) (c2:=a2) (c3:=a3) (by simp);have x0:=kr.c0; have x1:=kr.c1; have x2:=kr.c2; have x3:=kr.c3;clear kr;have xl:=HM.out.lt (b:=w.heap.size) (c0:=a0) (c1:=a1) (c2:=a2) (c3:=a3) (by simp);go_wp2_with fail;refine bodyPost_ret (v:=.agg #[.int .u64 a0,.int .u64 a1,.int .u64 a2,.int .u64 a3]) (by simp[results,results146,go_sem, *]) rfl ?_;refine⟨_,_,_,_,rfl,ha,by rw[Nat.mod_eq_of_lt HL.out],?_⟩;exact bG HM.out.1 (by omega) _ _ _ _
 ·refine (JG 1 21 a0 a1 a2 a3 ha (Or.inr ⟨FP,oV,la,rfl⟩) _).mono ?_
  rintro e w1 ⟨rfl,hbl⟩
  have HM':=Lib.hid (HM.out.on hbl);clear hbl la;clear HM;have HM:=HM';clear HM';have kr:=HM.out.row (b:=w.heap.size) (c0:=a0) (c1:=a1) (c2:=a2) (c3:=a3) (by simp);have x0:=kr.c0; have x1:=kr.c1; have x2:=kr.c2; have x3:=kr.c3;clear kr;have xl:=HM.out.lt (b:=w.heap.size) (c0:=a0) (c1:=a1) (c2:=a2) (c3:=a3) (by simp);go_wp2_with fail;refine (Jr 1 FP oV 0 0 0 0 a0 a1 a2 a3 zok ha _).mono ?_
  rintro e w2 ⟨s0,s1,s2,s3,rfl,hs,hv,hbl⟩
  have HV:=Lib.hid (show aC s0 s1 s2 s3=aC a0 a1 a2 a3%FP.M by rw[hv,show aC 0 0 0 0=0 from rfl,Nat.zero_mul,Nat.zero_add]);have HM':=Lib.hid (HM.out.on hbl);clear hv hbl x0 x1 x2 x3 xl;clear HM;have HM:=HM';clear HM';have kr:=HM.out.row (b:=w.heap.size+1) (c0:=0) (c1:=0) (c2:=0) (c3:=0) (by simp);have y0:=kr.c0; have y1:=kr.c1; have y2:=kr.c2; have y3:=kr.c3; have yf:=kr.fr;clear kr;have yl:=HM.out.lt (b:=w.heap.size+1) (c0:=0) (c1:=0) (c2:=0) (c3:=0) (by simp);have kr:=HM.out.row (b:=w.heap.size) (c0:=a0) (c1:=a1) (c2:=a2) (c3:=a3) (by simp);have x0:=kr.c0; have x1:=kr.c1; have x2:=kr.c2; have x3:=kr.c3; have xf:=kr.fr;clear kr;have xl:=HM.out.lt (b:=w.heap.size) (c0:=a0) (c1:=a1) (c2:=a2) (c3:=a3) (by simp);go_wp2_with fail;refine bodyPost_ret (v:=.agg #[.int .u64 s0,.int .u64 s1,.int .u64 s2,.int .u64 s3]) (by simp[results,results146,go_sem, *]) rfl ?_;refine⟨_,_,_,_,rfl,hs,HV.out,?_⟩;exact bG (bG HM.out.1 (Nat.le_refl _) _ _ _ _) (by omega) _ _ _ _
theorem VE (a0 a1 a2 a3:Nat) (ha:bV a0 a1 a2 a3) (w:World):Calls prog 146 #[.agg #[.int .u64 a0,.int .u64 a1,.int .u64 a2,.int .u64 a3]] w (FwPost (aC a0 a1 a2 a3%FP.M) w) :=
 (PE a0 a1 a2 a3 ha w).mono fun e w' h=>FwPost.of (Nat.mod_lt _ gF) h
set_option maxHeartbeats 4000000 in
theorem DD (A B:Nat→Nat→Nat) (p q:Option Addr) (la ca cb:Nat) (h2:la≤65536) (ia:Cx FP.M la A) (ib:Cx FP.M la B) (w:World) (hA:FIs w p la A) (hB:FIs w q la B) :
  Calls prog 156 #[.slice p la ca,.slice q la cb] w (FwPost (yW FP.M (KU A) (KU B) la) w):=by
 have HA:=Lib.hid hA;have HB:=Lib.hid hB;have IA:=Lib.hid ia;have IB:=Lib.hid ib;clear hA hB ia ib
 suffices h:Calls prog 156 #[.slice p la ca,.slice q la cb] w (fC (yW FP.M (KU A) (KU B) la) w)from h.mono fun e w' h=>FwPost.of (aKN gF _ _ _) h
 go_enter func156,ntmps156
 go_wp2_with fail;have HM:=Lib.hid ((Mem.nil w).new (w.heap.size) 0 0 0 0 27 (by simp));refine (Qq 1 FP oV p q la ca la cb A B rfl h2 IA.out IB.out _ (HA.out.on HM.out.1) (HB.out.on HM.out.1)).mono ?_
 rintro e w1 ⟨s0,s1,s2,s3,rfl,hs,hv,hbl⟩
 have HV:=Lib.hid hv;have HM':=Lib.hid (HM.out.on hbl);clear hv hbl;clear HM;have HM:=HM';clear HM';have kr:=HM.out.row (b:=w.heap.size) (c0:=0) (c1:=0) (c2:=0) (c3:=0) (by simp);have y0:=kr.c0; have y1:=kr.c1; have y2:=kr.c2; have y3:=kr.c3; have yf:=kr.fr;clear kr;have yl:=HM.out.lt (b:=w.heap.size) (c0:=0) (c1:=0) (c2:=0) (c3:=0) (by simp);have HB1:=Lib.hid HM.out.1;clear HM;go_wp2_with fail;refine bodyPost_ret (v:=.agg #[.int .u64 s0,.int .u64 s1,.int .u64 s2,.int .u64 s3]) (by simp[results,results156,go_sem, *]) rfl ?_;refine⟨_,_,_,_,rfl,hs,HV.out,?_⟩;have hbx:=HB1.out;have hsz:=hbx.size
 repeat (first|exact hbx|refine Below.drew ?_|refine Below.alloc ?_ (by first|exact hsz|(simp; done)|(simp; omega)) _|refine Below.setCell ?_ (by first|(simp; done)|(simp; omega)) _)
end Go.Proofs.YtjkpglhlmknciaaGreat
namespace Go.Proofs.YtjkpglhlmknciaaGreat.Ex
open Go.Proofs.Tryz
open Go.RowKit
theorem NI {x:Nat} {f:FuncId} {args:List Value} {w:World} {y:Fq} (h:Calls prog f args.toArray w (FwPost x w)) (e:x=y.1):Good prog f (.one (.fl (e1 y))) args w:=by
 subst e;exact h.mono fun e w' h=>h
theorem DA {l:List At} {args:List Value} {w:World} (h:bU w [.v (.fl l)] args):args=[.agg (aA l).toArray]:=by
 match args,h with
 | [v],h=>rw[show v=_ from h.1]; rfl
 | [],h=>exact h.elim
 | _::_::_,h=>exact h.2.elim
theorem OT {l m:List At} {args:List Value} {w:World} (h:bU w [.v (.fl l),.v (.fl m)] args):args=[.agg (aA l).toArray,.agg (aA m).toArray]:=by
 match args,h with
 | [v,u],h=>rw[show v=_ from h.1,show u=_ from h.2.1]; rfl
 | [],h=>exact h.elim
 | [_],h=>exact h.2.elim
 | _::_::_::_,h=>exact h.2.2.elim
theorem aSh (x y:Fq) (args:List Value) (w:World) (ha:bU w [.v (.fl (e1 x)),.v (.fl (e1 y))] args):Good prog 155 (.one (.fl (e1 (F1.add x y)))) args w:=by
 rw[OT ha];exact NI (VF x.1 y.1 x.2 y.2 w) rfl
theorem aHh (x y:Fq):(x.1+FP.M-y.1)%FP.M=(F1.sub x y).1:=by
 show _=(x.1+(0+FP.M-y.1)%FP.M)%FP.M;have:=y.2;rw[Nat.add_mod_mod];congr 1;omega
theorem aLh (x y:Fq) (args:List Value) (w:World) (ha:bU w [.v (.fl (e1 x)),.v (.fl (e1 y))] args):Good prog 145 (.one (.fl (e1 (F1.sub x y)))) args w:=by
 rw[OT ha];exact NI (PI x.1 y.1 x.2 y.2 w) (aHh x y)
theorem aLg (x y:Fq) (args:List Value) (w:World) (ha:bU w [.v (.fl (e1 x)),.v (.fl (e1 y))] args):Good prog 134 (.one (.fl (e1 (F1.mul x y)))) args w:=by
 rw[OT ha];exact NI (PD x.1 y.1 x.2 y.2 w) rfl
theorem aWZ (x:Fq) (args:List Value) (w:World) (ha:bU w [.v (.fl (e1 x))] args):Good prog 135 (.one (.fl (e1 (F1.neg x)))) args w:=by
 rw[DA ha];exact NI (Ds x.1 x.2 w) rfl
theorem aSf (x:Nat) (args:List Value) (w:World) (ha:bU w [.v (.fl (q1 x))] args):Good prog 146 (.one (.fl (e1 (m1 x)))) args w:=by
 rw[DA ha];exact NI (VE _ _ _ _ (cQ x) w) rfl
theorem uA:∀{n:Nat} {l:List At} {x:List Fq},ZZ n l=some x→x.length=n∧∃r,l=x.map .f++r
 | 0,l,x,h=>by cases h; exact⟨rfl,l,rfl⟩
 | n+1,.f a::r,x,h=>by
  unfold ZZ at h;split at h
  ·rename_i l hl;cases h;obtain⟨h1,s,h2⟩:=uA hl;exact⟨by rw[List.length_cons,h1],s,by rw[h2]; rfl⟩
  ·cases h
 | n+1,[],x,h=>by cases h
 | n+1,.q _::_,x,h=>by cases h
 | n+1,.c _::_,x,h=>by cases h
def lw (x:List Fq) (k i:Nat):Nat:=fw ((x[k]?).getD F1.zero).1 i
theorem aEG:∀(x:List Fq) (k:Nat),k<x.length→∀i,i<4→(aA (x.map .f))[k*4+i]?=some (.int .u64 (lw x k i:Nat))
 | a::r,0,_,i,hi=>by
  show (w4 a.1++aA (r.map .f))[0*4+i]?=_;rw[List.getElem?_append_left (by show _<4; omega)]
  match i,hi with
  | 0,_=>rfl
  | 1,_=>rfl
  | 2,_=>rfl
  | 3,_=>rfl
 | a::r,k+1,h,i,hi=>by
  show (w4 a.1++aA (r.map .f))[(k+1)*4+i]?=_;rw[List.getElem?_append_right (by show 4≤_; omega),show (k+1)*4+i-(w4 a.1).length=k*4+i by show _-4=_; omega,aEG r k (by simpa using h) i hi];simp[lw]
theorem RO {n:Nat} {l:List At} {x:List Fq} (h:ZZ n l=some x) (h6:n≤6) {b o:Nat} {w:World} (hb:b<w.heap.size) (hr:w.rangeAt b o (aA l)):FIs w (some ⟨b,o,none⟩) n (lw x):=by
 obtain⟨h1,r,h2⟩:=uA h;refine⟨by omega,fun k hk=>cQ _,fun _=>⟨b,o,rfl,hb,fun k hk => ?_⟩⟩;have hc:∀i,i<4→w.cell? ⟨b,o+k*4+i,none⟩=some (.int .u64 (lw x k i:Nat)):=fun i hi=>by
  rw[Nat.add_assoc];refine hr (k*4+i) _ ?_;rw[h2,aP,List.getElem?_append_left (by
   rw[aT];have:∀x:List Fq,cF (x.map .f)=4*x.length:=fun x=>by
    induction x with
    | nil=>rfl
    | cons a r ih=>show 4+cF (r.map .f)=4*(r.length+1); omega
   rw[this,h1]; omega)]
  exact aEG x k (by omega) i hi
 exact⟨hc 0 (by omega),hc 1 (by omega),hc 2 (by omega),hc 3 (by omega)⟩
theorem NO (x:List Fq) (k:Nat):KU (lw x) k=((x[k]?).getD F1.zero).1:=cM (Fin.isLt _)
theorem Cj:∀(x y:List Fq) (a:Fq) (X Y:Nat→Nat) (k:Nat),x.length=y.length→(∀j,j<x.length→X (k+j)=((x[j]?).getD F1.zero).1)→(∀j,j<y.length→Y (k+j)=((y[j]?).getD F1.zero).1)→a.1=yW FP.M X Y k→(Ye a x y).1=yW FP.M X Y (k+x.length)
 | [],[],a,X,Y,k,_,_,_,h=>h
 | p::x,q::y,a,X,Y,k,hl,hX,hY,h=>by
  have e:(F1.add a (F1.mul p q)).1=yW FP.M X Y (k+1):=by
   show (a.1+p.1*q.1%FP.M)%FP.M=(yW FP.M X Y k+X k*Y k)%FP.M;rw[Nat.add_mod_mod,h];have h1:=hX 0 (by simp);have h2:=hY 0 (by simp);rw[Nat.add_zero]at h1 h2;rw[h1,h2];rfl
  have:=Cj x y (F1.add a (F1.mul p q)) X Y (k+1) (by simpa using hl) (fun j hj=>by have:=hX (j+1) (by simpa using hj); rw[show k+1+j=k+(j+1) by omega,this]; simp)
   (fun j hj=>by have:=hY (j+1) (by simpa using hj); rw[show k+1+j=k+(j+1) by omega,this]; simp) e
  rw[show k+(p::x).length=k+1+x.length by simp; omega];exact this
 | [],_::_,_,_,_,_,h,_,_,_=>by cases h
 | _::_,[],_,_,_,_,h,_,_,_=>by cases h
theorem Ck (x y:List Fq) (hl:x.length=y.length):(rJ x y).1=yW FP.M (KU (lw x)) (KU (lw y)) x.length:=by
 have h0:(Ye F1.zero x y).1=yW FP.M (KU (lw x)) (KU (lw y)) (0+x.length):=Cj x y F1.zero _ _ 0 hl (fun j _=>by rw[Nat.zero_add]; exact NO x j) (fun j _=>by rw[Nat.zero_add]; exact NO y j) rfl;rw[Nat.zero_add]at h0;rw[←h0];cases x with
 | nil=>cases y<;>rfl
 | cons a r =>
  cases y with
  | nil=>cases hl
  | cons b s =>
   show (Ye (F1.mul a b) r s).1=(Ye (F1.add F1.zero (F1.mul a b)) r s).1;rw[F1.zero_add]
theorem aSg:∀cs pre r,aEn cs=some (pre,r)→aZ pre→∀(args:List Value) (w:World),bU w cs args→Good prog 156 r args w:=by
 intro cs pre r hg hp args w ha;unfold aEn at hg;split at hg
 ·rename_i l n m l' n' m';cases hb:(Nat.beq n n'&&Nat.ble n 6)<;>rw[hb]at hg
  ·cases hg
  ·simp only[cond_true]at hg;split at hg
   ·rename_i x y hx hy;cases hg;rw[Bool.and_eq_true]at hb;cases Nat.eq_of_beq_eq_true hb.1;have h6:=Nat.le_of_ble_eq_true hb.2
    match args,ha with
    | [v,u],ha =>
     obtain⟨⟨b,o,rfl,h1,h2⟩,⟨b',o',rfl,h3,h4⟩,_⟩:=ha;have l1:=(uA hx).1;have l2:=(uA hy).1;refine NI (DD (lw x) (lw y) _ _ n m m' (by omega) (fun k hk=>by rw[NO]; exact Fin.isLt _) (fun k hk=>by rw[NO]; exact Fin.isLt _) w (RO hx h6 h1 h2) (RO hy h6 h3 h4)) ?_;rw[Ck x y (by omega),l1]
    | [],ha=>exact ha.elim
    | [_],ha=>exact ha.2.elim
    | _::_::_::_,ha=>exact ha.2.2.elim
   ·cases hg
 ·cases hg
theorem bAf:∀cs pre r,gOf cs=some (pre,r)→aZ pre→∀(args:List Value) (w:World),bU w cs args→Good prog 22 r args w:=by
 intro cs pre r hg hp args w ha;unfold gOf at hg;split at hg
 ·rename_i n;cases hb:Nat.blt n 18446744073709551616<;>rw[hb]at hg
  ·cases hg
  ·cases hg;have hn:n<18446744073709551616:=by simpa using hb
   match args,ha with
   | [v],ha =>
    rw[show v=_ from ha.1];refine (II n hn w).mono ?_
    rintro e w' ⟨rfl,hbl⟩
    refine⟨?_,hbl⟩;have hM:n<FP.M:=Nat.lt_trans hn (by decide);obtain⟨e0,e1',e2',e3'⟩:=pW (s0:=n) (s1:=0) (s2:=0) (s3:=0) ⟨hn,by omega,by omega,by omega⟩ (CT hM) (show aC n 0 0 0=n by unfold aC; omega);show _=Ending.returned (.agg (w4 (n%FP.M)).toArray);rw[Nat.mod_eq_of_lt hM];unfold w4;rw[←e0,←e1',←e2',←e3'];rfl
   | [],ha=>exact ha.elim
   | _::_::_,ha=>exact ha.2.elim
 ·cases hg
theorem aSi (x:Fq) (h:x≠F1.zero) (w:World):Calls prog 157 #[.int .i64 1,.agg (aA (e1 x)).toArray] w (fun e w'=>e=.returned (RV.many [.fl (e1 (iC x)),.im (.int .i64 0)]).den∧Below w.heap.size w w'):=by
 have hz:x.1≠0:=fun e=>h (Fin.ext e)
 refine (Qm 1 0 _ _ _ _ _ (fun W=>aKB 1 FP oV 1 0 0 0 _ _ _ _ (by unfold bV; decide) (cQ x.1) (by decide) (by rw[cM x.2]; exact x.2) (by rw[cM x.2]; exact hz) W) w).mono ?_
 rintro e w' ⟨s0,s1,s2,s3,rfl,hs,hv,hb⟩
 have hf:=By x;rw[Nat.one_mul]at hf;rw[cM x.2,show aC 1 0 0 0=1 from rfl,Nat.one_mul,←hf]at hv;obtain⟨rfl,rfl,rfl,rfl⟩:=pW hs (CT (iC x).2) hv;exact⟨rfl,hb⟩
theorem aSj (w:World):Calls prog 157 #[.int .i64 1,.agg (aA (e1 F1.zero)).toArray] w (fun e w'=>e=.returned (RV.many [.fl (e1 F1.zero),.im (.int .i64 22)]).den∧Below w.heap.size w w'):=by
 refine (Qm 1 22 0 _ _ _ _ (fun W=>aEI 1 FP oV 1 0 0 0 _ _ _ _ (by unfold bV; decide) (cQ 0) (by decide) (by rw[cM gF]; exact gF) (by rw[cM gF]) W) w).mono ?_
 rintro e w' ⟨s0,s1,s2,s3,rfl,hs,hv,hb⟩
 obtain⟨rfl,rfl,rfl,rfl⟩:=pW hs (CT gF) hv;exact⟨rfl,hb⟩
theorem aXa (c:Bool):∀cs pre r,aQP c cs=some (pre,r)→aZ pre→∀(args:List Value) (w:World),bU w cs args→Good prog 157 r args w:=by
 intro cs pre r hg hp args w ha;unfold aQP at hg;split at hg
 ·rename_i l;split at hg
  ·rename_i x hx
   match args,ha with
   | [v,u],ha =>
    have h1:v=.int .i64 1:=ha.1;have h2:u=.agg (aA l).toArray:=ha.2.1;rw[lY l x hx]at h2;subst h1; subst h2;cases c
    ·cases hg;have hz:x=F1.zero:=hp.1;subst hz;exact aSj w
    ·cases hg;exact aSi x hp.1 w
   | [],ha=>exact ha.elim
   | [_],ha=>exact ha.2.elim
   | _::_::_::_,ha=>exact ha.2.2.elim
  ·cases hg
 ·cases hg
theorem aJB (c:Bool):TabOk prog (pD c) :=
 ((((((((zK prog).ad func155 (fS lY lY fun x y _ args w ha=>aSh x y args w ha)).ad func145 (fS lY lY fun x y _ args w ha=>aLh x y args w ha)).add
  func134 (by kernel_rfl) (by kernel_rfl) (fS lY lY fun x y _ args w ha=>aLg x y args w ha)).ad func135 (bJ lY fun x _ args w ha=>aWZ x args w ha)).add
  func146 (by kernel_rfl) (by kernel_rfl) (bJ gD fun x _ args w ha=>aSf x args w ha)).ad func156 aSg).ad func22 bAf).ad func157 (aXa c)
def nv2 (x:Q2):N2:=(x.1.1,x.2.1)
def nv6 (x:Q6):N6:=(nv2 x.1,nv2 x.2.1,nv2 x.2.2)
def lL (x:aV):vJ:=(nv6 x.1,nv6 x.2)
theorem Pg (x:Fq):m1 x.1=x:=Fin.ext (by show wv x.1%FP.M=x.1; unfold wv; rw[cM x.2,Nat.mod_eq_of_lt x.2])
theorem aDp (x:Q2):m2 (nv2 x)=x:=Prod.ext (Pg _) (Pg _)
theorem aMq (x:Q6):m6 (nv6 x)=x:=Prod.ext (aDp _) (Prod.ext (aDp _) (aDp _))
theorem fR (x:aV):hJ (lL x)=x:=Prod.ext (aMq _) (aMq _)
def z0:At:=.f F1.zero
theorem aCI (c:Bool):TabOk prog (KN c):=aJC c (aJB c)
def vl:At→Option Fq
 | .f x=>some x
 | .q x=>some (m1 x)
 | .c _=>none
def vls:List At→Option (List Fq)
 | []=>some []
 | a::r=>match vl a,vls r with|some x,some l=>some (x::l)|_,_=>none
def VW (l:List At):Option Fq:=match vls l with|some [a]=>some a|_=>none
def CD (l:List At):Option Q2:=match vls l with|some [a,b]=>some (a,b)|_=>none
def Eh (l:List At):Option aV:=match vls l with|some [a,b,c,d,e,f,g,h,i,j,k,l]=>some (((a,b),(c,d),(e,f)),((g,h),(i,j),(k,l)))|_=>none
def Rdv {α γ:Type} (rd:List At→Option α) (qn:γ→List At) (mm:γ→α):Prop:=∀l x,rd l=some x→∃n,aA l=aA (qn n)∧mm n=x
theorem OZ:∀{l:List At} {m:List Fq},vls l=some m→∃ns:List Nat,aA l=aA (ns.map At.q)∧ns.map m1=m
 | [],m,h=>by cases h; exact⟨[],rfl,rfl⟩
 | a::r,m,h=>by
  unfold vls at h;split at h
  ·rename_i x l' h1 h2;cases h;obtain⟨ns,e1,e2⟩:=OZ h2;cases a with
   | f y=>cases h1; exact⟨x.1::ns,by show w4 x.1++aA r=w4 x.1++aA (ns.map At.q); rw[e1],by rw[List.map_cons,e2,Pg]⟩
   | q y=>cases h1; exact⟨y::ns,by show w4 y++aA r=w4 y++aA (ns.map At.q); rw[e1],by rw[List.map_cons,e2]⟩
   | c v=>cases h1
  ·cases h
theorem iV:Rdv VW q1 m1:=fun l x h=>by
 unfold VW at h;split at h
 ·rename_i a hn;cases h;obtain⟨ns,e1,e2⟩:=OZ hn
  match ns,e2 with
  | [n],e2=>cases e2; exact⟨n,e1,rfl⟩
 ·cases h
theorem eE:Rdv CD q2 m2:=fun l x h=>by
 unfold CD at h;split at h
 ·rename_i a b hn;cases h;obtain⟨ns,e1,e2⟩:=OZ hn
  match ns,e2 with
  | [n,m],e2=>cases e2; exact⟨(n,m),e1,rfl⟩
 ·cases h
theorem xO:Rdv Eh vZ hJ:=fun l x h=>by
 unfold Eh at h;split at h
 ·rename_i hn;cases h;obtain⟨ns,e1,e2⟩:=OZ hn
  match ns,e2 with
  | [a,b,c,d,e,f,g,h,i,j,k,l],e2=>cases e2; exact⟨(((a,b),(c,d),(e,f)),((g,h),(i,j),(k,l))),e1,rfl⟩
 ·cases h
theorem mG {P:Program} {f:FuncId} {α γ:Type} {rd:List At→Option α} {qn:γ→List At} {mm:γ→α} (hr:Rdv rd qn mm) {op:α→List Prop×RV} (h:∀x,aZ (op (mm x)).1→∀args w,bU w [.v (.fl (qn x))] args→Good P f (op (mm x)).2 args w) :
  ∀cs pre r,g1 rd op cs=some (pre,r)→aZ pre→∀(args:List Value) (w:World),bU w cs args→Good P f r args w:=by
 intro cs pre r hg hp args w ha;unfold g1 at hg;split at hg
 ·rename_i l;split at hg
  ·rename_i x hx;obtain⟨n,e1,rfl⟩:=hr l x hx;have e:op (mm n)=(pre,r):=by simpa using hg
   have:=h n (by rw[e]; exact hp) args w (by
    rw[DA ha,e1];exact⟨rfl,trivial⟩)
   rw[e]at this;exact this
  ·cases hg
 ·cases hg
theorem jZ {P:Program} {f:FuncId} {α γ α' γ':Type} {rd:List At→Option α} {qn:γ→List At} {mm:γ→α} {rd':List At→Option α'} {qn':γ'→List At} {mm':γ'→α'} (hr:Rdv rd qn mm) (hr':Rdv rd' qn' mm') {op:α→α'→List Prop×RV}
  (h:∀x y,aZ (op (mm x) (mm' y)).1→∀args w,bU w [.v (.fl (qn x)),.v (.fl (qn' y))] args→Good P f (op (mm x) (mm' y)).2 args w) :
  ∀cs pre r,g2 rd rd' op cs=some (pre,r)→aZ pre→∀(args:List Value) (w:World),bU w cs args→Good P f r args w:=by
 intro cs pre r hg hp args w ha;unfold g2 at hg;split at hg
 ·rename_i l m;split at hg
  ·rename_i x y hx hy;obtain⟨n,e1,rfl⟩:=hr l x hx;obtain⟨n',e2,rfl⟩:=hr' m y hy;have e:op (mm n) (mm' n')=(pre,r):=by simpa using hg
   have:=h n n' (by rw[e]; exact hp) args w (by
    rw[OT ha,e1,e2];exact⟨rfl,rfl,trivial⟩)
   rw[e]at this;exact this
  ·cases hg
 ·cases hg
theorem LC (c:Bool)  : bP prog (KN c) qN (fun _=>true) f97 60 []=some ([],.one (.fl [.f Ju.1,.f Ju.2,.f JH.1,.f JH.2,.f CU.1,.f CU.2,.f Qt.1,.f Qt.2,.f Qr.1,.f Qr.2,.f fb5.1,.f fb5.2])):=by kernel_rfl
def tQ (c:Bool):Tab:=(KN c).add 97 (g0 (.one (.fl [.f Ju.1,.f Ju.2,.f JH.1,.f JH.2,.f CU.1,.f CU.2,.f Qt.1,.f Qt.2,.f Qr.1,.f Qr.2,.f fb5.1,.f fb5.2])))
theorem yD (c:Bool):TabOk prog (tQ c):=(aCI c).ad func97 (lO fun w=>aI aG (aCI c) aO func97 (LC c) trivial (args:=[]) trivial)
theorem FO (c:Bool)  : bP prog (tQ c) qN (fun _=>true) f95 60 []=some ([],.one (.fl [.f Tp,.f Mc,.f To,.f Tn,.f Tm,.f Tl])):=by kernel_rfl
def rO (c:Bool):Tab:=(tQ c).add 95 (g0 (.one (.fl [.f Tp,.f Mc,.f To,.f Tn,.f Tm,.f Tl])))
theorem vB (c:Bool):TabOk prog (rO c):=(yD c).ad func95 (lO fun w=>aI aG (yD c) aO func95 (FO c) trivial (args:=[]) trivial)
theorem aAX (c:Bool) (x:aV):bP prog (rO c) qN (fun _=>true) f55 80 [.v (.fl (aQ x))]=some ([],.one (.fl (aQ (cV x)))):=by kernel_rfl
def Lb (c:Bool):Tab:=(rO c).add 55 (g1 qO fun x=>([],.one (.fl (aQ (cV x)))))
theorem Ob (c:Bool):TabOk prog (Lb c):=(vB c).ad func55 (bJ eW fun x hp args w ha=>aI aG (vB c) aO func55 (aAX c x) hp ha)
theorem Tv (c:Bool) (x:aV):bP prog (Lb c) qN (fun _=>true) f54 80 [.v (.fl (aQ x))]=some ([],.one (.fl (aQ (cU x)))):=by kernel_rfl
def TL (c:Bool):Tab:=(Lb c).add 54 (g1 qO fun x=>([],.one (.fl (aQ (cU x)))))
theorem Ac (c:Bool):TabOk prog (TL c):=(Ob c).ad func54 (bJ eW fun x hp args w ha=>aI aG (Ob c) aO func54 (Tv c x) hp ha)
theorem aOh {R:Type} (K:CR R) (a b v:R):K.add (K.mul a a) (K.mul v (K.mul b b))=K.sub (K.sub (K.mul (K.add a b) (K.add a (K.mul v b))) (K.mul a b)) (K.mul v (K.mul a b)) :=
 aE K (aW K [a,b,v]) (Z0*Z0+Z2*(Z1*Z1)) ((Z0+Z1)*(Z0+Z2*Z1)-Z0*Z1-Z2*(Z0*Z1)) (by decide)
theorem aOg {R:Type} (K:CR R) (a b:R):K.add (K.mul a b) (K.mul b a)=K.add (K.mul a b) (K.mul a b):=by rw[K.mul_comm b a]
theorem Ey (c:Bool) (x:aV):bP prog (TL c) qN (fun _=>true) f63 60 [.v (.fl (aQ x))]=some ([],.one (.fl (aQ ((F6.sub (F6.sub (F6.mul (F6.add x.1 x.2) (F6.add x.1 (F6.mul vE x.2))) (F6.mul x.1 x.2)) (F6.mul vE (F6.mul x.1 x.2)),F6.add (F6.mul x.1 x.2) (F6.mul x.1 x.2)))))):=by kernel_rfl
theorem Hp (x:aV):aD.mul x x=(F6.sub (F6.sub (F6.mul (F6.add x.1 x.2) (F6.add x.1 (F6.mul vE x.2))) (F6.mul x.1 x.2)) (F6.mul vE (F6.mul x.1 x.2)),F6.add (F6.mul x.1 x.2) (F6.mul x.1 x.2)):=by
 exact Prod.ext (aOh F6 x.1 x.2 vE) (aOg F6 x.1 x.2)
def eO (c:Bool):Tab:=(TL c).add 63 (g1 qO fun x=>([],.one (.fl (aQ (aD.mul x x)))))
theorem dS (c:Bool):TabOk prog (eO c):=(Ac c).ad func63 (bJ eW fun x hp args w ha=>by show Good _ _ (.one (.fl (aQ (aD.mul x x)))) _ _; rw[Hp]; exact aI aG (Ac c) aO func63 (Ey c x) hp ha)
def bY (n:Int):Int:=(IntKind.i64.wrap (n.tmod 12+12)).tmod 12
def fK:Nat→aV→aV
 | 0,x=>x
 | n+1,x=>cV (fK n x)
theorem Gx (c:Bool) (x:vJ) (n:Int):aU prog qN (fun _=>⟨fun _=>eO c,fun _=>true,fun s=>bif Nat.beq s 9 then some (.int .i64 0)else none⟩) f26 60 [.v (.fl (vZ x)),.v (.im (.int .i64 n))]=some ([aH .rem .i64 (IntKind.i64.wrap (n.tmod 12+12)) 12=some (.int .i64 0)],.one (.fl (aQ (hJ x)))):=by kernel_rfl
theorem Gw (c:Bool) (x:vJ) (n:Int):aU prog qN (fun _=>⟨fun _=>eO c,fun _=>true,fun s=>bif Nat.beq s 9 then some (.int .i64 1)else none⟩) f26 60 [.v (.fl (vZ x)),.v (.im (.int .i64 n))]=some ([aH .rem .i64 (IntKind.i64.wrap (n.tmod 12+12)) 12=some (.int .i64 1)],.one (.fl (aQ (cV (hJ x))))):=by kernel_rfl
theorem Gv (c:Bool) (x:vJ) (n:Int):aU prog qN (fun _=>⟨fun _=>eO c,fun _=>true,fun s=>bif Nat.beq s 9 then some (.int .i64 2)else none⟩) f26 60 [.v (.fl (vZ x)),.v (.im (.int .i64 n))]=some ([aH .rem .i64 (IntKind.i64.wrap (n.tmod 12+12)) 12=some (.int .i64 2)],.one (.fl (aQ (cU (hJ x))))):=by kernel_rfl
theorem Gu (c:Bool) (x:vJ) (n:Int):aU prog qN (fun _=>⟨fun _=>eO c,fun _=>true,fun s=>bif Nat.beq s 9 then some (.int .i64 3)else none⟩) f26 60 [.v (.fl (vZ x)),.v (.im (.int .i64 n))]=some ([aH .rem .i64 (IntKind.i64.wrap (n.tmod 12+12)) 12=some (.int .i64 3)],.one (.fl (aQ (cV (cU (hJ x)))))):=by kernel_rfl
theorem Gt (c:Bool) (x:vJ) (n:Int):aU prog qN (fun _=>⟨fun _=>eO c,fun _=>true,fun s=>bif Nat.beq s 9 then some (.int .i64 4)else none⟩) f26 60 [.v (.fl (vZ x)),.v (.im (.int .i64 n))]=some ([aH .rem .i64 (IntKind.i64.wrap (n.tmod 12+12)) 12=some (.int .i64 4)],.one (.fl (aQ (cU (cU (hJ x)))))):=by kernel_rfl
theorem Gs (c:Bool) (x:vJ) (n:Int):aU prog qN (fun _=>⟨fun _=>eO c,fun _=>true,fun s=>bif Nat.beq s 9 then some (.int .i64 5)else none⟩) f26 60 [.v (.fl (vZ x)),.v (.im (.int .i64 n))]=some ([aH .rem .i64 (IntKind.i64.wrap (n.tmod 12+12)) 12=some (.int .i64 5)],.one (.fl (aQ (cV (cU (cU (hJ x))))))):=by kernel_rfl
theorem Gr (c:Bool) (x:vJ) (n:Int):aU prog qN (fun _=>⟨fun _=>eO c,fun _=>true,fun s=>bif Nat.beq s 9 then some (.int .i64 6)else none⟩) f26 60 [.v (.fl (vZ x)),.v (.im (.int .i64 n))]=some ([aH .rem .i64 (IntKind.i64.wrap (n.tmod 12+12)) 12=some (.int .i64 6)],.one (.fl (aQ (cO (hJ x))))):=by kernel_rfl
theorem Gq (c:Bool) (x:vJ) (n:Int):aU prog qN (fun _=>⟨fun _=>eO c,fun _=>true,fun s=>bif Nat.beq s 9 then some (.int .i64 7)else none⟩) f26 60 [.v (.fl (vZ x)),.v (.im (.int .i64 n))]=some ([aH .rem .i64 (IntKind.i64.wrap (n.tmod 12+12)) 12=some (.int .i64 7)],.one (.fl (aQ (cV (cO (hJ x)))))):=by kernel_rfl
theorem Gp (c:Bool) (x:vJ) (n:Int):aU prog qN (fun _=>⟨fun _=>eO c,fun _=>true,fun s=>bif Nat.beq s 9 then some (.int .i64 8)else none⟩) f26 60 [.v (.fl (vZ x)),.v (.im (.int .i64 n))]=some ([aH .rem .i64 (IntKind.i64.wrap (n.tmod 12+12)) 12=some (.int .i64 8)],.one (.fl (aQ (cU (cO (hJ x)))))):=by kernel_rfl
theorem Gn (c:Bool) (x:vJ) (n:Int):aU prog qN (fun _=>⟨fun _=>eO c,fun _=>true,fun s=>bif Nat.beq s 9 then some (.int .i64 9)else none⟩) f26 60 [.v (.fl (vZ x)),.v (.im (.int .i64 n))]=some ([aH .rem .i64 (IntKind.i64.wrap (n.tmod 12+12)) 12=some (.int .i64 9)],.one (.fl (aQ (cV (cU (cO (hJ x))))))):=by kernel_rfl
theorem XY (c:Bool) (x:vJ) (n:Int):aU prog qN (fun _=>⟨fun _=>eO c,fun _=>true,fun s=>bif Nat.beq s 9 then some (.int .i64 10)else none⟩) f26 60 [.v (.fl (vZ x)),.v (.im (.int .i64 n))]=some ([aH .rem .i64 (IntKind.i64.wrap (n.tmod 12+12)) 12=some (.int .i64 10)],.one (.fl (aQ (cU (cU (cO (hJ x))))))):=by kernel_rfl
theorem XX (c:Bool) (x:vJ) (n:Int):aU prog qN (fun _=>⟨fun _=>eO c,fun _=>true,fun s=>bif Nat.beq s 9 then some (.int .i64 11)else none⟩) f26 60 [.v (.fl (vZ x)),.v (.im (.int .i64 n))]=some ([aH .rem .i64 (IntKind.i64.wrap (n.tmod 12+12)) 12=some (.int .i64 11)],.one (.fl (aQ (cV (cU (cU (cO (hJ x)))))))):=by kernel_rfl
def aEu:kI
 | [.v (.fl l),.v (.im (.int .i64 n))]=>match Eh l with
  | some x=>some ([],.one (.fl (aQ (fK (bY n).toNat x))))
  | none=>none
 | _=>none
theorem yQ (k:Nat) (x:aV):fK (k+2) x=cU (fK k x):=Aa _
theorem BF (x:aV):fK 6 x=cO x:=by rw[yQ 4,yQ 2,yQ 0,←xI]; rfl
theorem qW (m:Nat):∀(n:Nat) (x:aV),fK (n+m) x=fK n (fK m x)
 | 0,x=>by rw[Nat.zero_add]; rfl
 | n+1,x=>by rw[show n+1+m=(n+m)+1 by omega]; show cV (fK (n+m) x)=cV (fK n (fK m x)); rw[qW m n x]
theorem aDS (x:aV):fK 0 x=x:=rfl
theorem Je (x:aV):fK 1 x=(cV x):=rfl
theorem RZ (x:aV):fK 2 x=(cU x):=by rw[yQ 0]; rfl
theorem Jd (x:aV):fK 3 x=(cV (cU x)):=by show cV (fK 2 x)=_; rw[yQ 0]; rfl
theorem aDR (x:aV):fK 4 x=(cU (cU x)):=by rw[yQ 2,yQ 0]; rfl
theorem aDQ (x:aV):fK 5 x=(cV (cU (cU x))):=by show cV (fK 4 x)=_; rw[yQ 2,yQ 0]; rfl
theorem aQm (x:aV):fK 6 x=(cO x):=by rw[show (6:Nat)=0+6 from rfl,qW,BF]; exact aDS _
theorem aQl (x:aV):fK 7 x=(cV (cO x)):=by rw[show (7:Nat)=1+6 from rfl,qW,BF]; exact Je _
theorem aQk (x:aV):fK 8 x=(cU (cO x)):=by rw[show (8:Nat)=2+6 from rfl,qW,BF]; exact RZ _
theorem aQj (x:aV):fK 9 x=(cV (cU (cO x))):=by rw[show (9:Nat)=3+6 from rfl,qW,BF]; exact Jd _
theorem aJY (x:aV):fK 10 x=(cU (cU (cO x))):=by rw[show (10:Nat)=4+6 from rfl,qW,BF]; exact aDR _
theorem aJX (x:aV):fK 11 x=(cV (cU (cU (cO x)))):=by rw[show (11:Nat)=5+6 from rfl,qW,BF]; exact aDQ _
theorem fE {n:Int} {k:Int} (h:bY n=k):aH .rem .i64 (IntKind.i64.wrap (n.tmod 12+12)) 12=some (.int .i64 k):=by
 show some (Value.int .i64 ((IntKind.i64.wrap (n.tmod 12+12)).tmod 12))=_;rw[show (IntKind.i64.wrap (n.tmod 12+12)).tmod 12=k from h]
theorem aHb (n:Int) : -12<n.tmod 12∧n.tmod 12<12:=by
 constructor
 ·exact Int.lt_tmod_of_pos n (by omega)
 ·exact Int.tmod_lt_of_pos n (by omega)
theorem Ho (n:Int):bY n=(n.tmod 12+12).tmod 12∧0≤bY n∧bY n<12:=by
 have h:=aHb n;have e:IntKind.i64.wrap (n.tmod 12+12)=n.tmod 12+12:=IntWalk.i64_in _ (by omega);unfold bY;rw[e];exact⟨rfl,Int.tmod_nonneg 12 (by omega),Int.tmod_lt_of_pos _ (by omega)⟩
theorem aKz (c:Bool):∀cs pre r,aEu cs=some (pre,r)→aZ pre→∀(args:List Value) (w:World),bU w cs args→Good prog 26 r args w:=by
 intro cs pre r hg hp args w ha;unfold aEu at hg;split at hg
 ·rename_i l n;split at hg
  ·rename_i x hx;cases hg;obtain⟨a,e1,rfl⟩:=xO l x hx;have ha':bU w [.v (.fl (vZ a)),.v (.im (.int .i64 n))] args:=by
    match args,ha with
    | [v,u],ha =>
     refine⟨?_,ha.2.1,trivial⟩;show v=.agg (aA (vZ a)).toArray;rw[←e1];exact ha.1
    | [],ha=>exact ha.elim
    | [_],ha=>exact ha.2.elim
    | _::_::_::_,ha=>exact ha.2.2.elim
   obtain⟨_,h0,h1⟩:=Ho n;have hk:(bY n).toNat=0∨(bY n).toNat=1∨(bY n).toNat=2∨(bY n).toNat=3∨(bY n).toNat=4∨(bY n).toNat=5∨(bY n).toNat=6∨(bY n).toNat=7∨(bY n).toNat=8∨(bY n).toNat=9∨(bY n).toNat=10∨(bY n).toNat=11:=by omega
   rcases hk with h|h|h|h|h|h|h|h|h|h|h|h
   ·rw[h,aDS];exact aB aG (fun _ _=>dS c) aO func26 (Gx c a n) ⟨fE (by omega),trivial⟩ ha'
   ·rw[h,Je];exact aB aG (fun _ _=>dS c) aO func26 (Gw c a n) ⟨fE (by omega),trivial⟩ ha'
   ·rw[h,RZ];exact aB aG (fun _ _=>dS c) aO func26 (Gv c a n) ⟨fE (by omega),trivial⟩ ha'
   ·rw[h,Jd];exact aB aG (fun _ _=>dS c) aO func26 (Gu c a n) ⟨fE (by omega),trivial⟩ ha'
   ·rw[h,aDR];exact aB aG (fun _ _=>dS c) aO func26 (Gt c a n) ⟨fE (by omega),trivial⟩ ha'
   ·rw[h,aDQ];exact aB aG (fun _ _=>dS c) aO func26 (Gs c a n) ⟨fE (by omega),trivial⟩ ha'
   ·rw[h,aQm];exact aB aG (fun _ _=>dS c) aO func26 (Gr c a n) ⟨fE (by omega),trivial⟩ ha'
   ·rw[h,aQl];exact aB aG (fun _ _=>dS c) aO func26 (Gq c a n) ⟨fE (by omega),trivial⟩ ha'
   ·rw[h,aQk];exact aB aG (fun _ _=>dS c) aO func26 (Gp c a n) ⟨fE (by omega),trivial⟩ ha'
   ·rw[h,aQj];exact aB aG (fun _ _=>dS c) aO func26 (Gn c a n) ⟨fE (by omega),trivial⟩ ha'
   ·rw[h,aJY];exact aB aG (fun _ _=>dS c) aO func26 (XY c a n) ⟨fE (by omega),trivial⟩ ha'
   ·rw[h,aJX];exact aB aG (fun _ _=>dS c) aO func26 (XX c a n) ⟨fE (by omega),trivial⟩ ha'
  ·cases hg
 ·cases hg
def KO (c:Bool):Tab:=(eO c).add 26 aEu
theorem NH (c:Bool):TabOk prog (KO c):=(dS c).ad func26 (aKz c)
theorem Hh (c:Bool) (x:vJ):bP prog (KO c) qN (fun _=>true) f25 40 [.v (.fl (vZ x))]=some ([],.one (.fl (aQ (cO (hJ x))))):=by kernel_rfl
def Dc (c:Bool):Tab:=(KO c).add 25 (g1 Eh (fun x=>([],.one (.fl (aQ (cO x))))))
theorem Wy (c:Bool):TabOk prog (Dc c):=(NH c).ad func25 (mG xO fun x hp args w ha=>aI aG (NH c) aO func25 (Hh c x) hp ha)
theorem Zn {x y:Fq} (h:w4 x.1=w4 y.1):x=y:=by
 unfold w4 at h;simp only[List.cons.injEq,Value.int.injEq,true_and,and_true,Int.ofNat_inj]at h;apply Fin.ext;rw[←cM x.2,←cM y.2,h.1,h.2.1,h.2.2.1,h.2.2.2]
theorem yT:∀(l m:List Fq),aA (l.map .f)=aA (m.map .f)→l=m
 | [],[],_=>rfl
 | a::r,b::s,h=>by
  have h':w4 a.1++aA (r.map .f)=w4 b.1++aA (s.map .f):=h;obtain⟨h1,h2⟩:=List.append_inj h' rfl;rw[Zn h1,yT r s h2]
 | [],b::s,h=>by cases h
 | a::r,[],h=>by cases h
theorem aRu {a b:Fq} (h:aA [.f a]=aA [.f b]):a=b:=Zn (by
 have h':w4 a.1++[]=w4 b.1++[]:=h
 rwa [List.append_nil,List.append_nil]at h')
theorem aRt {a b:Q2} (h:aA (e2 a)=aA (e2 b)):a=b:=by
 have:=yT [a.1,a.2] [b.1,b.2] h;simp only[List.cons.injEq,and_true]at this;exact Prod.ext this.1 this.2
end Go.Proofs.YtjkpglhlmknciaaGreat.Ex
