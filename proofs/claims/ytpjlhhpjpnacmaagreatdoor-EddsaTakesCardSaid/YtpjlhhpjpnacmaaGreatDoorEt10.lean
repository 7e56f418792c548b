/- Et10 -/
import Derived.Test.YtpjlhhpjpnacmaaGreatDoorEt09
import Derived.Test.YtpjlhhpjpnacmaaGreatDoorEt08
import Derived.Test.YtpjlhhpjpnacmaaGreatDoorEt05
import Derived.Test.YtpjlhhpjpnacmaaGreatDoorProg
set_option maxRecDepth 100000
set_option linter.unusedVariables false
set_option linter.unusedSimpArgs false
set_option linter.unnecessarySimpa false
noncomputable section
namespace Go.Proofs.YtpjlhhpjpnacmaaGreatDoor
open Go.Proofs.Tryz
open Go.ChangeShapes Go.WideShapes Go.ChangeAt Go.RowKit
set_option maxRecDepth 20000 in
set_option maxHeartbeats 4000000 in
theorem Dr (f:Int) (F:FC) (hf:FieldIs f F) (g off len cap:Nat) (A:Nat→Nat→Nat) (hA:LOk len A) (hm:len≤9223372036854775807) (w:World) (hg:0<len→g<w.heap.size) (hl:LAt w g off len A) (h1:len≤65536) (h2:∀k,k<len→mE A k<F.M) :
  Calls prog 197 #[.int .i64 f,.slice (some ⟨g,off,none⟩) len cap] w fun e w'=>∃(bo:Nat) (O:Nat→Nat),e=.returned (.tuple #[.slice (some ⟨bo,0,none⟩) len len,.int .i64 0])∧w.heap.size≤bo∧bo<w'.heap.size∧RowIs w' bo (len*4) O∧(∀j,j<len→IG O j∧JN O j=mE A j^(F.M-2)%F.M)∧Below w.heap.size w w':=by
 obtain⟨gr,hroot⟩:=hf.root;have HRt:=Lib.hid hroot;have HL:=Lib.hid hl;have HG:=Lib.hid hg;clear hg;have HA:=Lib.hid hA;have HLA:=Lib.hid h2;clear hroot hl hA h2
 go_enter func197,ntmps197
 go_wp2_with fail;refine (dL f F hf _).mono ?_
 rintro e w1 ⟨rfl,hbl⟩
 have HB:=Lib.hid hbl;clear hbl;have KK:=Lib.hid (KIs.new w1 F 157);have B2:=Lib.hid (HB.out.alloc HB.out.size (.cells #[.int .u64 F.m0,.int .u64 F.m1,.int .u64 F.m2,.int .u64 F.m3,.int .u64 F.inv,.int .u64 F.s0,.int .u64 F.s1,.int .u64 F.s2,.int .u64 F.s3] 157));have sz1:=HB.out.size;have bc:¬(65536:Int)<(len:Int):=by omega
 go_wp2_with fail;refine (sP F hf.ok w1.heap.size g off len cap A HA.out hm _ KK.out (fun h=>by have:=HG.out h; simp; omega) (HL.out.same HG.out B2.out)).mono ?_
 rintro e w2 ⟨⟨t,rfl,ht⟩,hb2⟩
 obtain rfl:t=true:=ht.2 (fun k hk=>HLA.out k hk);have K2:=Lib.hid (KK.out.same hb2);have B3:=Lib.hid (B2.out.trans (hb2.mono B2.out.size));have sz2:=B3.out.size;clear ht hb2 KK B2;go_wp2_with fail;refine (xQ F hf.ok gr HRt.out w1.heap.size g off len cap A HA.out HLA.out h1 _ K2.out (fun h=>by have:=HG.out h; omega) (HL.out.same HG.out B3.out)).mono ?_
 rintro e w3 ⟨bo,O,rfl,h3,h4,h5,h6,h7⟩
 have H5:=Lib.hid h5;have H6:=Lib.hid h6;have H7:=Lib.hid h7;clear h5 h6 h7 K2;go_wp2_with fail
 go_ret2
 exact⟨bo,O,rfl,by omega,h4,H5.out,H6.out,B3.out.trans (H7.out.mono B3.out.size)⟩
set_option maxRecDepth 20000 in
set_option maxHeartbeats 4000000 in
theorem NT (p:Option Addr) (cap b:Nat) (w:World) :
  Calls prog 216 #[.pointer (some ⟨b,0,none⟩),.slice p 0 cap] w fun e w'=>e=.returned (.bool true)∧w'=w:=by
 go_enter func216,ntmps216
 go_wp2_with fail;refine wp_loop_rounds 2 ?_;rw[rounds_succ];go_wp2_with fail;go_ret;exact⟨rfl,rfl⟩
open Go.RowKit
def FIs (W:World) (o:Option Addr) (len:Nat) (A:Nat→Nat→Nat):Prop:=len*32≤140737488351232∧LOk len A∧(0<len→∃g off,o=some ⟨g,off,none⟩∧g<W.heap.size∧LAt W g off len A)
theorem FIs.on {W w:World} {o:Option Addr} {len:Nat} {A:Nat→Nat→Nat} (h:FIs W o len A) (hb:Below W.heap.size W w):FIs w o len A:=by
 refine⟨h.1,h.2.1,fun hl => ?_⟩;obtain⟨g,off,e,hg,hc⟩:=h.2.2 hl;exact⟨g,off,e,Nat.lt_of_lt_of_le hg hb.size,hc.same (fun _=>hg) hb⟩
def Gl (M:Nat) (len:Nat) (A:Nat→Nat→Nat):Prop:=∀k,k<len→mE A k<M
theorem xR (F:FC) (hF:F.Ok) (b:Nat) (o:Option Addr) (len cap:Nat) (A:Nat→Nat→Nat) (w:World) (hk:KIs w b F) (h:FIs w o len A) :
  Calls prog 216 #[.pointer (some ⟨b,0,none⟩),.slice o len cap] w fun e w'=>(∃t:Bool,e=.returned (.bool t)∧(t=true↔Gl F.M len A))∧Below w.heap.size w w':=by
 by_cases h0:0<len
 ·obtain⟨g,off,rfl,hg,hc⟩:=h.2.2 h0;exact sP F hF b g off len cap A h.2.1 (by have:=h.1; omega) w hk (fun _=>hg) hc
 ·obtain rfl:len=0:=by omega
  refine (NT o cap b w).mono ?_
  rintro e w' ⟨he,rfl⟩
  exact⟨⟨true,he,fun _ k hk=>absurd hk (by omega),fun _=>rfl⟩,Below.refl _ _⟩
def JS (M:Nat) (X Y:Nat→Nat):Nat→Nat
 | 0=>0
 | n+1=>(JS M X Y n+X n*Y n)%M
theorem Ep {F:FC} (hF:F.Ok) {s x y d:Nat} (h:s*F.R%F.M=d):(s+x*y*F.Ri%F.M)%F.M*F.R%F.M=(d+x*y)%F.M:=by
 have e1:(s+x*y*F.Ri%F.M)%F.M*F.R%F.M=(s*F.R+x*y*F.Ri*F.R)%F.M:=by
  rw[Nat.mod_mul_mod,Nat.add_mul,Nat.add_mod,Nat.mod_mul_mod,←Nat.add_mod]
 have e2:x*y*F.Ri*F.R%F.M=x*y%F.M:=by rw[Nat.mul_right_comm]; exact lM hF _
 rw[e1,Nat.add_mod,h,e2,Nat.add_mod_mod]
set_option maxHeartbeats 4000000 in
theorem Om (f:Int) (F:FC) (hf:FieldIs f F) (p q:Option Addr) (la ca lb cb:Nat) (A B:Nat→Nat→Nat) (h1:la=lb) (h2:la≤65536) (ia:Gl F.M la A) (ib:Gl F.M lb B) (w:World) (hA:FIs w p la A) (hB:FIs w q lb B) :
  Calls prog 199 #[.int .i64 f,.slice p la ca,.slice q lb cb] w (He 0 (JS F.M (mE A) (mE B) la) w):=by
 subst h1;have hok:=hf.ok;have hpos:=hf.ok.pos;have IA:=Lib.hid ia;have IB:=Lib.hid ib;clear ia ib;have HA:=Lib.hid hA;have HB:=Lib.hid hB;clear hA hB
 go_enter func199,ntmps199
 go_wp2_with fail;have HM:=Lib.hid ((Mem.nil w).new (w.heap.size) 0 0 0 0 27 (by simp));refine (dL f F hf _).mono ?_
 rintro e w1 ⟨rfl,hbl⟩
 have KK:=Lib.hid (KIs.new w1 F 157);have B1:=Lib.hid (HM.out.on hbl);clear HM hbl;have HM:=Lib.hid (show Mem w (w1.alloc (.cells #[.int .u64 F.m0,.int .u64 F.m1,.int .u64 F.m2,.int .u64 F.m3,.int .u64 F.inv,.int .u64 F.s0,.int .u64 F.s1,.int .u64 F.s2,.int .u64 F.s3] 157)) [(w.heap.size,0,0,0,0)]from B1.out.on ((Below.refl _ _).alloc (Nat.le_refl _) _));clear B1;have t1:decide ((65536:Int)<(la:Int))=false:=decide_eq_false (by omega);go_wp2_with fail;refine (xR F hf.ok w1.heap.size p la ca A _ KK.out (HA.out.on HM.out.1)).mono ?_
 rintro e w2 ⟨⟨t,rfl,ht⟩,hbl⟩
 obtain rfl:t=true:=ht.2 IA.out;have KK':=Lib.hid (KK.out.same hbl);have HM':=Lib.hid (HM.out.on hbl);clear hbl KK ht;have KK:=KK';clear KK';clear HM;have HM:=HM';clear HM';go_wp2_with fail;refine (xR F hf.ok w1.heap.size q la cb B _ KK.out (HB.out.on HM.out.1)).mono ?_
 rintro e w3 ⟨⟨t,rfl,ht⟩,hbl⟩
 obtain rfl:t=true:=ht.2 IB.out;have KK':=Lib.hid (KK.out.same hbl);have HM':=Lib.hid (HM.out.on hbl);clear hbl KK ht;have KK:=KK';clear KK';clear HM;have HM:=HM';clear HM';go_wp2_with fail;have kl:w1.heap.size<w3.heap.size:=KK.out.lt;have ls:w.heap.size<w3.heap.size:=HM.out.lt (b:=w.heap.size) (c0:=0) (c1:=0) (c2:=0) (c3:=0) (by simp);have HM':=Lib.hid (HM.out.new w3.heap.size 0 0 0 0 27 rfl);have KK':=Lib.hid (KK.out.same ((Below.refl _ w3).alloc (Nat.le_refl _) (.cells #[.int .u64 (0:Nat),.int .u64 (0:Nat),.int .u64 (0:Nat),.int .u64 (0:Nat)] 27)));clear KK;have KK:=KK';clear KK';clear HM;have HM:=HM';clear HM';obtain⟨W5,hW5⟩:∃W5,W5=(w3.alloc (.cells #[.int .u64 (0:Nat),.int .u64 (0:Nat),.int .u64 (0:Nat),.int .u64 (0:Nat)] 27)):=⟨_,rfl⟩
 obtain⟨gs,hgs⟩:∃gs,gs=w3.heap.size:=⟨_,rfl⟩
 rw[←hgs]at HM kl ls ⊢;clear hgs hW5 W5
 go_loopw [43] (fun t wr=>∃(k s0 s1 s2 s3:Nat),k≤la∧t=.int .i64 k∧cF s0 s1 s2 s3∧Hid (aC s0 s1 s2 s3<F.M∧aC s0 s1 s2 s3*F.R%F.M=JS F.M (mE A) (mE B) k)∧Hid (Mem w wr [(gs,s0,s1,s2,s3),(w.heap.size,0,0,0,0)])∧Hid (KIs wr w1.heap.size F)) (fun t _=>la-(intOf t).toNat)
 case atStart=>exact⟨0,0,0,0,0,Nat.zero_le _,rfl,KQ,Lib.hid ⟨hpos,by rw[show aC 0 0 0 0=0 from rfl,Nat.zero_mul,Nat.zero_mod]; rfl⟩,HM,KK⟩
 case round =>
  clear HM KK;obtain⟨k,s0,s1,s2,s3,hk,rfl,hs,HV,HM,KK⟩:=hrel
  by_cases hlt:k<la
  ·obtain⟨g,off,rfl,hg,hla⟩:=HA.out.2.2 (by omega);obtain⟨g2,off2,rfl,hg2,hlb⟩:=HB.out.2.2 (by omega);obtain⟨a0,a1,a2,a3,e0,e1,e2,e3⟩:∃a0 a1 a2 a3:Nat,a0=A k 0∧a1=A k 1∧a2=A k 2∧a3=A k 3:=⟨_,_,_,_,rfl,rfl,rfl,rfl⟩
   obtain⟨b0,b1,b2,b3,d0,d1,d2,d3⟩:∃b0 b1 b2 b3:Nat,b0=B k 0∧b1=B k 1∧b2=B k 2∧b3=B k 3:=⟨_,_,_,_,rfl,rfl,rfl,rfl⟩
   have hoka:=HA.out.2.1 k hlt;have hokb:=HB.out.2.1 k hlt;have hva:mE A k=aC a0 a1 a2 a3:=by unfold mE; rw[←e0,←e1,←e2,←e3]
   have hvb:mE B k=aC b0 b1 b2 b3:=by unfold mE; rw[←d0,←d1,←d2,←d3]
   have hlb':aC b0 b1 b2 b3<F.M:=by rw[←hvb]; exact IB.out k hlt
   rw[←e0,←e1,←e2,←e3]at hoka;rw[←d0,←d1,←d2,←d3]at hokb;have HCA:=Lib.hid (show ∀wx,Below w.heap.size w wx→wx.cell? ⟨g,off+k*4,none⟩=some (.int .u64 (a0:Nat))∧wx.cell? ⟨g,off+k*4+1,none⟩=some (.int .u64 (a1:Nat))∧wx.cell? ⟨g,off+k*4+2,none⟩=some (.int .u64 (a2:Nat))∧wx.cell? ⟨g,off+k*4+3,none⟩=some (.int .u64 (a3:Nat))from fun wx hx=>by
    have q:=(hla.same (fun _=>hg) hx) k hlt;rw[←e0,←e1,←e2,←e3]at q;exact q)
   have HCB:=Lib.hid (show ∀wx,Below w.heap.size w wx→wx.cell? ⟨g2,off2+k*4,none⟩=some (.int .u64 (b0:Nat))∧wx.cell? ⟨g2,off2+k*4+1,none⟩=some (.int .u64 (b1:Nat))∧wx.cell? ⟨g2,off2+k*4+2,none⟩=some (.int .u64 (b2:Nat))∧wx.cell? ⟨g2,off2+k*4+3,none⟩=some (.int .u64 (b3:Nat))from fun wx hx=>by
    have q:=(hlb.same (fun _=>hg2) hx) k hlt;rw[←d0,←d1,←d2,←d3]at q;exact q)
   have HO:=Lib.hid (And.intro hoka hokb);have HE:=Lib.hid (And.intro hva (And.intro hvb hlb'));clear e0 e1 e2 e3 d0 d1 d2 d3 hla hlb hoka hokb hva hvb hlb';go_wp2_with fail;refine cG (fun wx=>Below wr.heap.size wr wx) 11 (by kernel_rfl) ?_;have HS:=bW wr.heap.size wr 1;have H8:=Lib.hid HS;refine aD (i:=0) (v:=.agg #[.int .u64 s0,.int .u64 s1,.int .u64 s2,.int .u64 s3]) rfl (by kernel_rfl) (by kernel_rfl) (by kernel_rfl) (by kernel_rfl) (fun _ _ _ h=>h) HS (Or.inl ⟨by kernel_rfl,fun wx hx => ?_⟩) ?_
   ·have kr:=(HM.out.on hx).row (b:=gs) (c0:=s0) (c1:=s1) (c2:=s2) (c3:=s3) (by simp);have x0:=kr.c0; have x1:=kr.c1; have x2:=kr.c2; have x3:=kr.c3;clear kr;clear HS hx;go_simp
   simp only[Act.put,List.setIfInBounds_toArray,List.set_cons_zero,List.set_cons_succ];refine aD (i:=1) (v:=.slice (some ⟨g,off,none⟩) la ca) rfl (by kernel_rfl) (by kernel_rfl) (by kernel_rfl) (by kernel_rfl) (fun _ _ _ h=>h) HS (Or.inl ⟨by kernel_rfl,fun wx hx => ?_⟩) ?_
   ·clear HS hx;go_simp
   simp only[Act.put,List.setIfInBounds_toArray,List.set_cons_zero,List.set_cons_succ];refine aD (i:=2) (v:=.int .i64 k) rfl (by kernel_rfl) (by kernel_rfl) (by kernel_rfl) (by kernel_rfl) (fun _ _ _ h=>h) HS (Or.inl ⟨by kernel_rfl,fun wx hx => ?_⟩) ?_
   ·clear HS hx;go_simp
   simp only[Act.put,List.setIfInBounds_toArray,List.set_cons_zero,List.set_cons_succ];refine aD (i:=3) (v:=.pointer (some ⟨g,off+k*4,none⟩)) rfl (by kernel_rfl) (by kernel_rfl) (by kernel_rfl) (by kernel_rfl) (fun _ _ _ h=>h) HS (Or.inl ⟨by kernel_rfl,fun wx hx => ?_⟩) ?_
   ·clear HS hx;go_simp
   simp only[Act.put,List.setIfInBounds_toArray,List.set_cons_zero,List.set_cons_succ];refine aD (i:=4) (v:=.agg #[.int .u64 a0,.int .u64 a1,.int .u64 a2,.int .u64 a3]) rfl (by kernel_rfl) (by kernel_rfl) (by kernel_rfl) (by kernel_rfl) (fun _ _ _ h=>h) HS (Or.inl ⟨by kernel_rfl,fun wx hx => ?_⟩) ?_
   ·have q:=HCA.out wx (HM.out.on hx).1;have x0:=q.1; have x1:=q.2.1; have x2:=q.2.2.1; have x3:=q.2.2.2;clear q;clear HS hx;go_simp
   simp only[Act.put,List.setIfInBounds_toArray,List.set_cons_zero,List.set_cons_succ];refine aD (i:=5) (v:=.slice (some ⟨g2,off2,none⟩) la cb) rfl (by kernel_rfl) (by kernel_rfl) (by kernel_rfl) (by kernel_rfl) (fun _ _ _ h=>h) HS (Or.inl ⟨by kernel_rfl,fun wx hx => ?_⟩) ?_
   ·clear HS hx;go_simp
   simp only[Act.put,List.setIfInBounds_toArray,List.set_cons_zero,List.set_cons_succ];refine aD (i:=6) (v:=.int .i64 k) rfl (by kernel_rfl) (by kernel_rfl) (by kernel_rfl) (by kernel_rfl) (fun _ _ _ h=>h) HS (Or.inl ⟨by kernel_rfl,fun wx hx => ?_⟩) ?_
   ·clear HS hx;go_simp
   simp only[Act.put,List.setIfInBounds_toArray,List.set_cons_zero,List.set_cons_succ];refine aD (i:=7) (v:=.pointer (some ⟨g2,off2+k*4,none⟩)) rfl (by kernel_rfl) (by kernel_rfl) (by kernel_rfl) (by kernel_rfl) (fun _ _ _ h=>h) HS (Or.inl ⟨by kernel_rfl,fun wx hx => ?_⟩) ?_
   ·clear HS hx;go_simp
   simp only[Act.put,List.setIfInBounds_toArray,List.set_cons_zero,List.set_cons_succ];refine aD (i:=8) (v:=.agg #[.int .u64 b0,.int .u64 b1,.int .u64 b2,.int .u64 b3]) rfl (by kernel_rfl) (by kernel_rfl) (by kernel_rfl) (by kernel_rfl) (fun _ _ _ h=>h) HS (Or.inl ⟨by kernel_rfl,fun wx hx => ?_⟩) ?_
   ·have q:=HCB.out wx (HM.out.on hx).1;have x0:=q.1; have x1:=q.2.1; have x2:=q.2.2.1; have x3:=q.2.2.2;clear q;clear HS hx;go_simp
   simp only[Act.put,List.setIfInBounds_toArray,List.set_cons_zero,List.set_cons_succ];clear HS;refine aF (i:=9) (by kernel_rfl) rfl (fun K hK => ?_);go_simp;refine (cE F hok w1.heap.size a0 a1 a2 a3 b0 b1 b2 b3 HO.out.1 HO.out.2 HE.out.2.2 _ (KK.out.same H8.out)).mono ?_
   rintro e v1 ⟨p0,p1,p2,p3,rfl,hp,hv,hbl⟩
   have HVp:=Lib.hid hv;clear hv;have HS:=H8.out.trans (hbl.mono H8.out.size);clear H8 hbl;have H8:=Lib.hid HS;refine hK.out _ _ (Or.inr HS) (fun _ => ?_);clear hK K;clear HS;refine aF (i:=10) (by kernel_rfl) rfl (fun K hK => ?_);go_simp;refine (wV F hok w1.heap.size s0 s1 s2 s3 p0 p1 p2 p3 hs hp HV.out.1 (by rw[HVp.out]; exact Nat.mod_lt _ hpos) _ (KK.out.same H8.out)).mono ?_
   rintro e v2 ⟨u0,u1,u2,u3,rfl,hu,hv,hbl⟩
   have HVu:=Lib.hid (show aC u0 u1 u2 u3<F.M∧aC u0 u1 u2 u3*F.R%F.M=JS F.M (mE A) (mE B) (k+1) by
    rw[hv,HVp.out];refine⟨Nat.mod_lt _ hpos,?_⟩;rw[Ep hok HV.out.2,←HE.out.1,←HE.out.2.1];rfl)
   clear hv;have HS:=H8.out.trans (hbl.mono H8.out.size);clear H8 hbl;have H8:=Lib.hid HS;refine hK.out _ _ (Or.inr HS) (fun _ => ?_);clear hK K;clear HS;have HM':=Lib.hid (HM.out.on H8.out);have KK':=Lib.hid (KK.out.same H8.out);clear HM KK H8;have HM:=HM';have KK:=KK';clear HM' KK';have kr:=HM.out.row (b:=gs) (c0:=s0) (c1:=s1) (c2:=s2) (c3:=s3) (by simp);have y0:=kr.c0; have y1:=kr.c1; have y2:=kr.c2; have y3:=kr.c3; have yf:=kr.fr;clear kr;have yl:=HM.out.lt (b:=gs) (c0:=s0) (c1:=s1) (c2:=s2) (c3:=s3) (by simp);refine aF (i:=11) (by kernel_rfl) rfl (fun K hK => ?_);go_simp;have HM':=Lib.hid (HM.out.put u0 u1 u2 u3 (by omega) (by intro r hr; simp at hr; subst hr; show w.heap.size≠gs; omega));have KK':=Lib.hid (KK.out.set4 (d:=gs) (by omega) u0 u1 u2 u3);clear HM KK;have HM:=HM';have KK:=KK';clear HM' KK';refine hK.out _ _ (Or.inl rfl) (fun _ => ?_);clear hK K;refine bR (by kernel_rfl) ?_;go_wp2_with fail
   go_roundw
   case rel=>exact⟨k+1,u0,u1,u2,u3,by omega,by go_num,hu,HVu,HM,KK⟩
   case measure=>simp[intOf]; omega
  ·obtain rfl:la=k:=by omega
   obtain⟨wo,rfl⟩:∃wo,wo=wr:=⟨_,rfl⟩
   have kr:=HM.out.row (b:=gs) (c0:=s0) (c1:=s1) (c2:=s2) (c3:=s3) (by simp);have x0:=kr.c0; have x1:=kr.c1; have x2:=kr.c2; have x3:=kr.c3;clear kr;have xl:=HM.out.lt (b:=gs) (c0:=s0) (c1:=s1) (c2:=s2) (c3:=s3) (by simp);clear hk hlt;go_wp2_with fail;refine (cU F hok w1.heap.size s0 s1 s2 s3 hs _ KK.out).mono ?_
   rintro e w4 ⟨u0,u1,u2,u3,rfl,hu,hv,hbl⟩
   have HVu:=Lib.hid (show aC u0 u1 u2 u3=JS F.M (mE A) (mE B) la by rw[hv]; exact HV.out.2);have HM':=Lib.hid (HM.out.on hbl);clear hv hbl x0 x1 x2 x3 xl;clear HM;have HM:=HM';clear HM';have kr:=HM.out.row (b:=w.heap.size) (c0:=0) (c1:=0) (c2:=0) (c3:=0) (by simp);have y0:=kr.c0; have y1:=kr.c1; have y2:=kr.c2; have y3:=kr.c3; have yf:=kr.fr;clear kr;have yl:=HM.out.lt (b:=w.heap.size) (c0:=0) (c1:=0) (c2:=0) (c3:=0) (by simp);go_wp2_with fail;refine bodyPost_ret (v:=.tuple #[.agg #[.int .u64 u0,.int .u64 u1,.int .u64 u2,.int .u64 u3],.int .i64 0]) (by simp[results,results199,go_sem, *]) rfl ?_;refine⟨_,_,_,_,rfl,hu,HVu.out,?_⟩;exact aZ HM.out.1 (Nat.le_refl _) _ _ _ _
end Go.Proofs.YtpjlhhpjpnacmaaGreatDoor
namespace Go.Proofs.YtpjlhhpjpnacmaaGreatDoor.Ex
open Go.Proofs.Tryz
open Go.RowKit
theorem BX {nt:Nat} {w:World} {a:Act} {ts:List (Nat×AV)} (hd:a.defers=[]) (hs:a.tmps.size=nt) (ht:∀x∈ts,a.tmps[x.1]?=some (x.2.den fun _=>(w.heap.size,0,0))):Holds nt w.heap.size w (ts.map fun x=>.slot x.1 x.2) a w:=by
 refine⟨hd,hs,Below.refl _ _,Nat.le_refl _,fun _=>(w.heap.size,0,0),fun φ hφ => ?_,fun k k' o' l l' h1 => ?_,fun k l h1 => ?_,Nat.le_refl _,fun p h1 h2=>⟨rfl,rfl⟩,Shape.refl _⟩
 ·obtain⟨x,hx,rfl⟩:=List.mem_map.1 hφ;exact ht x hx
 ·obtain⟨x,_,e⟩:=List.mem_map.1 h1; cases e
 ·obtain⟨x,_,e⟩:=List.mem_map.1 h1; cases e
def LM (w:World) (b N:Nat) (f:Nat→Nat):Prop:=b<w.heap.size∧w.rangeAt b 0 (aA (cJ (el f) 0 N))
theorem LM.on {w w':World} {b N:Nat} {f:Nat→Nat} (h:LM w b N f) (hb:Below w.heap.size w w'):LM w' b N f:=⟨Nat.lt_of_lt_of_le h.1 hb.size,bJ hb h.1 h.2⟩
theorem LM.lv {w:World} {b N:Nat} {f:Nat→Nat} (h:LM w b N f) (hf:∀j,j<N→f j<aG):LV w (aM b 0 N N) N f:=⟨_,N,rfl,Nat.le_refl _,hf,fun _=>⟨b,0,rfl,h.1,h.2⟩⟩
theorem Us {w:World} {bo j:Nat} {O:Nat→Nat} {n x:Nat} (h:Go.Proofs.YtpjlhhpjpnacmaaGreatDoor.RowIs w bo (n*4) O) (hj:j<n) (ho:IG O j) (hx:JN O j=x) (hlt:x<aG):w.rangeAt bo (j*4) (aA [At.q x]):=by
 obtain⟨e0,e1,e2,e3⟩:=gY ho hlt hx;have hf:aA [At.q x]=[.int .u64 (O (j*4):Nat),.int .u64 (O (j*4+1):Nat),.int .u64 (O (j*4+2):Nat),.int .u64 (O (j*4+3):Nat)]:=by
  show w4 x++[]=_;rw[List.append_nil];unfold w4;rw[←e0,←e1,←e2,←e3]
 rw[hf];intro q v hq;have h0:=(h (j*4) (by omega)).1;have h1:=(h (j*4+1) (by omega)).1;have h2:=(h (j*4+2) (by omega)).1;have h3:=(h (j*4+3) (by omega)).1
 match q with
 | 0=>cases hq; exact h0
 | 1=>cases hq; exact h1
 | 2=>cases hq; exact h2
 | 3=>cases hq; exact h3
 | q+4=>simp at hq
theorem sA {w:World} {b:Nat} {f:Nat→Nat}:∀(n s o:Nat),(∀j,j<n→w.rangeAt b (o+j*4) (aA [At.q (f (s+j))]))→w.rangeAt b o (aA (cJ (el f) s n))
 | 0,s,o,h=>fun j v hj=>by simp[cJ,aA]at hj
 | n+1,s,o,h=>by
  have h0:=h 0 (by omega);have ih:=sA (b:=b) (f:=f) n (s+1) (o+4) fun j hj=>by
   have:=h (j+1) (by omega);rw[show o+(j+1)*4=o+4+j*4 by omega,show s+(j+1)=s+1+j by omega]at this;exact this
  intro j v hj;have e:aA (cJ (el f) s (n+1))=aA [At.q (f s)]++aA (cJ (el f) (s+1) n):=aP [At.q (f s)] _;rw[e]at hj
  by_cases hlt:j<4
  ·rw[List.getElem?_append_left (by rw[aS]; exact hlt)]at hj;have:=h0 j v hj
   rwa [Nat.zero_mul,Nat.add_zero]at this
  ·rw[List.getElem?_append_right (by rw[aS]; show 4≤j; omega),aS]at hj;have:=ih (j-4) v hj
   rwa [show o+4+(j-4)=o+j by omega]at this
theorem NM {w:World} {b N:Nat} {f:Nat→Nat} (h:LM w b N f) (hN:N≤65536) (hf:∀j,j<N→f j<RM) :
  Calls prog 197 [.int .i64 2,aM b 0 N N].toArray w fun e w'=>∃bo,e=.returned (.tuple #[aM bo 0 N N,.int .i64 0])∧Below w.heap.size w w'∧w.heap.size≤bo∧LM w' bo N (fun j=>inv (f j)):=by
 have hl:LAt w b 0 N (fun j c=>fw (f j) c):=fun k hk=>by
  have hc:w.rangeAt b (0+k*4) (aA [At.q (f k)]):=(nU h.1 h.2 hk).2;have hc:w.rangeAt b (0+k*4) [.int .u64 (fw (f k) 0:Nat),.int .u64 (fw (f k) 1:Nat),.int .u64 (fw (f k) 2:Nat),.int .u64 (fw (f k) 3:Nat)]:=hc;exact⟨hc 0 _ rfl,hc 1 _ rfl,hc 2 _ rfl,hc 3 _ rfl⟩
 have he:∀j,j<N→mE (fun j c=>fw (f j) c) j=f j:=fun j hj=>fG (fT (hf j hj))
 refine (Dr 2 Go.Proofs.YtpjlhhpjpnacmaaGreatDoor.FR qQ b 0 N N (fun j c=>fw (f j) c) (fun k hk=>eN _) (by omega) w (fun _=>h.1) hl hN (fun k hk=>by rw[he k hk]; exact hf k hk)).mono ?_
 rintro e w' ⟨bo,O,rfl,h1,h2,h3,h4,hb⟩
 refine⟨bo,rfl,hb,h1,h2,sA N 0 0 fun j hj => ?_⟩;obtain⟨k1,k2⟩:=h4 j hj;rw[he j hj]at k2;rw[Nat.zero_add,Nat.zero_add];exact Us h3 hj k1 k2 (fT (NN _))
noncomputable abbrev ivF:Func:=f162
def kZ:Code:=(f162.body).getD .skip
def NK:Code:=jV (jV (cB (cA (cB (cB kZ)))))
def Mq:Code:=cB (cB (cB kZ))
theorem Mp:kZ=.seq (cA kZ) (.seq (cA (cB kZ)) (.seq (.seq (cA (cA (cB (cB kZ)))) (.block 0 (.loop NK))) (.seq (.region 7 (aE (cA Mq)) false) (cB Mq)))):=by kernel_rfl
theorem aEi:ivF.ntmps=29:=by kernel_rfl
def xM8 (N:Nat):Ext:={ Ext.none with mks:=assoc [(8,(N,tD N))],T2:=WR,T3:=SS,T4:=XB,T5:=kX,T6:=Gy }
theorem Um (N:Nat) (base:Nat) (w:World):bQ prog { qG prog with x:=xM8 N } base w :=
 ⟨(aV _).1,jT (fun b o l h=>h.elim) (fun w' _=>FrAt.none _ _) (fun w' _=>FsAt.none _ _)⟩
def Yg (wd N:Nat) (Z:List At):List Fact:=[.slot 0 (.im (iI wd)),.slot 3 (.sl 8 0 N N),.row 8 true Z]
def UM (wd N i:Nat) (Z:List At):List Fact:=.slot 10 (.im (iI N)) :: .slot 11 (.im (iI i))::Yg wd N Z
theorem aEg (wd:Nat):aX prog (qG prog) 29 (fun _=>tC T0 fun _=>none) 60 (cA kZ) (fJ 0 [.v (.im (iI wd))]) [.slot 0 (.im (iI wd))]=some ([],.nrm,[.slot 0 (.im (iI wd))]):=by kernel_rfl
theorem aEf (wd N:Nat):aX prog { qG prog with x:=xM8 N } 29 (fun _=>tC T0 (assoc [(6,iI (2*wd)),(7,iI N)])) 60 (cA (cB kZ)) [.slot 0 (.im (iI wd))] (Yg wd N (tD N))=some ([aN .mul .i64 2 (Int.ofNat wd)=some (iI (2*wd)),aN .sub .i64 (Int.ofNat (2*wd)) 1=some (iI N),∃e,∀w:World,(Instr.makeSlice 56 (iI N) (iI N)).run prog w=.ok (.slice (some ⟨w.heap.size,0,none⟩) N N) (w.alloc (.cells (aA (tD N)).toArray e))],.nrm,Yg wd N (tD N)):=by kernel_rfl
theorem aEe (wd N:Nat) (Z:List At):aX prog (qG prog) 29 (fun _=>tC T0 fun _=>none) 60 (cA (cA (cB (cB kZ)))) (Yg wd N Z) (UM wd N 0 Z)=some ([],.nrm,UM wd N 0 Z):=by kernel_rfl
def xI (i:Nat) (Z:List At) (gen:Nat→Option Value):Ext:={ Ext.none with idx:=assoc [(21,i)],st:=assoc [(21,Z)],gen:=gen,T2:=WR,T3:=SS,T4:=XB,T5:=kX,T6:=Gy }
theorem aBW (i:Nat) (Z:List At) (gen:Nat→Option Value) (base:Nat) (w:World):bQ prog { qG prog with x:=xI i Z gen } base w :=
 ⟨(aV _).1,jT (fun b o l h=>h.elim) (fun w' _=>FrAt.none _ _) (fun w' _=>FsAt.none _ _)⟩
theorem aEh (wd N i:Nat) (Z Z':List At):aX prog { qG prog with x:=xI i Z' (assoc [(19,u6 (wd+i))]) } 29 (fun _=>tC WP (assoc [(12,.bool true),(18,iI (wd+i)),(22,iI (i+1))])) 60 NK (UM wd N i Z) (UM wd N (i+1) Z')=some ([aN .lss .i64 (Int.ofNat i) (Int.ofNat N)=some (.bool true),aN .add .i64 (Int.ofNat wd) (Int.ofNat i)=some (iI (wd+i)),∀w:World,(convert 3 22 (iI (wd+i))).run prog w=.ok (u6 (wd+i)) w,wd+i<18446744073709551616,Int.ofNat i=Int.ofNat i,i<N,put Z (0+i*4) [.q (wd+i)]=some Z',aN .add .i64 (Int.ofNat i) 1=some (iI (i+1))],.nrm,UM wd N (i+1) Z'):=by kernel_rfl
theorem aJw (wd N i:Nat) (Z:List At):aX prog (qG prog) 29 (fun _=>tC T0 (assoc [(12,.bool false)])) 60 NK (UM wd N i Z) (UM wd N i Z)=some ([aN .lss .i64 (Int.ofNat i) (Int.ofNat N)=some (.bool false)],.ex 0,UM wd N i Z):=by kernel_rfl
theorem aEk (v:Value):cX prog (qG prog) 29 (tC T0 fun _=>none) ((aE (cA Mq)).extract 0 1) [.slot 3 (.im v)] [.slot 24 (.im v)]=some ([],[.slot 24 (.im v)]):=by kernel_rfl
theorem aEj (v:Value):cX prog (qG prog) 29 (tC T0 fun _=>none) ((aE (cA Mq)).extract 2 6) [.slot 25 (.tu [.im v,.im (.int .i64 0)])] [.slot 3 (.im v)]=some ([],[.slot 3 (.im v)]):=by kernel_rfl
theorem aJx (v:Value):aX prog (qG prog) 29 (fun _=>tC T0 fun _=>none) 60 (cB Mq) [.slot 3 (.im v)] [.slot 2 (.im v)]=some ([],.rt,[.slot 2 (.im v)]):=by kernel_rfl
theorem Cq {w0:World} {wd N:Nat} (h:2*wd=N+1) (hN:N≤64):Calls prog 162 [iI wd].toArray w0 fun e w'=>∃bo,e=.returned (aM bo 0 N N)∧Below w0.heap.size w0 w'∧w0.heap.size≤bo∧LM w' bo N (fun j=>inv (wd+j)):=by
 have hG:∀base w,bQ prog (qG prog) base w:=fun _ _=>(aV _).w _ _
 have hT:∀base w,∀n d:Nat,TabOkW prog T0 base w:=fun _ _ _ _=>(bP _).w _ _
 refine cM func162 (cs:=[.v (.im (iI wd))]) (args:=[iI wd]) (c:=kZ) rfl ⟨rfl,trivial⟩ (Nat.le_of_ble_eq_true (by kernel_rfl)) fun a w hA => ?_
 have hnt:f162.ntmps=29:=aEi;rw[hnt]at hA;rw[Mp];refine wp_seq (aB aI (hT _ _) (hG _ _) (aEg wd) trivial hA fun a w hA => ?_);refine wp_seq (aB aI (hT _ _) (Um N _ _) (aEf wd N) ⟨So (i:=2) (by omega),by rw[show N=2*wd-1 by omega]; exact nV (i:=2*wd) (k:=1) (by omega) (by omega),RC (t:=56) (e:=27) (z:=[.q 0]) (v:=.int .u64 0) (n:=4) (by8:=32) (by kernel_rfl) (by kernel_rfl) rfl vN (by omega) (by omega) (by omega),trivial⟩ hA fun a w hA => ?_);refine wp_seq (wp_seq (aB aI (hT _ _) (hG _ _) (aEe wd N _) trivial hA fun a w hA => ?_));refine wp_block ?_;have hz:tD N=nH (el fun j=>wd+j) [.q 0] N 0:=(Cf _ _ _).symm;rw[hz]at hA;refine kG aI (fun i=>UM wd N i (nH (el fun j=>wd+j) [.q 0] N i)) N (fun i hi => ?_) (.ex 0) (by simp) (UM wd N N (nH (el fun j=>wd+j) [.q 0] N N)) ⟨_,_,_,_,hG _ _,hT _ _,aJw wd N N _,dM (Nat.le_refl _),trivial⟩ hA fun a w hA => ?_
 ·exact⟨_,_,_,_,aBW i _ _ _ _,fun _ _=>IF.w _ _,aEh wd N i _ (nH (el fun j=>wd+j) [.q 0] N (i+1)),fA hi,qJ (by omega),DW (by omega),by omega,rfl,hi,GJ (f:=el fun j=>wd+j) (c:=4) (fun _=>rfl) rfl hi (Nat.zero_add _),gN (k:=1) (by omega),trivial⟩
 simp only[EA.out,Exit.then,Exit.inBlock,if_true];rw[Ce]at hA;obtain⟨b,hA⟩:=hA.at (k:=8) (l:=cJ (el fun j=>wd+j) 0 N) (by simp[UM,Yg]);have hL:LM w b N (fun j=>wd+j):=hA.old (k:=8) (by simp[UM,Yg]) (by simp);have hbl:=hA.below;have hS:=aU (nt:=29) (w:=w) (a:=a) (ts:=[(3,aM b 0 N N)]) hA.defers hA.size (fun x hx=>by
  cases List.mem_singleton.1 hx;exact (hA.im (s:=3) (k:=8) (o:=0) (n:=N) (m:=N) (b:=b) (by simp[UM,Yg]) (by simp)).slot (by simp))
 clear hA;refine wp_seq (bK (l:=List.range' 0 ((aE (cA Mq)).extract 0 1).size++(1::(List.range' 2 ((aE (cA Mq)).extract 2 6).size++[]))) (by kernel_rfl) ?_);refine aJ (c:=tC T0 _) (hT _ _ 0) (hG _ _) (aEk _) trivial (by kernel_rfl) hS fun a2 w2 hA => ?_
 obtain⟨o1,ho1,⟨ts1,hop1⟩,hd1,hg1⟩:∃x,(aE (cA Mq))[1]?=some x∧(∃ts,x.op=.call ⟨.value (.func 197),#[.const (.int .i64 2),.tmp 24],ts⟩)∧x.dst=some 25∧x.guard=none:=⟨_,rfl,⟨_,rfl⟩,rfl,rfl⟩
 have hr:∀j,j<N→wd+j<RM:=fun j hj=>Nat.lt_of_lt_of_le (show wd+j<200 by omega) (by decide)
 refine bE ho1 hg1 (cQ hop1 (vs:=[.int .i64 2,aM b 0 N N]) (List.cons_eq_cons.2 ⟨rfl,List.cons_eq_cons.2 ⟨cR (hA.slot (s:=24) (by simp)),rfl⟩⟩) (fun args=>cC func197 (by kernel_rfl) (by kernel_rfl) args _) (NM (hL.on hA.below) (by omega) hr) fun e w3 hw => ?_);obtain⟨bo,rfl,hb3,hge,hM⟩:=hw;refine⟨_,rfl,?_⟩;rw[hd1];have hB3:=hbl.trans ((hA.below.mono hbl.size).trans (hb3.mono (Nat.le_trans hbl.size hA.below.size)));have hS:=BX (nt:=29) (w:=w3) (a:=a2.put (some 25) (.tuple #[aM bo 0 N N,.int .i64 0])) (ts:=[(25,.tu [.im (aM bo 0 N N),.im (.int .i64 0)])]) hA.defers (by rw[aH]; exact hA.size) (fun x hx=>by
  cases List.mem_singleton.1 hx;exact aT _ _ _ (by rw[hA.size]; decide))
 refine aJ (c:=tC T0 _) (hT _ _ 0) (hG _ _) (aEj _) trivial (by kernel_rfl) hS fun a4 w4 hA4 => ?_
 clear hS;show (cB Mq).wp _ _ _ _;refine aB aI (hT _ _) (hG _ _) (aJx _) trivial hA4 fun a5 w5 hA5 => ?_
 exact cN (l:=[.im (aM bo 0 N N)]) (r:=.one (.im (aM bo 0 N N))) (by kernel_rfl) (by kernel_rfl) hA5 ⟨bo,rfl,hB3.trans (hA5.below.mono hB3.size),Nat.le_trans (Nat.le_trans hbl.size hA.below.size) hge,hM.on hA5.below⟩
theorem Bv {w:World} {p:Option Addr} {N m:Nat} {f:Nat→Nat} (h:LV w (.slice p N m) N f) (hN:N≤65536):FIs w p N (fun j c=>fw (f j) c):=by
 obtain⟨p',m',e,h2,h3,h4⟩:=h;cases e;refine⟨by omega,fun k hk=>eN _,fun h0 => ?_⟩;obtain⟨b,o,rfl,hb,hr⟩:=h4 h0;refine⟨b,o,rfl,hb,fun k hk => ?_⟩;have hc:w.rangeAt b (o+k*4) (aA [At.q (f k)]):=(nU hb hr hk).2;have hc:w.rangeAt b (o+k*4) [.int .u64 (fw (f k) 0:Nat),.int .u64 (fw (f k) 1:Nat),.int .u64 (fw (f k) 2:Nat),.int .u64 (fw (f k) 3:Nat)]:=hc;exact⟨hc 0 _ rfl,hc 1 _ rfl,hc 2 _ rfl,hc 3 _ rfl⟩
theorem Ec {f:Nat→Nat} {j:Nat} (h:f j<aG):mE (fun j c=>fw (f j) c) j=f j:=fG h
theorem En {f g X Y:Nat→Nat}:∀n,(∀j,j<n→X j=f j)→(∀j,j<n→Y j=g j)→JS RM X Y n=Eo f g n
 | 0,_,_=>rfl
 | n+1,h1,h2=>by
  show (JS RM X Y n+X n*Y n)%RM=(Eo f g n+(f n*g n)%RM)%RM;rw[En n (fun j hj=>h1 j (by omega)) (fun j hj=>h2 j (by omega)),h1 n (by omega),h2 n (by omega),Nat.add_mod_mod]
theorem VJ {w:World} {v v2:Value} {N:Nat} {f g:Nat→Nat} (hv:LV w v N f) (hv2:LV w v2 N g) (hN:N≤65536) (hf:pM N f) (hg:pM N g):bG prog 199 (.many [.fl [.q (Eo f g N)],.im (.int .i64 0)]) [.int .i64 2,v,v2] w:=by
 obtain⟨p,m,rfl,_⟩:=id hv;obtain⟨q,m2,rfl,_⟩:=id hv2;have e1:∀j,j<N→mE (fun j c=>fw (f j) c) j=f j:=fun j hj=>Ec (fT (hf j hj))
 have e2:∀j,j<N→mE (fun j c=>fw (g j) c) j=g j:=fun j hj=>Ec (fT (hg j hj))
 refine (Om 2 Go.Proofs.YtpjlhhpjpnacmaaGreatDoor.FR qQ p q N m N m2 _ _ rfl hN (fun k hk=>by rw[e1 k hk]; exact hf k hk) (fun k hk=>by rw[e2 k hk]; exact hg k hk) w (Bv hv hN) (Bv hv2 hN)).mono ?_
 rintro e w' ⟨s0,s1,s2,s3,rfl,hs,hw,hb⟩
 rw[show JS Go.Proofs.YtpjlhhpjpnacmaaGreatDoor.FR.M _ _ N=Eo f g N from En N e1 e2]at hw;obtain⟨rfl,rfl,rfl,rfl⟩:=gY hs (fT (El f g N)) hw;exact⟨rfl,hb⟩
def Zn (v v2:Value) (N:Nat) (f g:Nat→Nat):gE
 | [.v (.im (.int .i64 2)),.v (.im u),.v (.im t)]=>some ([u=v,t=v2],.many [.fl [.q (Eo f g N)],.im (.int .i64 0)])
 | _=>none
theorem Oa {w:World} {v v2:Value} {N:Nat} {f g:Nat→Nat} (hv:LV w v N f) (hv2:LV w v2 N g) (hN:N≤65536) (hf:pM N f) (hg:pM N g):∀cs pre r,Zn v v2 N f g cs=some (pre,r)→bC pre→∀(args:List Value),cP w cs args→bG prog 199 r args w:=by
 intro cs pre r hg' hp args ha;unfold Zn at hg';split at hg'
 ·cases hg'
  match args,ha with
  | [a1,a2,a3],ha =>
   have h1:a1=.int .i64 2:=ha.1;have h2:a2=_:=ha.2.1;have h3:a3=_:=ha.2.2.1;obtain⟨rfl,rfl,_⟩:=hp;subst h1; subst h2; subst h3;exact VJ hv hv2 hN hf hg
  | [],ha=>exact ha.elim
  | [_],ha=>exact ha.2.elim
  | [_,_],ha=>exact ha.2.2.elim
  | _::_::_::_::_,ha=>exact ha.2.2.2.elim
 ·cases hg'
theorem LV.piece {w:World} {b o N m i k:Nat} {f:Nat→Nat} (h:LV w (aM b o N m) N f) (hi:i+k≤N):LV w (aM b (o+i*4) k (m-i)) k (fun j=>f (i+j)):=by
 obtain⟨p',m',e,h2,h3,h4⟩:=h;cases e;refine⟨_,_,rfl,by omega,fun j hj=>h3 _ (by omega),fun h0 => ?_⟩;obtain⟨b',o',e,hb,hr⟩:=h4 (by omega);cases e;refine⟨b,o+i*4,rfl,hb,?_⟩;have key:∀(n s:Nat),i+s+n≤N→w.rangeAt b (o+(i+s)*4) (aA (cJ (el fun j=>f (i+j)) s n)):=fun n=>by
  induction n with
  | zero=>intro s _ j v hj; simp[cJ,aA]at hj
  | succ n ih =>
   intro s hs j v hj;have hj:(aA (el (fun j=>f (i+j)) s++cJ (el fun j=>f (i+j)) (s+1) n))[j]?=some v:=hj;rw[aP]at hj
   by_cases hj4:j<4
   ·rw[List.getElem?_append_left (by exact hj4)]at hj;exact (nU hb hr (show i+s<N by omega)).2 j v hj
   ·rw[List.getElem?_append_right (by show 4≤j; omega)]at hj;have:=ih (s+1) (by omega) (j-4) v hj
    rwa [show o+(i+(s+1))*4+(j-4)=o+(i+s)*4+j by omega]at this
 exact key k 0 (by omega)
theorem YU {b o N m i j:Nat} (h1:i≤j) (h2:j≤m) (h3:i<m) (w:World):(Instr.sliceAt 56 (aM b o N m) (some (iI i)) (some (iI j)) none).run prog w=.ok (aM b (o+i*4) (j-i) (m-i)) w:=by
 have hmi:¬m=i:=by omega
 have hu:prog.underlying 56=some (.slice 27):=underlying56;have hs:dD prog 27=some 4:=by kernel_rfl
 simp[Instr.sliceAt,Instr.slice,run_underlying hu,Instr.sliceBounds,Instr.sliceBound,asIntOf,bH hs,Addr.add_mid,Nat.add_assoc,h1,h2,hmi,aM,iI]
 try omega
def aKB (v v2:Value) (N:Nat) (f g:Nat→Nat):Tab:=T0.add 199 (Zn v v2 N f g)
theorem Wb (v v2:Value) (N:Nat) (f g:Nat→Nat):cH prog (qG prog) (fun _=>tC (aKB v v2 N f g) fun _=>none) f167 60 [.v (.im v),.v (.im v2)]=some ([v=v,v2=v2],.one (.fl [.q (Eo f g N)])):=by kernel_rfl
theorem Es {w:World} {v v2:Value} {N:Nat} {f g:Nat→Nat} (hv:LV w v N f) (hv2:LV w v2 N g) (hN:N≤65536) (hf:pM N f) (hg:pM N g):bG prog 167 (.one (.fl [.q (Eo f g N)])) [v,v2] w :=
 bZ aI (fun _ _=>TabOkW.add ((bP _).w _ _) func199 (by kernel_rfl) (by kernel_rfl) (fun w' hw=>Oa (hv.on hw) (hv2.on hw) hN hf hg)) ((aV _).w _ _) func167 (Wb v v2 N f g) ⟨rfl,rfl,trivial⟩ (args:=[v,v2]) ⟨rfl,rfl,trivial⟩
def rP (wd fl pt:Nat) (cs is:Value):List At:=[.c (iI wd),.c (iI fl),.c (iI pt),.c cs,.c is]
theorem Jz (w:World) (wd fl pt i ib M:Nat) (cs:Value):cH prog { qG prog with x:=xO w (fun _=>none) (fun _=>none) (assoc [(13,aM ib (0+i*4) (i+wd-i) (M-i))]) } (fun _=>tC T0 (assoc [(12,iI (i+wd))])) f168 60 [.v (.fl (rP wd fl pt cs (aM ib 0 M M))),.v (.im (iI i))]=some ([aN .add .i64 (Int.ofNat i) (Int.ofNat wd)=some (iI (i+wd)),∀w:World,(Instr.sliceAt 56 (aM ib 0 M M) (some (iI i)) (some (iI (i+wd))) none).run prog w=.ok (aM ib (0+i*4) (i+wd-i) (M-i)) w],.one (.im (aM ib (0+i*4) (i+wd-i) (M-i)))):=by kernel_rfl
theorem TJ {w:World} {wd fl pt i ib M:Nat} {cs:Value} (hi:i<M) (hw:i+wd≤M) (hM:M≤65536):bG prog 168 (.one (.im (aM ib (0+i*4) wd (M-i)))) [.agg (aA (rP wd fl pt cs (aM ib 0 M M))).toArray,iI i] w:=by
 have h:=bZ (w:=w) aI (fun _ _=>(bP _).w _ _) (dS w _ _ _) func168 (Jz w wd fl pt i ib M cs) ⟨qJ (by omega),fun w=>YU (by omega) hw hi w,trivial⟩ (args:=[.agg (aA (rP wd fl pt cs (aM ib 0 M M))).toArray,iI i]) ⟨rfl,rfl,trivial⟩
 rwa [show i+wd-i=wd by omega]at h
theorem Jy (wd fl pt r:Nat) (cs is:Value):cH prog (qG prog) (fun _=>tC T0 (assoc [(9,iI (fl/2)),(12,.bool true)])) f165 60 [.v (.fl (rP wd fl pt cs is)),.v (.im (iI r))]=some ([aN .quo .i64 (Int.ofNat fl) 2=some (iI (fl/2)),aN .lss .i64 (Int.ofNat r) (Int.ofNat (fl/2))=some (.bool true)],.one (.im (iI wd))):=by kernel_rfl
theorem Jx (wd fl pt r:Nat) (cs is:Value):cH prog (qG prog) (fun _=>tC T0 (assoc [(9,iI (fl/2)),(12,.bool false),(19,iI (fl/2+pt)),(20,.bool true)])) f165 60 [.v (.fl (rP wd fl pt cs is)),.v (.im (iI r))]=some ([aN .quo .i64 (Int.ofNat fl) 2=some (iI (fl/2)),aN .lss .i64 (Int.ofNat r) (Int.ofNat (fl/2))=some (.bool false),aN .add .i64 (Int.ofNat (fl/2)) (Int.ofNat pt)=some (iI (fl/2+pt)),aN .geq .i64 (Int.ofNat r) (Int.ofNat (fl/2+pt))=some (.bool true)],.one (.im (iI wd))):=by kernel_rfl
theorem Jw (wd fl pt r:Nat) (cs is:Value):cH prog (qG prog) (fun _=>tC T0 (assoc [(9,iI (fl/2)),(12,.bool false),(19,iI (fl/2+pt)),(20,.bool false)])) f165 60 [.v (.fl (rP wd fl pt cs is)),.v (.im (iI r))]=some ([aN .quo .i64 (Int.ofNat fl) 2=some (iI (fl/2)),aN .lss .i64 (Int.ofNat r) (Int.ofNat (fl/2))=some (.bool false),aN .add .i64 (Int.ofNat (fl/2)) (Int.ofNat pt)=some (iI (fl/2+pt)),aN .geq .i64 (Int.ofNat r) (Int.ofNat (fl/2+pt))=some (.bool false)],.one (.im (iI 1))):=by kernel_rfl
theorem Ax {i n:Nat}:aN .geq .i64 (Int.ofNat i) (Int.ofNat n)=some (.bool (decide (n≤i))):=by
 show some (Value.bool (decide ((i:Int)≥(n:Int))))=_;congr 2;exact decide_eq_decide.2 ⟨fun h=>by omega,fun h=>by omega⟩
theorem ZF {w:World} {wd fl pt r:Nat} {cs is:Value} (hf:fl≤65536) (hp:pt≤65536):bG prog 165 (.one (.im (iI (rz wd fl pt r)))) [.agg (aA (rP wd fl pt cs is)).toArray,iI r] w:=by
 have hq:aN .quo .i64 (Int.ofNat fl) 2=some (iI (fl/2)):=Aw (k:=2) (by omega) (by omega);have hT:∀n d:Nat,TabOkW prog T0 w.heap.size w:=fun _ _=>(bP _).w _ _
 have hG:bQ prog (qG prog) w.heap.size w:=(aV _).w _ _;unfold rz
 by_cases h1:r<fl/2
 ·rw[if_pos h1];exact bZ aI hT hG func165 (Jy wd fl pt r cs is) ⟨hq,fA h1,trivial⟩ (args:=[.agg (aA (rP wd fl pt cs is)).toArray,iI r]) ⟨rfl,rfl,trivial⟩
 ·rw[if_neg h1]
  by_cases h2:fl/2+pt≤r
  ·rw[if_pos h2];exact bZ aI hT hG func165 (Jx wd fl pt r cs is) ⟨hq,dM (by omega),qJ (by omega),by rw[Ax,decide_eq_true h2],trivial⟩ (args:=[.agg (aA (rP wd fl pt cs is)).toArray,iI r]) ⟨rfl,rfl,trivial⟩
  ·rw[if_neg h2];exact bZ aI hT hG func165 (Jw wd fl pt r cs is) ⟨hq,dM (by omega),qJ (by omega),by rw[Ax,decide_eq_false h2],trivial⟩ (args:=[.agg (aA (rP wd fl pt cs is)).toArray,iI r]) ⟨rfl,rfl,trivial⟩
noncomputable abbrev clF:Func:=f163
def qU:Code:=(f163.body).getD .skip
def cl3:Code:=cA (cB (cB qU))
theorem Pr:qU=.seq (cA qU) (.seq (cA (cB qU)) (.seq (.region 3 (aE cl3) false) .ret)):=by kernel_rfl
theorem aGB:clF.ntmps=8:=by kernel_rfl
theorem aGA (v:Value):aX prog (qG prog) 8 (fun _=>tC T0 fun _=>none) 60 (cA qU) (fJ 0 [.v (.im v)]) [.slot 0 (.im v)]=some ([],.nrm,[.slot 0 (.im v)]):=by kernel_rfl
theorem aGz (w:World) (v:Value):aX prog { qG prog with x:=xO w (fun _=>none) (fun _=>none) (assoc [(4,.bool false)]) } 8 (fun _=>tC T0 fun _=>none) 60 (cA (cB qU)) [.slot 0 (.im v)] [.slot 0 (.im v)]=some ([iH .eql 56 (.tmp 3) (.const (.slice none 0 0)) v (.slice none 0 0) (.bool false)],.nrm,[.slot 0 (.im v)]):=by kernel_rfl
theorem aGy (v u:Value):cX prog (qG prog) 8 (tC T0 fun _=>none) ((aE cl3).extract 1 2) [.slot 5 (.im u),.slot 0 (.im v)] [.slot 6 (.im v),.slot 5 (.im u)]=some ([],[.slot 6 (.im v),.slot 5 (.im u)]):=by kernel_rfl
theorem aGx (v:Value):cX prog (qG prog) 8 (tC T0 fun _=>none) ((aE cl3).extract 3 4) [.slot 7 (.im v)] [.slot 2 (.im v)]=some ([],[.slot 2 (.im v)]):=by kernel_rfl
theorem aAd (d:Nat) (b o n m:Nat) (w:World):(Op.equalIn (d+1) 56 (aM b o n m) (.slice none 0 0)).run prog w=.ok false w:=by
 have hu:prog.underlying 56=some (.slice 27):=underlying56;simp[Op.equalIn,aM,run_underlying hu]
theorem Vy (x y:Operand) (b o n m:Nat):iH .eql 56 x y (aM b o n m) (.slice none 0 0) (.bool false):=fun w=>by
 have hu:prog.underlying 56=some (.slice 27):=underlying56;have h:=aAd 9999 b o n m w;have e:Op.maxDepth=9999+1:=rfl;simp[eqGuard,binOp,go_sem,run_underlying hu,Op.equal,e,h,show aM b o n m=Value.slice (some ⟨b,o,none⟩) n m from rfl]at h ⊢;simp[h]
theorem Qn (w:World):(Instr.buildSlice 56 0 #[]).run prog w=.ok (aM w.heap.size 0 0 0) (w.alloc (.cells #[] 27)):=by
 obtain⟨ht,i,z,hi,hz,hsize,hby,hzs,hsz⟩:=jG VC;simp[Instr.buildSlice,run_underlying ht,sizeOf,typeInfo,hi,newRow,aM,Instr.fill,show Array.range 0 = #[] by simp[Array.range]]
theorem JZ (f:Nat→Nat):∀(n s:Nat),∀v∈aA (cJ (el f) s n),v.oneCell'=true
 | 0,s,v,h=>by simp[cJ,aA]at h
 | n+1,s,v,h=>by
  have e:aA (cJ (el f) s (n+1))=aA [At.q (f s)]++aA (cJ (el f) (s+1) n):=aP [At.q (f s)] _;rw[e]at h
  rcases List.mem_append.1 h with h|h
  ·exact ZP _ v h
  ·exact JZ f n (s+1) v h
theorem Ff {w0:World} {b o N m:Nat} {f:Nat→Nat} (hv:LV w0 (aM b o N m) N f) (h0:0<N) (hN:N≤131072) :
  Calls prog 163 [aM b o N m].toArray w0 fun e w'=>∃c cap,e=.returned (aM c 0 N cap)∧N≤cap∧Below w0.heap.size w0 w'∧w0.heap.size≤c∧Own w' c (cJ (el f) 0 N):=by
 have hG:∀base w,bQ prog (qG prog) base w:=fun _ _=>(aV _).w _ _
 have hT:∀base w,∀n d:Nat,TabOkW prog T0 base w:=fun _ _ _ _=>(bP _).w _ _
 have hnt:f163.ntmps=8:=aGB;refine cM func163 (cs:=[.v (.im (aM b o N m))]) (args:=[aM b o N m]) (c:=qU) rfl ⟨rfl,trivial⟩ (Nat.le_of_ble_eq_true (by kernel_rfl)) fun a w hA => ?_
 rw[hnt]at hA;rw[Pr];refine wp_seq (aB aI (hT _ _) (hG _ _) (aGA _) trivial hA fun a w hA => ?_);refine wp_seq (aB aI (hT _ _) (dS w0 _ _ _) (aGz w0 _) ⟨Vy _ _ _ _ _ _,trivial⟩ hA fun a w hA => ?_);have t0:=hA.slot (s:=0) (v:=aM b o N m) (by simp);have hd:=hA.defers;have hsz:=hA.size;have hbl:=hA.below;clear hA;refine wp_seq (bK (l:=0::(List.range' 1 ((aE cl3).extract 1 2).size++(2::(List.range' 3 ((aE cl3).extract 3 4).size++[])))) (by kernel_rfl) ?_);obtain⟨o0,ho0,hop0,hd0,hg0⟩:∃x,(aE cl3)[0]?=some x∧x.op=.buildSlice 56 0 #[]∧x.dst=some 5∧x.guard=none:=⟨_,rfl,rfl,rfl,rfl⟩
 have hrun0:(execOp a.eval o0).run prog w=.ok (.value (aM w.heap.size 0 0 0)) (w.alloc (.cells #[] 27)):=by
  simp[execOp,hop0,Qn w]
 refine bE ho0 hg0 (cD hrun0 ?_);rw[hd0];have hb1:Below w.heap.size w (w.alloc (.cells #[] 27)):=(Below.refl _ w).alloc (Nat.le_refl _) _;have hap:AppAt (w.alloc (.cells #[] 27)) w.heap.size 27 4 0 0:=⟨#[],World.alloc_heap_new _ _,Nat.le_refl _,Nat.zero_le _,rfl⟩;generalize hc0:w.heap.size=c0 at hap;have hc0':w0.heap.size≤c0:=by rw[←hc0]; exact hbl.size
 generalize w.alloc (.cells #[] 27)=w1 at *;have hb1:Below w0.heap.size w0 w1:=hbl.trans (hb1.mono (by rw[hc0]; exact hc0'));have hS:=aU (nt:=8) (w:=w1) (a:=a.put (some 5) (aM c0 0 0 0)) (ts:=[(5,aM c0 0 0 0),(0,aM b o N m)]) hd (by rw[aH]; exact hsz) (fun x hx=>by
  simp only[List.mem_cons,List.not_mem_nil,or_false]at hx
  rcases hx with rfl|rfl
  ·exact aT _ _ _ (by rw[hsz]; decide)
  ·exact aQ t0 (by simp))
 refine aJ (c:=tC T0 _) (hT _ _ 0) (hG _ _) (aGy _ _) trivial (by kernel_rfl) hS fun a2 w2 hA => ?_
 obtain⟨o2,ho2,⟨ty,hop2⟩,hd2,hg2⟩:∃x,(aE cl3)[2]?=some x∧(∃ty:Nat,x.op=.call ⟨.builtin .append,#[.tmp 5,.tmp 6],#[56,56]⟩∧x.type=ty)∧x.dst=some 7∧x.guard=none:=⟨_,rfl,⟨_,rfl,rfl⟩,rfl,rfl⟩
 have hv2:=hv.on (hb1.trans (hA.below.mono hb1.size));obtain⟨p',m',e,_,_,h4⟩:=hv2;cases e;obtain⟨b',o',e,hb',hr⟩:=h4 h0;cases e;obtain⟨c,cap,w3,hr',a1,q2,q3,q4,a5,a6,a7⟩:=nO (P:=prog) w2 (ty:=o2.type) VC (u:=aM c0 0 0 0) (n:=0) (xs:=[]) (Or.inr ⟨c0,0,rfl,hap.shape hA.shape,fun j v hj=>by simp at hj,rfl⟩) (ad:=⟨b,o,none⟩) (m:=N) (c:=m) (news:=aA (cJ (el f) 0 N)) (oK f N 0) (fun j v hj=>by
  have e:(⟨b,o,none⟩:Addr).add j=⟨b,o+j,none⟩:=by simp[Addr.add]
  rw[e];exact hr j v hj) (JZ f N 0) h0 (by omega) (by unfold maxLen; omega)
 rw[Nat.zero_add]at hr';have hcap:N≤cap:=by obtain⟨_,_,h,_⟩:=a1; omega
 have hrun2:(execOp a2.eval o2).run prog w2=.ok (.value (aM c 0 N cap)) w3:=by
  unfold execOp;simp only[hop2.1,resolve,invoke,builtin,Sem.run_bind,Sem.run_pure,Result.andThen_ok,List.map_toArray,List.map_cons,List.map_nil,cR (hA.slot (s:=5) (v:=aM c0 0 0 0) (by simp)),cR (hA.slot (s:=6) (v:=aM b o N m) (by simp))];rw[show aM b o N m=Value.slice (some ⟨b,o,none⟩) N m from rfl,hr'];rfl
 refine bE ho2 hg2 (cD hrun2 ?_);rw[hd2];have hb2:Below w0.heap.size w0 w2:=hb1.trans (hA.below.mono hb1.size);have hb3:Below w0.heap.size w0 w3:=hb2.grown a5 hb2.size (fun k hk=>by
  have:k=c0:=by simpa[aM,Value.ownBlock,eq_comm]using hk
  omega)
 have hcge:w0.heap.size≤c:=by
  rcases a7 with h|⟨cap0,h⟩
  ·exact Nat.le_trans hb2.size h
  ·have:c0=c:=by simp only[aM,Value.slice.injEq,Option.some.injEq,Addr.mk.injEq]at h; exact h.1.1
   omega
 have hS3:=aU (nt:=8) (w:=w3) (a:=a2.put (some 7) (aM c 0 N cap)) (ts:=[(7,aM c 0 N cap)]) hA.defers (by rw[aH]; exact hA.size) (fun x hx=>by
  cases List.mem_singleton.1 hx;exact aT _ _ _ (by rw[hA.size]; decide))
 refine aJ (c:=tC T0 _) (hT _ _ 0) (hG _ _) (aGx _) trivial (by kernel_rfl) hS3 fun a4 w4 hA4 => ?_
 have hO:Own w3 c (cJ (el f) 0 N):=⟨q2,q3,q4⟩;exact wp_ret (cN (l:=[.im (aM c 0 N cap)]) (r:=.one (.im (aM c 0 N cap))) (by kernel_rfl) (by kernel_rfl) hA4 ⟨c,cap,rfl,hcap,hb3.trans (hA4.below.mono hb3.size),hcge,hO.on hA4.below⟩)
noncomputable abbrev aJg:Func:=f120
def gS:Code:=(f120.body).getD .skip
def pmX:Code:=cB (cB (cB (cB gS)))
def gJ:Code:=jV (jV (cB (cA pmX)))
def Lm:Code:=jV (cA (cB (cB gJ)))
def pm1:Code:=cA (cB Lm)
def pm2:Code:=cA (cB (cB Lm))
def pm3:Code:=cA (cB (cB (cB Lm)))
def Ll:Code:=jV (jV (cB pm1))
def Lk:Code:=jV (jV (cB pm2))
def Lj:Code:=jV (jV (cB pm3))
theorem Li:gS=.seq (cA gS) (.seq (cA (cB gS)) (.seq (cA (cB (cB gS))) (.seq (.region 3 (aE (cA (cB (cB (cB gS))))) false) (.seq (.seq (cA (cA pmX)) (.block 0 (.loop gJ))) (cB pmX))))):=by kernel_rfl
theorem Lh:gJ=.seq (cA gJ) (.seq (cA (cB gJ)) (.seq (.block 1 (.seq (cA Lm) (.seq (.seq (cA pm1) (.block 2 (.loop Ll))) (.seq (.seq (cA pm2) (.block 4 (.loop Lk))) (.seq (.seq (cA pm3) (.block 6 (.loop Lj))) (cB (cB (cB (cB Lm))))))))) (cB (cB (cB gJ))))):=by kernel_rfl
theorem aDm:aJg.ntmps=89:=by kernel_rfl
def wU (pb wd R r b6 m6 b7 m7:Nat) (l6 l7:List At):List Fact:=[.slot 2 (.im (ptV pb 0)),.slot 5 (.im (iI wd)),.slot 6 (.sl 1006 0 wd m6),.row 1006 true l6,.at 1006 b6,.slot 7 (.sl 1007 0 wd m7),.row 1007 true l7,.at 1007 b7,.slot 26 (.im (iI R)),.slot 27 (.im (iI r))]
def QS (pb wd R r b6 m6 b7 m7:Nat) (l6 l7:List At):List Fact:=.slot 8 (.im (iI r))::wU pb wd R r b6 m6 b7 m7 l6 l7
def Xh (cv:Value) (j pb wd R r b6 m6 b7 m7:Nat) (l6 l7:List At):List Fact:=.slot 39 (.im cv) :: .slot 40 (.im (iI wd)) :: .slot 41 (.im (iI j))::QS pb wd R r b6 m6 b7 m7 l6 l7
def Xg (k j pb wd R r b6 m6 b7 m7:Nat) (l6 l7:List At):List Fact:=.slot 58 (.im (iI k)) :: .slot 59 (.im (iI j))::QS pb wd R r b6 m6 b7 m7 l6 l7
def Xf (j pb wd R r b6 m6 b7 m7:Nat) (l6 l7:List At):List Fact:=.slot 72 (.im (iI wd)) :: .slot 73 (.im (iI j))::QS pb wd R r b6 m6 b7 m7 l6 l7
def BL (w:World) (idx:Nat→Option Nat) (ld st:Nat→Option (List At)) (gen:Nat→Option Value):Ext:={ Ext.none with idx:=idx,ld:=ld,st:=st,gen:=gen,old:=oldOf w,T2:=WR,T3:=SS,T4:=XB,T5:=kX,T6:=Gy }
theorem kM (w:World) (idx:Nat→Option Nat) (ld st:Nat→Option (List At)) (gen:Nat→Option Value):bQ prog { qG prog with x:=BL w idx ld st gen } w.heap.size w :=
 ⟨(aV _).1,jT (fun b o l h=>h) (fun w' _=>FrAt.none _ _) (fun w' _=>FsAt.none _ _)⟩
def aBV (N:Nat):Ext:={ Ext.none with mks:=assoc [(17,(N,tD N))],T2:=WR,T3:=SS,T4:=XB,T5:=kX,T6:=Gy }
theorem Hw (N:Nat) (base:Nat) (w:World):bQ prog { qG prog with x:=aBV N } base w :=
 ⟨(aV _).1,jT (fun b o l h=>h.elim) (fun w' _=>FrAt.none _ _) (fun w' _=>FsAt.none _ _)⟩
section
variable (w:World) (pb wd R r b6 m6 b7 m7:Nat) (l6 l7:List At)
theorem aDq:aX prog (qG prog) 89 (fun _=>tC T0 (assoc [(28,.bool true)])) 60 (cA gJ) (wU pb wd R r b6 m6 b7 m7 l6 l7) (.slot 28 (.im (.bool true))::wU pb wd R r b6 m6 b7 m7 l6 l7)=some ([aN .lss .i64 (Int.ofNat r) (Int.ofNat R)=some (.bool true)],.nrm,.slot 28 (.im (.bool true))::wU pb wd R r b6 m6 b7 m7 l6 l7):=by kernel_rfl
theorem Xd:aX prog (qG prog) 89 (fun _=>tC T0 fun _=>none) 60 (cA (cB gJ)) (.slot 28 (.im (.bool true))::wU pb wd R r b6 m6 b7 m7 l6 l7) (wU pb wd R r b6 m6 b7 m7 l6 l7)=some ([],.nrm,wU pb wd R r b6 m6 b7 m7 l6 l7):=by kernel_rfl
theorem aJf:aX prog (qG prog) 89 (fun _=>tC T0 (assoc [(28,.bool false)])) 60 (cA gJ) (wU pb wd R r b6 m6 b7 m7 l6 l7) (.slot 28 (.im (.bool false))::wU pb wd R r b6 m6 b7 m7 l6 l7)=some ([aN .lss .i64 (Int.ofNat r) (Int.ofNat R)=some (.bool false)],.nrm,.slot 28 (.im (.bool false))::wU pb wd R r b6 m6 b7 m7 l6 l7):=by kernel_rfl
theorem aDf:aX prog (qG prog) 89 (fun _=>tC T0 fun _=>none) 60 (cA (cB gJ)) (.slot 28 (.im (.bool false))::wU pb wd R r b6 m6 b7 m7 l6 l7) (wU pb wd R r b6 m6 b7 m7 l6 l7)=some ([],.ex 0,wU pb wd R r b6 m6 b7 m7 l6 l7):=by kernel_rfl
theorem aDk:aX prog (qG prog) 89 (fun _=>tC T0 fun _=>none) 60 (cA Lm) (wU pb wd R r b6 m6 b7 m7 l6 l7) (QS pb wd R r b6 m6 b7 m7 l6 l7)=some ([],.nrm,QS pb wd R r b6 m6 b7 m7 l6 l7):=by kernel_rfl
theorem aDj (cb C co cm:Nat):aX prog { qG prog with x:=BL w (fun _=>none) (fun _=>none) (fun _=>none) (assoc [(31,aM cb 0 C C),(39,aM cb co wd cm)]) } 89 (fun _=>tC T0 (assoc [(34,iI (r*wd)),(36,iI (r+1)),(38,iI ((r+1)*wd))])) 60 (cA pm1) (QS pb wd R r b6 m6 b7 m7 l6 l7) (Xh (aM cb co wd cm) 0 pb wd R r b6 m6 b7 m7 l6 l7)=some ([oldOf w pb 3 [.c (aM cb 0 C C)],aN .mul .i64 (Int.ofNat r) (Int.ofNat wd)=some (iI (r*wd)),aN .add .i64 (Int.ofNat r) 1=some (iI (r+1)),aN .mul .i64 (Int.ofNat (r+1)) (Int.ofNat wd)=some (iI ((r+1)*wd)),∀w:World,(Instr.sliceAt 56 (aM cb 0 C C) (some (iI (r*wd))) (some (iI ((r+1)*wd))) none).run prog w=.ok (aM cb co wd cm) w],.nrm,Xh (aM cb co wd cm) 0 pb wd R r b6 m6 b7 m7 l6 l7):=by kernel_rfl
theorem aDp (cb co cm j x c:Nat) (l7':List At):aX prog { qG prog with x:=BL w (assoc [(44,j),(50,j),(54,j)]) (assoc [(45,[.q c]),(51,[.q x])]) (assoc [(54,l7')]) (fun _=>none) } 89 (fun _=>tC WO (assoc [(42,.bool true),(55,iI (j+1))])) 60 Ll (Xh (aM cb co wd cm) j pb wd R r b6 m6 b7 m7 l6 l7) (Xh (aM cb co wd cm) (j+1) pb wd R r b6 m6 b7 m7 l6 l7')=some ([aN .lss .i64 (Int.ofNat j) (Int.ofNat wd)=some (.bool true),Int.ofNat j=Int.ofNat j,j<wd,oldOf w cb (co+j*4) [.q c],dN [.q c]=4,Int.ofNat j=Int.ofNat j,j<wd,zQ l7 (0+j*4) 4=some [.q x],x<RM,c<RM,Int.ofNat j=Int.ofNat j,j<wd,put l7 (0+j*4) [.q (iP x c)]=some l7',aN .add .i64 (Int.ofNat j) 1=some (iI (j+1))],.nrm,Xh (aM cb co wd cm) (j+1) pb wd R r b6 m6 b7 m7 l6 l7'):=by kernel_rfl
theorem Xc (cv:Value) (j:Nat):aX prog (qG prog) 89 (fun _=>tC T0 (assoc [(42,.bool false)])) 60 Ll (Xh cv j pb wd R r b6 m6 b7 m7 l6 l7) (QS pb wd R r b6 m6 b7 m7 l6 l7)=some ([aN .lss .i64 (Int.ofNat j) (Int.ofNat wd)=some (.bool false)],.ex 2,QS pb wd R r b6 m6 b7 m7 l6 l7):=by kernel_rfl
theorem Wy (fl pt k:Nat) (cs is:Value):aX prog { qG prog with x:=BL w (fun _=>none) (assoc [(56,rP wd fl pt cs is)]) (fun _=>none) (fun _=>none) } 89 (fun _=>tC (T0.add 165 (fun a=>match a with
  | [.v (.fl l),.v (.im v)]=>some ([aA l=aA (rP wd fl pt cs is),v=iI r],.one (.im (iI k)))
  | _=>none)) fun _=>none) 60 (cA pm2) (QS pb wd R r b6 m6 b7 m7 l6 l7) (Xg k 0 pb wd R r b6 m6 b7 m7 l6 l7)=some ([oldOf w pb 0 (rP wd fl pt cs is),dN (rP wd fl pt cs is)=5,aA (rP wd fl pt cs is)=aA (rP wd fl pt cs is),iI r=iI r],.nrm,Xg k 0 pb wd R r b6 m6 b7 m7 l6 l7):=by kernel_rfl
theorem aDo (k j x:Nat) (l7':List At):aX prog { qG prog with x:=BL w (assoc [(66,j),(69,j)]) (assoc [(67,[.q x])]) (assoc [(69,l7')]) (fun _=>none) } 89 (fun _=>tC WO (assoc [(60,.bool true),(70,iI (j+1))])) 60 Lk (Xg k j pb wd R r b6 m6 b7 m7 l6 l7) (Xg k (j+1) pb wd R r b6 m6 b7 m7 l6 l7')=some ([aN .lss .i64 (Int.ofNat j) (Int.ofNat k)=some (.bool true),Int.ofNat j=Int.ofNat j,j<wd,zQ l7 (0+j*4) 4=some [.q x],x<RM,Int.ofNat j=Int.ofNat j,j<wd,put l7 (0+j*4) [.q (Oj x)]=some l7',aN .add .i64 (Int.ofNat j) 1=some (iI (j+1))],.nrm,Xg k (j+1) pb wd R r b6 m6 b7 m7 l6 l7'):=by kernel_rfl
theorem Xb (k j:Nat):aX prog (qG prog) 89 (fun _=>tC T0 (assoc [(60,.bool false)])) 60 Lk (Xg k j pb wd R r b6 m6 b7 m7 l6 l7) (QS pb wd R r b6 m6 b7 m7 l6 l7)=some ([aN .lss .i64 (Int.ofNat j) (Int.ofNat k)=some (.bool false)],.ex 4,QS pb wd R r b6 m6 b7 m7 l6 l7):=by kernel_rfl
theorem Wx:aX prog (qG prog) 89 (fun _=>tC T0 fun _=>none) 60 (cA pm3) (QS pb wd R r b6 m6 b7 m7 l6 l7) (Xf 0 pb wd R r b6 m6 b7 m7 l6 l7)=some ([],.nrm,Xf 0 pb wd R r b6 m6 b7 m7 l6 l7):=by kernel_rfl
def gRw (wd fl pt j:Nat) (cs is rw:Value):gE
 | [.v (.fl l),.v (.im v)]=>some ([aA l=aA (rP wd fl pt cs is),v=iI j],.one (.im rw))
 | _=>none
def gDo (wd x:Nat) (rw:Value) (l0:List At):gE
 | [.v (.im u),.s l n m]=>some ([u=rw,l=l0,n=wd,wd≤m],.one (.fl [.q x]))
 | _=>none
def aHt (wd fl pt j x:Nat) (cs is rw:Value) (l0:List At):Tab:=(T0.add 168 (gRw wd fl pt j cs is rw)).add 167 (gDo wd x rw l0)
theorem aDn (fl pt j x:Nat) (cs is rw:Value) (l6':List At):aX prog { qG prog with x:=BL w (assoc [(83,j)]) (assoc [(78,rP wd fl pt cs is)]) (assoc [(83,l6')]) (fun _=>none) } 89 (fun _=>tC (aHt wd fl pt j x cs is rw l7) (assoc [(74,.bool true),(84,iI (j+1))])) 60 Lj (Xf j pb wd R r b6 m6 b7 m7 l6 l7) (Xf (j+1) pb wd R r b6 m6 b7 m7 l6' l7)=some ([aN .lss .i64 (Int.ofNat j) (Int.ofNat wd)=some (.bool true),oldOf w pb 0 (rP wd fl pt cs is),dN (rP wd fl pt cs is)=5,aA (rP wd fl pt cs is)=aA (rP wd fl pt cs is),iI j=iI j,rw=rw,l7=l7,wd=wd,wd≤m7,Int.ofNat j=Int.ofNat j,j<wd,put l6 (0+j*4) [.q x]=some l6',aN .add .i64 (Int.ofNat j) 1=some (iI (j+1))],.nrm,Xf (j+1) pb wd R r b6 m6 b7 m7 l6' l7):=by kernel_rfl
theorem Xa (j:Nat):aX prog (qG prog) 89 (fun _=>tC T0 (assoc [(74,.bool false)])) 60 Lj (Xf j pb wd R r b6 m6 b7 m7 l6 l7) (wU pb wd R r b6 m6 b7 m7 l6 l7)=some ([aN .lss .i64 (Int.ofNat j) (Int.ofNat wd)=some (.bool false)],.ex 6,wU pb wd R r b6 m6 b7 m7 l6 l7):=by kernel_rfl
def pmS (pb wd R r b6 m6 b7 m7:Nat) (l6 l7:List At):List Fact:=[.slot 2 (.im (ptV pb 0)),.slot 5 (.im (iI wd)),.slot 7 (.sl 1006 0 wd m6),.row 1006 true l6,.at 1006 b6,.slot 6 (.sl 1007 0 wd m7),.row 1007 true l7,.at 1007 b7,.slot 26 (.im (iI R)),.slot 27 (.im (iI r))]
theorem Ww:aX prog (qG prog) 89 (fun _=>tC T0 fun _=>none) 60 (cB (cB (cB (cB Lm)))) (wU pb wd R r b6 m6 b7 m7 l6 l7) (pmS pb wd R r b6 m6 b7 m7 l6 l7)=some ([],.nrm,pmS pb wd R r b6 m6 b7 m7 l6 l7):=by kernel_rfl
theorem Wv:aX prog (qG prog) 89 (fun _=>tC T0 (assoc [(87,iI (r+1))])) 60 (cB (cB (cB gJ))) (pmS pb wd R r b6 m6 b7 m7 l6 l7) (pmS pb wd R (r+1) b6 m6 b7 m7 l6 l7)=some ([aN .add .i64 (Int.ofNat r) 1=some (iI (r+1))],.nrm,pmS pb wd R (r+1) b6 m6 b7 m7 l6 l7):=by kernel_rfl
theorem Xe:aX prog (qG prog) 89 (fun _=>tC T0 fun _=>none) 60 (cB pmX) (wU pb wd R r b6 m6 b7 m7 l6 l7) [.slot 4 (.sl 1007 0 wd m7),.row 1007 true l7,.at 1007 b7]=some ([],.rt,[.slot 4 (.sl 1007 0 wd m7),.row 1007 true l7,.at 1007 b7]):=by kernel_rfl
theorem aDl (S fl pt:Nat) (l6V l7V:Value):aX prog { qG prog with x:=BL w (fun _=>none) (fun _=>none) (fun _=>none) (assoc [(22,iI fl),(25,iI pt)]) } 89 (fun _=>tC T0 (assoc [(26,iI S)])) 60 (cA (cA pmX)) [.slot 2 (.im (ptV pb 0)),.slot 5 (.im (iI wd)),.slot 6 (.im l6V),.slot 7 (.im l7V)] [.slot 2 (.im (ptV pb 0)),.slot 5 (.im (iI wd)),.slot 6 (.im l6V),.slot 7 (.im l7V),.slot 26 (.im (iI S)),.slot 27 (.im (iI 0))]=some ([oldOf w pb 1 [.c (iI fl)],oldOf w pb 2 [.c (iI pt)],aN .add .i64 (Int.ofNat fl) (Int.ofNat pt)=some (iI S)],.nrm,[.slot 2 (.im (ptV pb 0)),.slot 5 (.im (iI wd)),.slot 6 (.im l6V),.slot 7 (.im l7V),.slot 26 (.im (iI S)),.slot 27 (.im (iI 0))]):=by kernel_rfl
theorem aDi (v:Value) (fl pt:Nat) (cs is:Value):aX prog (qG prog) 89 (fun _=>tC T0 fun _=>none) 60 (cA gS) (fJ 0 [.v (.fl (rP wd fl pt cs is)),.v (.im v)]) [.slot 1 (.im v),.slot 2 (.pt 2 0),.row 2 true (rP wd fl pt cs is)]=some ([],.nrm,[.slot 1 (.im v),.slot 2 (.pt 2 0),.row 2 true (rP wd fl pt cs is)]):=by kernel_rfl
theorem aDh (v:Value):aX prog { qG prog with x:=BL w (fun _=>none) (fun _=>none) (fun _=>none) (assoc [(15,iI wd)]) } 89 (fun _=>tC T0 fun _=>none) 60 (cA (cB gS)) [.slot 1 (.im v),.slot 2 (.im (ptV pb 0))] [.slot 1 (.im v),.slot 2 (.im (ptV pb 0)),.slot 5 (.im (iI wd))]=some ([oldOf w pb 0 [.c (iI wd)]],.nrm,[.slot 1 (.im v),.slot 2 (.im (ptV pb 0)),.slot 5 (.im (iI wd))]):=by kernel_rfl
theorem aDg (v:Value):aX prog { qG prog with x:=aBV wd } 89 (fun _=>tC T0 fun _=>none) 60 (cA (cB (cB gS))) [.slot 1 (.im v),.slot 2 (.im (ptV pb 0)),.slot 5 (.im (iI wd))] [.slot 1 (.im v),.slot 2 (.im (ptV pb 0)),.slot 5 (.im (iI wd)),.slot 6 (.sl 17 0 wd wd),.row 17 true (tD wd)]=some ([∃e,∀w:World,(Instr.makeSlice 56 (iI wd) (iI wd)).run prog w=.ok (.slice (some ⟨w.heap.size,0,none⟩) wd wd) (w.alloc (.cells (aA (tD wd)).toArray e))],.nrm,[.slot 1 (.im v),.slot 2 (.im (ptV pb 0)),.slot 5 (.im (iI wd)),.slot 6 (.sl 17 0 wd wd),.row 17 true (tD wd)]):=by kernel_rfl
theorem aDs (v u:Value):cX prog (qG prog) 89 (tC T0 fun _=>none) ((aE (cA (cB (cB (cB gS))))).extract 0 1) [.slot 1 (.im v),.slot 2 (.im (ptV pb 0)),.slot 5 (.im (iI wd)),.slot 6 (.im u)] [.slot 18 (.im v),.slot 2 (.im (ptV pb 0)),.slot 5 (.im (iI wd)),.slot 6 (.im u)]=some ([],[.slot 18 (.im v),.slot 2 (.im (ptV pb 0)),.slot 5 (.im (iI wd)),.slot 6 (.im u)]):=by kernel_rfl
theorem aDr (v u:Value):cX prog (qG prog) 89 (tC T0 fun _=>none) ((aE (cA (cB (cB (cB gS))))).extract 2 3) [.slot 19 (.im v),.slot 2 (.im (ptV pb 0)),.slot 5 (.im (iI wd)),.slot 6 (.im u)] [.slot 2 (.im (ptV pb 0)),.slot 5 (.im (iI wd)),.slot 6 (.im u),.slot 7 (.im v)]=some ([],[.slot 2 (.im (ptV pb 0)),.slot 5 (.im (iI wd)),.slot 6 (.im u),.slot 7 (.im v)]):=by kernel_rfl
end
theorem CC {h:Nat→Nat} {n j:Nat} (hj:j<n):zQ (cJ (el h) 0 n) (0+j*4) 4=some [.q (h j)]:=QI (f:=el h) (c:=4) (fun _=>rfl) hj (Nat.zero_add _)
theorem CM {g f:Nat→Nat} {n j:Nat} (hj:j<n):put (cJ (el (pK g f j)) 0 n) (0+j*4) [.q (g j)]=some (cJ (el (pK g f (j+1))) 0 n):=by
 rw[jY (el (pK g f j)) j n 0 hj,jY (el (pK g f (j+1))) j n 0 hj];have e1:cJ (el (pK g f j)) 0 j=cJ (el (pK g f (j+1))) 0 j:=fY j 0 fun q hq=>by unfold pK; rw[if_pos (by omega),if_pos (by omega)]
 have e2:cJ (el (pK g f j)) (0+j+1) (n-j-1)=cJ (el (pK g f (j+1))) (0+j+1) (n-j-1):=fY _ _ fun q hq=>by unfold pK; rw[if_neg (by omega),if_neg (by omega)]
 have e3:el (pK g f (j+1)) (0+j)=[.q (g j)]:=by show [At.q (pK g f (j+1) (0+j))]=_; unfold pK; rw[if_pos (by omega),Nat.zero_add]
 rw[CN (cJ (el (pK g f j)) 0 j) (el (pK g f j) (0+j)) _ [.q (g j)] (by rw[iG (f:=el (pK g f j)) (c:=4) (fun _=>rfl)]; omega) rfl,e1,e2,e3]
structure PmS (w1:World) (pb wd R r b6 m6 b7 m7:Nat) (f6 f7:Nat→Nat) (a:Act) (w:World):Prop where
 defers:a.defers=[]
 size:a.tmps.size=89
 t2:a.tmps[2]?=some (ptV pb 0)
 t5:a.tmps[5]?=some (iI wd)
 t6:a.tmps[6]?=some (aM b6 0 wd m6)
 t7:a.tmps[7]?=some (aM b7 0 wd m7)
 t26:a.tmps[26]?=some (iI R)
 t27:a.tmps[27]?=some (iI r)
 below:Below w1.heap.size w1 w
 shape:Shape w1 w
 o6:Own w b6 (cJ (el f6) 0 wd)
 o7:Own w b7 (cJ (el f7) 0 wd)
 l6:w1.heap.size≤b6
 l7:w1.heap.size≤b7
 ne:b6≠b7
section
variable {w1:World} {pb wd R r b6 m6 b7 m7:Nat} {f6 f7:Nat→Nat} {a:Act} {w:World}
theorem PmS.holds (h:PmS w1 pb wd R r b6 m6 b7 m7 f6 f7 a w):Holds 89 w1.heap.size w1 (wU pb wd R r b6 m6 b7 m7 (cJ (el f6) 0 wd) (cJ (el f7) 0 wd)) a w:=by
 refine⟨h.defers,h.size,h.below,h.below.size,fun k=>bif Nat.beq k 1006 then (b6,0,m6)else bif Nat.beq k 1007 then (b7,0,m7)else (w1.heap.size,0,0),fun φ hφ => ?_,fun k k' o' l l' e1 e2 hne => ?_,fun k l e1 => ?_,h.below.size,fun p q1 q2 => ?_,h.shape⟩
 ·simp only[wU,List.mem_cons,List.not_mem_nil,or_false]at hφ
  rcases hφ with rfl|rfl|rfl|rfl|rfl|rfl|rfl|rfl|rfl|rfl
  ·exact h.t2
  ·exact h.t5
  ·exact h.t6
  ·exact⟨h.o6.lt,h.o6.row,fun _=>⟨h.l6,rfl,h.o6.free⟩,fun h=>by cases h⟩
  ·exact⟨rfl,rfl⟩
  ·exact h.t7
  ·exact⟨h.o7.lt,h.o7.row,fun _=>⟨h.l7,rfl,h.o7.free⟩,fun h=>by cases h⟩
  ·exact⟨rfl,rfl⟩
  ·exact h.t26
  ·exact h.t27
 ·simp only[wU,List.mem_cons,reduceCtorEq,Fact.row.injEq,false_or,List.not_mem_nil,or_false]at e1 e2
  rcases e1 with⟨rfl,_⟩|⟨rfl,_⟩<;>rcases e2 with⟨rfl,_⟩|⟨rfl,_⟩
  ·exact (hne rfl).elim
  ·exact h.ne
  ·exact h.ne.symm
  ·exact (hne rfl).elim
 ·simp only[wU,List.mem_cons,reduceCtorEq,Fact.row.injEq,false_or,List.not_mem_nil,or_false]at e1
  rcases e1 with⟨rfl,_⟩|⟨rfl,_⟩
  ·exact Or.inr h.l6
  ·exact Or.inr h.l7
 ·exact absurd (Nat.lt_trans q1 q2) (Nat.lt_irrefl _)
theorem Holds.pmS {l6 l7:List At} (h:Holds 89 w1.heap.size w1 (Ex.pmS pb wd R r b6 m6 b7 m7 l6 l7) a w) (e6:l6=cJ (el f6) 0 wd) (e7:l7=cJ (el f7) 0 wd) (hne:b6≠b7):PmS w1 pb wd R r b7 m7 b6 m6 f7 f6 a w:=by
 subst e6; subst e7;have h6:=(h.im (s:=7) (k:=1006) (o:=0) (n:=wd) (m:=m6) (b:=b6) (by simp[Ex.pmS]) (by simp[Ex.pmS])).slot (s:=7) (v:=aM b6 0 wd m6) (by simp);have h7:=(h.im (s:=6) (k:=1007) (o:=0) (n:=wd) (m:=m7) (b:=b7) (by simp[Ex.pmS]) (by simp[Ex.pmS])).slot (s:=6) (v:=aM b7 0 wd m7) (by simp);exact⟨h.defers,h.size,h.slot (by simp[Ex.pmS]),h.slot (by simp[Ex.pmS]),h7,h6,h.slot (by simp[Ex.pmS]),h.slot (by simp[Ex.pmS]),h.below,h.shape,h.own (k:=1007) (by simp[Ex.pmS]) (by simp[Ex.pmS]),h.own (k:=1006) (by simp[Ex.pmS]) (by simp[Ex.pmS]),h.geq (k:=1007) (l:=cJ (el f7) 0 wd) (by simp[Ex.pmS]) (by simp[Ex.pmS]),h.geq (k:=1006) (l:=cJ (el f6) 0 wd) (by simp[Ex.pmS]) (by simp[Ex.pmS]),hne.symm⟩
end
structure PmM (w:World) (wd fl pt:Nat) (xs:Nat→Nat) (cs is:Value):Prop where
 cs:∃cb,cs=aM cb 0 (wd*(fl+pt)) (wd*(fl+pt))∧LM w cb (wd*(fl+pt)) xs
 is:∃ib,is=aM ib 0 (2*wd-1) (2*wd-1)∧LM w ib (2*wd-1) (fun j=>inv (wd+j))
 lt:∀i,i<wd*(fl+pt)→xs i<RM
theorem PmM.on {w w':World} {wd fl pt:Nat} {xs:Nat→Nat} {cs is:Value} (h:PmM w wd fl pt xs cs is) (hb:Below w.heap.size w w'):PmM w' wd fl pt xs cs is:=by
 obtain⟨⟨cb,h1,h2⟩,⟨ib,h3,h4⟩,h5⟩:=h;exact⟨⟨cb,h1,h2.on hb⟩,⟨ib,h3,h4.on hb⟩,h5⟩
theorem KO {base:Nat} {w0:World} {wd fl pt r:Nat} {cs is:Value} (hf:fl≤65536) (hp:pt≤65536):TabOkW prog (T0.add 165 (fun a=>match a with
  | [.v (.fl l),.v (.im v)]=>some ([aA l=aA (rP wd fl pt cs is),v=iI r],.one (.im (iI (rz wd fl pt r))))
  | _=>none)) base w0 :=
 TabOkW.add ((bP _).w _ _) func165 (by kernel_rfl) (by kernel_rfl) (fun w hw cs' pre r' hg hp' args ha=>by
  split at hg
  ·cases hg;obtain⟨h1,h2,_⟩:=hp'
   match args,ha with
   | [u,v],ha =>
    have e1:u=.agg (aA _).toArray:=ha.1;have e2:v=_:=ha.2.1;rw[h1]at e1;subst e1; subst e2; subst h2;exact ZF hf hp
   | [],ha=>exact ha.elim
   | [_],ha=>exact ha.2.elim
   | _::_::_::_,ha=>exact ha.2.2.elim
  ·cases hg)
theorem Rb {base:Nat} {w0:World} {wd fl pt j M ib:Nat} {cs:Value} {g h:Nat→Nat} (hj:j<M) (hw:j+wd≤M) (hM:M≤65536) (hL:∀w,Below base w0 w→LV w (aM ib (0+j*4) wd (M-j)) wd g) (hg:pM wd g) (hh:pM wd h) :
  TabOkW prog (aHt wd fl pt j (Eo g h wd) cs (aM ib 0 M M) (aM ib (0+j*4) wd (M-j)) (cJ (el h) 0 wd)) base w0:=by
 refine TabOkW.add (TabOkW.add ((bP _).w _ _) func168 (by kernel_rfl) (by kernel_rfl) (fun w hw' cs' pre r' hg' hp args ha => ?_)) func167 (by kernel_rfl) (by kernel_rfl) (fun w hw' cs' pre r' hg' hp args ha => ?_)
 ·unfold gRw at hg';split at hg'
  ·cases hg';obtain⟨h1,h2,_⟩:=hp
   match args,ha with
   | [u,v],ha =>
    have e1:u=.agg (aA _).toArray:=ha.1;have e2:v=_:=ha.2.1;rw[h1]at e1;subst e1; subst e2; subst h2;exact TJ hj hw hM
   | [],ha=>exact ha.elim
   | [_],ha=>exact ha.2.elim
   | _::_::_::_,ha=>exact ha.2.2.elim
  ·cases hg'
 ·unfold gDo at hg';split at hg'
  ·rename_i u' l n m;cases hg';obtain⟨h1,h2,h3,h4,_⟩:=hp
   match args,ha with
   | [u,v],ha =>
    have e1:u=_:=ha.1;subst e1; subst h1; subst h2; subst h3;have hv:LV w v n h:=LV.ofS (f:=h) ha.2.1 rfl rfl h4 (fun q hq=>fT (hh q hq));exact Es (hL w hw') hv (by omega) hg hh
   | [],ha=>exact ha.elim
   | [_],ha=>exact ha.2.elim
   | _::_::_::_,ha=>exact ha.2.2.elim
  ·cases hg'
theorem Ah {w0:World} {wd fl pt m so:Nat} {xs f:Nat→Nat} {cs is:Value} {sb:Nat} (hM:PmM w0 wd fl pt xs cs is) (hv:LV w0 (aM sb so wd m) wd f) (hf:∀q,q<wd→f q<RM) (h0:0<wd) (hw:wd≤32) (hfl:fl≤1024) (hpt:pt≤1024) :
  Calls prog 120 [.agg (aA (rP wd fl pt cs is)).toArray,aM sb so wd m].toArray w0 fun e w'=>∃b c,e=.returned (aM b 0 wd c)∧wd≤c∧Below w0.heap.size w0 w'∧w0.heap.size≤b∧Own w' b (cJ (el (iK xs wd fl pt (fl+pt) f)) 0 wd):=by
 obtain⟨⟨cb,rfl,hcb⟩,⟨ib,rfl,hib⟩,hxl⟩:=hM;have hG:∀base w,bQ prog (qG prog) base w:=fun _ _=>(aV _).w _ _
 have hT:∀base w,∀n d:Nat,TabOkW prog T0 base w:=fun _ _ _ _=>(bP _).w _ _
 have hnt:f120.ntmps=89:=aDm;have hmu:wd*(fl+pt)≤65536:=Nat.le_trans (Nat.mul_le_mul hw (show fl+pt≤2048 by omega)) (by decide);refine cM func120 (cs:=[.v (.fl (rP wd fl pt _ _)),.v (.im (aM sb so wd m))]) (args:=[.agg (aA (rP wd fl pt _ _)).toArray,aM sb so wd m]) (c:=gS) rfl ⟨rfl,rfl,trivial⟩ (Nat.le_of_ble_eq_true (by kernel_rfl)) fun a w hA => ?_
 rw[hnt]at hA;rw[Li];refine wp_seq (aB aI (hT _ _) (hG _ _) (aDi wd (aM sb so wd m) fl pt _ _) trivial hA fun a w1 hA => ?_);obtain⟨pb,hA⟩:=hA.at (k:=2) (l:=rP wd fl pt (aM cb 0 (wd*(fl+pt)) (wd*(fl+pt))) (aM ib 0 (2*wd-1) (2*wd-1))) (by simp);have hpb:oldOf w1 pb 0 (rP wd fl pt (aM cb 0 (wd*(fl+pt)) (wd*(fl+pt))) (aM ib 0 (2*wd-1) (2*wd-1))):=hA.old (k:=2) (by simp) (by simp);have hcb:=hcb.on hA.below;have hib:=hib.on hA.below;have hv1:=hv.on hA.below;have hbl:=hA.below;have hS:=aU (nt:=89) (w:=w1) (a:=a) (ts:=[(1,aM sb so wd m),(2,ptV pb 0)]) hA.defers hA.size (fun x hx=>by
  simp only[List.mem_cons,List.not_mem_nil,or_false]at hx
  rcases hx with rfl|rfl
  ·exact hA.slot (by simp)
  ·exact hA.ptS (s:=2) (k:=2) (o:=0) (by simp) (by simp))
 clear hA;have p0:oldOf w1 pb 0 [.c (iI wd)]:=⟨hpb.1,eH (i:=0) (n:=1) hpb.2 rfl⟩;have p1:oldOf w1 pb 1 [.c (iI fl)]:=⟨hpb.1,eH (i:=1) (n:=1) hpb.2 rfl⟩;have p2:oldOf w1 pb 2 [.c (iI pt)]:=⟨hpb.1,eH (i:=2) (n:=1) hpb.2 rfl⟩;have p3:oldOf w1 pb 3 [.c (aM cb 0 (wd*(fl+pt)) (wd*(fl+pt)))]:=⟨hpb.1,eH (i:=3) (n:=1) hpb.2 rfl⟩;refine wp_seq (aB aI (hT _ _) (kM w1 _ _ _ _) (aDh w1 pb wd (aM sb so wd m)) ⟨p0,trivial⟩ hS fun a w2 hA => ?_);clear hS;refine wp_seq (aB aI (hT _ _) (Hw wd _ _) (aDg pb wd (aM sb so wd m)) ⟨RC (t:=56) (e:=27) (z:=[.q 0]) (v:=.int .u64 0) (n:=4) (by8:=32) (by kernel_rfl) (by kernel_rfl) rfl vN (by omega) (by omega) (by omega),trivial⟩ hA fun a w3 hA => ?_);obtain⟨b6,hA⟩:=hA.at (k:=17) (l:=tD wd) (by simp);have hl6:w1.heap.size≤b6:=hA.geq (k:=17) (l:=tD wd) (by simp) (by simp);have ho6:Own w3 b6 (tD wd):=hA.own (k:=17) (by simp) (by simp);have hb3:=hA.below;have hsh3:=hA.shape;have hS:=aU (nt:=89) (w:=w3) (a:=a) (ts:=[(1,aM sb so wd m),(2,ptV pb 0),(5,iI wd),(6,aM b6 0 wd wd)]) hA.defers hA.size (fun x hx=>by
  simp only[List.mem_cons,List.not_mem_nil,or_false]at hx
  rcases hx with rfl|rfl|rfl|rfl
  ·exact hA.slot (by simp)
  ·exact hA.slot (by simp)
  ·exact hA.slot (by simp)
  ·exact (hA.im (s:=6) (k:=17) (o:=0) (n:=wd) (m:=wd) (b:=b6) (by simp) (by simp)).slot (by simp))
 clear hA;refine wp_seq (bK (l:=List.range' 0 ((aE (cA (cB (cB (cB gS))))).extract 0 1).size++(1::(List.range' 2 ((aE (cA (cB (cB (cB gS))))).extract 2 3).size++[]))) (by kernel_rfl) ?_);refine aJ (c:=tC T0 _) (hT _ _ 0) (hG _ _) (aDs pb wd (aM sb so wd m) (aM b6 0 wd wd)) trivial (by kernel_rfl) hS fun a4 w4 hA => ?_
 obtain⟨o1,ho1,⟨ts1,hop1⟩,hd1,hg1⟩:∃x,(aE (cA (cB (cB (cB gS)))))[1]?=some x∧(∃ts,x.op=.call ⟨.value (.func 163),#[.tmp 18],ts⟩)∧x.dst=some 19∧x.guard=none:=⟨_,rfl,⟨_,rfl⟩,rfl,rfl⟩
 have hv4:=hv1.on (hb3.trans (hA.below.mono hb3.size));refine bE ho1 hg1 (cQ hop1 (vs:=[aM sb so wd m]) (List.cons_eq_cons.2 ⟨cR (hA.slot (s:=18) (by simp)),rfl⟩) (fun args=>cC func163 (by kernel_rfl) (by kernel_rfl) args _) (Ff hv4 h0 (by omega)) fun e w5 hw' => ?_);obtain⟨b7,c7,rfl,hcc,hb5,hl7',ho7⟩:=hw';refine⟨_,rfl,?_⟩;rw[hd1];have hs4:w1.heap.size≤w4.heap.size:=Nat.le_trans hb3.size hA.below.size;have hl7:w1.heap.size≤b7:=Nat.le_trans hs4 hl7';have hb4:Below w1.heap.size w1 w4:=hb3.trans (hA.below.mono hb3.size);have hb15:Below w1.heap.size w1 w5:=hb4.trans (hb5.mono hs4);have hsh5:Shape w1 w5:=(hsh3.trans hA.shape).trans (Shape.below hb5);have ho65:Own w5 b6 (tD wd):=(ho6.on hA.below).on hb5;have hne:b6≠b7:=fun e=>by have:=(ho6.on hA.below).lt; omega
 have hS5:=aU (nt:=89) (w:=w5) (a:=a4.put (some 19) (aM b7 0 wd c7)) (ts:=[(19,aM b7 0 wd c7),(2,ptV pb 0),(5,iI wd),(6,aM b6 0 wd wd)]) hA.defers (by rw[aH]; exact hA.size) (fun x hx=>by
  simp only[List.mem_cons,List.not_mem_nil,or_false]at hx
  rcases hx with rfl|rfl|rfl|rfl
  ·exact aT _ _ _ (by rw[hA.size]; decide)
  ·exact aQ (hA.slot (by simp)) (by simp)
  ·exact aQ (hA.slot (by simp)) (by simp)
  ·exact aQ (hA.slot (by simp)) (by simp))
 clear hA hS;refine aJ (c:=tC T0 _) (hT _ _ 0) (hG _ _) (aDr pb wd (aM b7 0 wd c7) (aM b6 0 wd wd)) trivial (by kernel_rfl) hS5 fun a6 w6 hA => ?_
 have hb16:=hb15.trans (hA.below.mono hb15.size);have hsh6:=hsh5.trans hA.shape;have ho66:=ho65.on hA.below;have ho76:=ho7.on hA.below;have hS6:=aU (nt:=89) (w:=w6) (a:=a6) (ts:=[(2,ptV pb 0),(5,iI wd),(6,aM b6 0 wd wd),(7,aM b7 0 wd c7)]) hA.defers hA.size (fun x hx=>by
  simp only[List.mem_cons,List.not_mem_nil,or_false]at hx
  rcases hx with rfl|rfl|rfl|rfl<;>exact hA.slot (by simp))
 clear hA hS5;show (Code.seq _ _).wp _ _ _ _;have p1':=p1.on hb16;have p2':=p2.on hb16;refine wp_seq (wp_seq (aB aI (hT _ _) (kM w6 _ _ _ _) (aDl w6 pb wd (fl+pt) fl pt (aM b6 0 wd wd) (aM b7 0 wd c7)) ⟨p1',p2',qJ (by omega),trivial⟩ hS6 fun a7 w7 hA => ?_));have hc7:∃f6:Nat→Nat,aA (tD wd)=aA (cJ (el f6) 0 wd):=⟨fun _=>0,rfl⟩
 obtain⟨f6,hz⟩:=hc7;have hP:PmS w1 pb wd (fl+pt) 0 b6 wd b7 c7 f6 (iK xs wd fl pt 0 f) a7 w7:=⟨hA.defers,hA.size,hA.slot (by simp),hA.slot (by simp),hA.slot (by simp),hA.slot (by simp),hA.slot (by simp),hA.slot (by simp),hb16.trans (hA.below.mono hb16.size),hsh6.trans hA.shape,(ho66.on hA.below).eq hz,ho76.on hA.below,hl6,hl7,hne⟩;clear hA hS6;refine wp_block (dU (n:=fl+pt+1) ?_);have wl:∀Q a w,(Code.seq (cA gJ) (.seq (cA (cB gJ)) (.seq (.block 1 (.seq (cA Lm) (.seq (.seq (cA pm1) (.block 2 (.loop Ll))) (.seq (.seq (cA pm2) (.block 4 (.loop Lk))) (.seq (.seq (cA pm3) (.block 6 (.loop Lj))) (cB (cB (cB (cB Lm))))))))) (cB (cB (cB gJ)))))).wp prog Q a w→gJ.wp prog Q a w:=fun Q a w h=>by rw[Lh]; exact h
 have key:∀k r b6 m6 b7 m7 f6 a w,r+k=fl+pt→PmS w1 pb wd (fl+pt) r b6 m6 b7 m7 f6 (iK xs wd fl pt r f) a w→wd≤m6→wd≤m7→Un prog gJ (Exit.inBlock 0 (Exit.then ((cB pmX).wp prog (bodyPost prog f120 fun e w'=>∃b c,e=.returned (aM b 0 wd c)∧wd≤c∧Below w0.heap.size w0 w'∧w0.heap.size≤b∧Own w' b (cJ (el (iK xs wd fl pt (fl+pt) f)) 0 wd))) (bodyPost prog f120 fun e w'=>∃b c,e=.returned (aM b 0 wd c)∧wd≤c∧Below w0.heap.size w0 w'∧w0.heap.size≤b∧Own w' b (cJ (el (iK xs wd fl pt (fl+pt) f)) 0 wd)))) (k+1) a w:=by
  intro k
  induction k with
  | zero =>
   intro r b6 m6 b7 m7 f6 a w hr hS hm6 hm7;have hre:r=fl+pt:=by omega
   subst hre;unfold Un;refine wl _ _ _ (wp_seq (aB aI (hT _ _) (hG _ _) (aJf pb wd (fl+pt) (fl+pt) b6 m6 b7 m7 _ _) ⟨dM (by omega),trivial⟩ hS.holds fun a w hA => ?_));refine wp_seq (aB aI (hT _ _) (hG _ _) (aDf pb wd (fl+pt) (fl+pt) b6 m6 b7 m7 _ _) trivial hA fun a w hA => ?_);simp only[EA.out,Exit.then,Exit.inBlock,if_true];refine aB aI (hT _ _) (hG _ _) (Xe pb wd (fl+pt) (fl+pt) b6 m6 b7 m7 _ _) trivial hA fun a w hA => ?_
   have hO:=hA.own (k:=1007) (b:=b7) (l:=cJ (el (iK xs wd fl pt (fl+pt) f)) 0 wd) (by simp) (by simp);have hb:=hA.below;exact cN (l:=[.im (aM b7 0 wd m7)]) (r:=.one (.im (aM b7 0 wd m7))) (by kernel_rfl) (by kernel_rfl) (hA.im (s:=4) (k:=1007) (o:=0) (n:=wd) (m:=m7) (b:=b7) (by simp) (by simp)) ⟨b7,m7,rfl,hm7,hbl.trans (hb.mono hbl.size),Nat.le_trans hbl.size hS.l7,hO⟩
  | succ k ih =>
   intro r b6 m6 b7 m7 f6 a w hr hS hm6 hm7;have hlt:r<fl+pt:=by omega
   have hfr:=QT (xs:=xs) (fl:=fl) (pt:=pt) hf r;have hnx:iK xs wd fl pt (r+1) f=rnd xs wd fl pt r (iK xs wd fl pt r f):=rfl;have ih:=ih (r+1) b7 m7 b6 m6;generalize iK xs wd fl pt r f=g at hS hfr hnx;unfold Un;refine wl _ _ _ (wp_seq (aB aI (hT _ _) (hG _ _) (aDq pb wd (fl+pt) r b6 m6 b7 m7 _ _) ⟨fA hlt,trivial⟩ hS.holds fun a w hA => ?_));refine wp_seq (aB aI (hT _ _) (hG _ _) (Xd pb wd (fl+pt) r b6 m6 b7 m7 _ _) trivial hA fun a w hA => ?_);refine wp_seq (wp_block (wp_seq (aB aI (hT _ _) (hG _ _) (aDk pb wd (fl+pt) r b6 m6 b7 m7 _ _) trivial hA fun a w hA => ?_)));have hr1:(r+1)*wd≤wd*(fl+pt):=by rw[Nat.mul_comm wd]; exact Nat.mul_le_mul_right wd (by omega)
   have hrw:(r+1)*wd=r*wd+wd:=by rw[Nat.add_mul,Nat.one_mul]
   refine wp_seq (wp_seq (aB aI (hT _ _) (kM w1 _ _ _ _) (aDj w1 pb wd (fl+pt) r b6 m6 b7 m7 _ _ cb (wd*(fl+pt)) (0+r*wd*4) (wd*(fl+pt)-r*wd)) ⟨p3,MX (by omega),gN (k:=1) (by omega),MX (by omega),fun w=>by
    have:=YU (b:=cb) (o:=0) (N:=wd*(fl+pt)) (m:=wd*(fl+pt)) (i:=r*wd) (j:=(r+1)*wd) (by omega) hr1 (by omega) w
    rwa [show (r+1)*wd-r*wd=wd by omega]at this,trivial⟩ hA fun a w hA => ?_))
   refine wp_block ?_;rw[←Br (wO xs wd r g) g]at hA;refine kG aI (fun j=>Xh (aM cb (0+r*wd*4) wd (wd*(fl+pt)-r*wd)) j pb wd (fl+pt) r b6 m6 b7 m7 (cJ (el f6) 0 wd) (cJ (el (pK (wO xs wd r g) g j)) 0 wd)) wd (fun j hj => ?_) (.ex 2) (by simp) (QS pb wd (fl+pt) r b6 m6 b7 m7 (cJ (el f6) 0 wd) (cJ (el (pK (wO xs wd r g) g wd)) 0 wd)) ⟨_,_,_,_,hG _ _,hT _ _,Xc pb wd (fl+pt) r b6 m6 b7 m7 _ _ _ wd,dM (Nat.le_refl _),trivial⟩ hA fun a w hA => ?_
   ·have hmj:pK (wO xs wd r g) g j j=g j:=by unfold pK; rw[if_neg (Nat.lt_irrefl _)]
    have hci:r*wd+j<wd*(fl+pt):=by omega
    have ho:oldOf w1 cb (0+r*wd*4+j*4) [.q (xs (r*wd+j))]:=by
     have:=nU (o:=0) hcb.1 hcb.2 hci
     rwa [show 0+(r*wd+j)*4=0+r*wd*4+j*4 by omega]at this
    have hp:=CM (g:=wO xs wd r g) (f:=g) hj;exact⟨_,_,_,_,kM w1 _ _ _ _,fun _ _=>IE.w _ _,aDp w1 pb wd (fl+pt) r b6 m6 b7 m7 _ _ cb (0+r*wd*4) (wd*(fl+pt)-r*wd) j (g j) (xs (r*wd+j)) _,fA hj,rfl,hj,ho,rfl,rfl,hj,by rw[CC hj,hmj],hfr j hj,hxl _ hci,rfl,hj,hp,gN (k:=1) (by omega),trivial⟩
   have e1:cJ (el (pK (wO xs wd r g) g wd)) 0 wd=cJ (el (wO xs wd r g)) 0 wd:=fY wd 0 fun q hq=>by unfold pK; rw[if_pos (by omega)]
   rw[e1]at hA;have hgr:=Kl xs wd r g;have hnx:iK xs wd fl pt (r+1) f=zB wd (TK (rz wd fl pt r) (wO xs wd r g)):=hnx;generalize wO xs wd r g=g1 at hA hgr hnx;simp only[EA.out,Exit.then,Exit.inBlock,if_true];have hk:rz wd fl pt r≤wd:=by
    unfold rz
    by_cases q1:r<fl/2
    ·rw[if_pos q1]; exact Nat.le_refl _
    ·rw[if_neg q1]
     by_cases q2:fl/2+pt≤r
     ·rw[if_pos q2]; exact Nat.le_refl _
     ·rw[if_neg q2]; exact h0
   refine wp_seq (wp_seq (aB aI (fun _ _=>KO (by omega) (by omega)) (kM w1 _ _ _ _) (Wy w1 pb wd (fl+pt) r b6 m6 b7 m7 _ _ fl pt (rz wd fl pt r) _ _) ⟨hpb,rfl,rfl,rfl,trivial⟩ hA fun a w hA => ?_));refine wp_block ?_;rw[←Br (fun q=>Oj (g1 q)) g1]at hA;refine kG aI (fun j=>Xg (rz wd fl pt r) j pb wd (fl+pt) r b6 m6 b7 m7 (cJ (el f6) 0 wd) (cJ (el (pK (fun q=>Oj (g1 q)) g1 j)) 0 wd)) (rz wd fl pt r) (fun j hj => ?_) (.ex 4) (by simp) (QS pb wd (fl+pt) r b6 m6 b7 m7 (cJ (el f6) 0 wd) (cJ (el (TK (rz wd fl pt r) g1)) 0 wd)) ⟨_,_,_,_,hG _ _,hT _ _,Xb pb wd (fl+pt) r b6 m6 b7 m7 _ _ (rz wd fl pt r) (rz wd fl pt r),dM (Nat.le_refl _),trivial⟩ hA fun a w hA => ?_
   ·have hjw:j<wd:=by omega
    have hmj:pK (fun q=>Oj (g1 q)) g1 j j=g1 j:=by unfold pK; rw[if_neg (Nat.lt_irrefl _)]
    have hp:=CM (g:=fun q=>Oj (g1 q)) (f:=g1) hjw;exact⟨_,_,_,_,kM w1 _ _ _ _,fun _ _=>IE.w _ _,aDo w1 pb wd (fl+pt) r b6 m6 b7 m7 _ _ (rz wd fl pt r) j (g1 j) _,fA hj,rfl,hjw,by rw[CC hjw,hmj],hgr j,rfl,hjw,hp,gN (k:=1) (by omega),trivial⟩
   have hg2:=Kk (k:=rz wd fl pt r) hgr;generalize TK (rz wd fl pt r) g1=g2 at hA hg2 hnx;simp only[EA.out,Exit.then,Exit.inBlock,if_true];refine wp_seq (wp_seq (aB aI (hT _ _) (hG _ _) (Wx pb wd (fl+pt) r b6 m6 b7 m7 _ _) trivial hA fun a w hA => ?_));refine wp_block ?_;rw[←Br (zB wd g2) f6]at hA;refine kG aI (fun j=>Xf j pb wd (fl+pt) r b6 m6 b7 m7 (cJ (el (pK (zB wd g2) f6 j)) 0 wd) (cJ (el g2) 0 wd)) wd (fun j hj => ?_) (.ex 6) (by simp) (wU pb wd (fl+pt) r b6 m6 b7 m7 (cJ (el (pK (zB wd g2) f6 wd)) 0 wd) (cJ (el g2) 0 wd)) ⟨_,_,_,_,hG _ _,hT _ _,Xa pb wd (fl+pt) r b6 m6 b7 m7 _ _ wd,dM (Nat.le_refl _),trivial⟩ hA fun a w hA => ?_
   ·have hp:=CM (g:=zB wd g2) (f:=f6) hj;have hL:∀w,Below w1.heap.size w1 w→LV w (aM ib (0+j*4) wd (2*wd-1-j)) wd (fun q=>inv (wd+(j+q))):=fun w hb =>
     ((hib.on hb).lv (fun _ _=>fT (NN _))).piece (o:=0) (i:=j) (k:=wd) (f:=fun j=>inv (wd+j)) (by omega)
    exact⟨_,_,_,_,kM w1 _ _ _ _,fun _ _=>Rb (g:=fun q=>inv (wd+(j+q))) (h:=g2) (by omega) (by omega) (by omega) hL (fun q _=>NN _) (fun q _=>hg2 q),aDn w1 pb wd (fl+pt) r b6 m6 b7 m7 _ _ fl pt j (zB wd g2 j) _ _ (aM ib (0+j*4) wd (2*wd-1-j)) _,fA hj,hpb,rfl,rfl,rfl,rfl,rfl,rfl,hm7,rfl,hj,hp,gN (k:=1) (by omega),trivial⟩
   have e3:cJ (el (pK (zB wd g2) f6 wd)) 0 wd=cJ (el (zB wd g2)) 0 wd:=fY wd 0 fun q hq=>by unfold pK; rw[if_pos (by omega)]
   rw[e3,←hnx]at hA;simp only[EA.out,Exit.then,Exit.inBlock,if_true];refine aB aI (hT _ _) (hG _ _) (Ww pb wd (fl+pt) r b6 m6 b7 m7 _ _) trivial hA fun a w hA => ?_
   simp only[EA.out,Exit.then,Exit.inBlock];refine aB aI (hT _ _) (hG _ _) (Wv pb wd (fl+pt) r b6 m6 b7 m7 _ _) ⟨gN (k:=1) (by omega),trivial⟩ hA fun a w hA => ?_
   exact ih g2 a w (by omega) (hA.pmS rfl rfl hS.ne) hm7 hm6
 exact key (fl+pt) 0 b6 wd b7 c7 f6 a7 w7 (by omega) hP (Nat.le_refl _) hcc
section
variable {ops:Array Oper} {o:Oper} {a:Act} {v:Value} {s:Nat} {S:World→Prop}
theorem rE {t b of:Nat} {vs:List Value} {d:TypeDesc} (hop:o.op=.load t (.tmp s)) (hg:o.guard=none) (h:a.tmps[s]?=some (ptV b of)) (hu:prog.underlying t=some d) (hd:d.isRow=true) (hi:(prog.info? t).map (·.size)=some vs.length) (hS:∀wx,S wx→wx.rangeAt b of vs):YieldsIf prog ops S o (.agg vs.toArray) a :=
 Or.inl ⟨by simp[Region.wanted,hg],fun wx hw=>by
  have:=run_loadAt_mid (P:=prog) wx b of t vs d (hS wx hw) hu hd hi;simp[execOp,hop,cR h,ptV,this]⟩
theorem XH {t b of i n:Nat} (hop:o.op=.fieldAddr t (.tmp s) i) (hg:o.guard=none) (h:a.tmps[s]?=some (ptV b of)) (hf:∀w:World,(Instr.fieldAt t (ptV b of) i).run prog w=.ok (ptV b n) w):YieldsIf prog ops S o (ptV b n) a :=
 Or.inl ⟨by simp[Region.wanted,hg],fun wx hw=>by simp[execOp,hop,cR h,hf wx]⟩
end
noncomputable abbrev mdF:Func:=f119
def xF:Code:=(f119.body).getD .skip
def Me:Code:=cA (cB xF)
theorem Md:xF=.seq (cA xF) (.seq (.region 1 (aE Me) true) .ret):=by kernel_rfl
theorem aDO:mdF.ntmps=10:=by kernel_rfl
def zP:List At:=[.c (iI 0),.c (iI 0),.c (iI 0),.c (.slice none 0 0),.c (.slice none 0 0)]
theorem aDN (wd fl pt:Nat):aX prog (qG prog) 10 (fun _=>tC T0 fun _=>none) 60 (cA xF) (fJ 0 [.v (.fl (rR wd fl pt))]) [.slot 1 (.pt 1 0),.row 1 true (rR wd fl pt),.slot 2 (.pt 2 0),.row 2 true zP]=some ([],.nrm,[.slot 1 (.pt 1 0),.row 1 true (rR wd fl pt),.slot 2 (.pt 2 0),.row 2 true zP]):=by kernel_rfl
theorem Bu (wd fl pt:Nat) (cs is:Value) (h1:∃p n m,cs=.slice p n m) (h2:∃p n m,is=.slice p n m):prog.built 179 [(0,.agg (aA (rR wd fl pt)).toArray),(1,cs),(2,is)]=some (aA (rP wd fl pt cs is)).toArray:=by
 obtain⟨p,n,m,rfl⟩:=h1;obtain⟨q,k,l,rfl⟩:=h2
 kernel_rfl
theorem aCK:(prog.info? 179).map (·.size)=some 5:=by kernel_rfl
theorem YW:(prog.info? 48).map (·.size)=some 3:=by kernel_rfl
theorem Ut:∃d,prog.underlying 48=some d∧d.isRow=true:=⟨_,underlying48,rfl⟩
theorem aJq (b:Nat) (w:World):(Instr.fieldAt 48 (ptV b 0) 0).run prog w=.ok (ptV b 0) w:=by
 have hn:dD prog 3=some 1:=by kernel_rfl
 simp[Instr.fieldAt,ptV,run_underlying underlying48,Instr.sureAddr,fieldPlace,bH hn,Addr.add_mid]
theorem Bt {w0:World} {wd fl pt:Nat} {xs:Nat→Nat} {fu:Nat} {sq:Nat→St} (h2:2≤wd) (hw:wd≤32) (hfl:fl≤1024) (hpt:pt≤1024) (h0:sq 0=KY wd fl pt) (hx:∀i,i<wd*(fl+pt)→zK fu (sq i)=some (xs i,sq (i+1))) (hDj:Dbj w0) :
  Calls prog 119 [.agg (aA (rR wd fl pt)).toArray].toArray w0 fun e w'=>∃cs is,e=.returned (.agg (aA (rP wd fl pt cs is)).toArray)∧PmM w' wd fl pt xs cs is∧Below w0.heap.size w0 w':=by
 have hG:∀base w,bQ prog (qG prog) base w:=fun _ _=>(aV _).w _ _
 have hT:∀base w,∀n d:Nat,TabOkW prog T0 base w:=fun _ _ _ _=>(bP _).w _ _
 have hmu:wd*(fl+pt)≤65536:=Nat.le_trans (Nat.mul_le_mul hw (show fl+pt≤2048 by omega)) (by decide);have hok:∀i,i≤wd*(fl+pt)→(sq i).ok:=fun i=>by
  induction i with
  | zero=>intro _; rw[h0]; exact PF _ _ _
  | succ i ih=>intro hi; exact (DU (ih (by omega)) (hx i (by omega))).1
 have hnt:f119.ntmps=10:=aDO;refine cM func119 (cs:=[.v (.fl (rR wd fl pt))]) (args:=[.agg (aA (rR wd fl pt)).toArray]) (c:=xF) rfl ⟨rfl,trivial⟩ (Nat.le_of_ble_eq_true (by kernel_rfl)) fun a w hA => ?_
 rw[hnt]at hA;rw[Md];refine wp_seq (aB aI (hT _ _) (hG _ _) (aDN wd fl pt) trivial hA fun a w hA => ?_);obtain⟨b1,hA⟩:=hA.at (k:=1) (l:=rR wd fl pt) (by simp);obtain⟨b2,hA⟩:=hA.at (k:=2) (l:=zP) (by simp);have m1:oldOf w b1 0 (rR wd fl pt):=hA.old (k:=1) (by simp) (by simp);have m2:Own w b2 zP:=hA.own (k:=2) (by simp) (by simp);have hB2:w0.heap.size≤b2:=hA.geq (k:=2) (l:=zP) (by simp) (by simp);have hbl:=hA.below;have hD:Dbj w:=hDj.on hDj.lt hbl;have t1:=hA.ptS (s:=1) (k:=1) (o:=0) (b:=b1) (by simp) (by simp);have t2:=hA.ptS (s:=2) (k:=2) (o:=0) (b:=b2) (by simp) (by simp);have hdf:=hA.defers;have hsz:=hA.size;clear hA;have hd:Below w.heap.size w w.drew:=(Below.refl _ w).drew;have S1:∀{u:World},oldOf u b1 0 (rR wd fl pt)→u.rangeAt b1 0 (aA (rR wd fl pt)):=fun h=>h.2
 obtain⟨dR,huR,hdR⟩:=Ut;refine wp_seq (Code.wp_mono (Q:=iF fun a' w'=>∃cs is,a'.defers=[]∧a'.tmps.size=10∧a'.tmps[2]?=some (ptV b2 0)∧Own w' b2 (rP wd fl pt cs is)∧PmM w' wd fl pt xs cs is∧Below w0.heap.size w0 w') (fun e a3 w3 h => ?_) (cG (fun wx=>wx.rangeAt b1 0 (aA (rR wd fl pt))) 7 aI ?_))
 ·obtain⟨rfl,cs,is,e1,e2,e3,e4,e5,e6⟩:=h;have hH:=e4.holds (k:=2) (nt:=10) (a:=a3) (ts:=[]) e1 e2 rfl e3 (fun x hx=>by cases hx);exact wp_ret (cN (l:=[.fl (rP wd fl pt cs is)]) (r:=.one (.fl (rP wd fl pt cs is))) (by kernel_rfl) (by kernel_rfl) hH ⟨cs,is,rfl,e5,e6⟩)
 have hS:w.drew.rangeAt b1 0 (aA (rR wd fl pt)):=(m1.on hd).2;obtain⟨o0,ho0,hop0,hd0,hg0⟩:∃x,(aE Me)[0]?=some x∧x.op=.load 48 (.tmp 1)∧x.dst=some 3∧x.guard=none:=⟨_,rfl,rfl,rfl,rfl⟩
 refine aD (i:=0) (v:=.agg (aA (rR wd fl pt)).toArray) ho0 (by kernel_rfl) (by kernel_rfl) (by kernel_rfl) (by kernel_rfl) (fun _ _ _ h=>iM h) hS (rE hop0 hg0 t1 huR hdR YW fun _ h=>h) ?_;rw[hd0];obtain⟨o1,ho1,hop1,hd1,hg1⟩:∃x,(aE Me)[1]?=some x∧x.op=.load 48 (.tmp 1)∧x.dst=some 4∧x.guard=none:=⟨_,rfl,rfl,rfl,rfl⟩
 refine aD (i:=1) (v:=.agg (aA (rR wd fl pt)).toArray) ho1 (by kernel_rfl) (by kernel_rfl) (by kernel_rfl) (by kernel_rfl) (fun _ _ _ h=>iM h) hS (rE hop1 hg1 (aQ t1 (by decide)) huR hdR YW fun _ h=>h) ?_;rw[hd1];obtain⟨o3,ho3,hop3,hd3,hg3⟩:∃x,(aE Me)[3]?=some x∧x.op=.fieldAddr 48 (.tmp 1) 0∧x.dst=some 6∧x.guard=none:=⟨_,rfl,rfl,rfl,rfl⟩
 refine aD (i:=3) (v:=ptV b1 0) ho3 (by kernel_rfl) (by kernel_rfl) (by kernel_rfl) (by kernel_rfl) (fun _ _ _ h=>iM h) hS (XH hop3 hg3 (aQ (aQ t1 (by decide)) (by decide)) (aJq b1)) ?_;rw[hd3];obtain⟨o4,ho4,hop4,hd4,hg4⟩:∃x,(aE Me)[4]?=some x∧x.op=.load 3 (.tmp 6)∧x.dst=some 7∧x.guard=none:=⟨_,rfl,rfl,rfl,rfl⟩
 refine aD (i:=4) (v:=iI wd) ho4 (by kernel_rfl) (by kernel_rfl) (by kernel_rfl) (by kernel_rfl) (fun _ _ _ h=>iM h) hS (BK hop4 hg4 (aT _ _ _ (by simp only[aH,hsz]; decide)) (by kernel_rfl) fun wx h=>by have:=h 0 _ rfl; rwa [Nat.zero_add]at this) ?_;rw[hd4];have g3:((((a.put (some 3) (.agg (aA (rR wd fl pt)).toArray)).put (some 4) (.agg (aA (rR wd fl pt)).toArray)).put (some 6) (ptV b1 0)).put (some 7) (iI wd)).tmps[3]?=some (.agg (aA (rR wd fl pt)).toArray):=aQ (aQ (aQ (aT _ _ _ (by simp only[aH,hsz]; decide)) (by decide)) (by decide)) (by decide);have g4:((((a.put (some 3) (.agg (aA (rR wd fl pt)).toArray)).put (some 4) (.agg (aA (rR wd fl pt)).toArray)).put (some 6) (ptV b1 0)).put (some 7) (iI wd)).tmps[4]?=some (.agg (aA (rR wd fl pt)).toArray):=aQ (aQ (aT _ _ _ (by simp only[aH,hsz]; decide)) (by decide)) (by decide);have g7:((((a.put (some 3) (.agg (aA (rR wd fl pt)).toArray)).put (some 4) (.agg (aA (rR wd fl pt)).toArray)).put (some 6) (ptV b1 0)).put (some 7) (iI wd)).tmps[7]?=some (iI wd):=aT _ _ _ (by simp only[aH,hsz]; decide);have g2:((((a.put (some 3) (.agg (aA (rR wd fl pt)).toArray)).put (some 4) (.agg (aA (rR wd fl pt)).toArray)).put (some 6) (ptV b1 0)).put (some 7) (iI wd)).tmps[2]?=some (ptV b2 0):=aQ (aQ (aQ (aQ t2 (by decide)) (by decide)) (by decide)) (by decide);have gd:((((a.put (some 3) (.agg (aA (rR wd fl pt)).toArray)).put (some 4) (.agg (aA (rR wd fl pt)).toArray)).put (some 6) (ptV b1 0)).put (some 7) (iI wd)).defers=[]:=hdf;have gs:((((a.put (some 3) (.agg (aA (rR wd fl pt)).toArray)).put (some 4) (.agg (aA (rR wd fl pt)).toArray)).put (some 6) (ptV b1 0)).put (some 7) (iI wd)).tmps.size=10:=by simp only[aH,hsz]
 generalize (((a.put (some 3) (.agg (aA (rR wd fl pt)).toArray)).put (some 4) (.agg (aA (rR wd fl pt)).toArray)).put (some 6) (ptV b1 0)).put (some 7) (iI wd)=a4 at *;obtain⟨o2,ho2,⟨ts2,hop2⟩,hd2,hg2⟩:∃x,(aE Me)[2]?=some x∧(∃ts,x.op=.call ⟨.value (.func 161),#[.tmp 4],ts⟩)∧x.dst=some 5∧x.guard=none:=⟨_,rfl,⟨_,rfl⟩,rfl,rfl⟩
 refine aF (i:=2) (by kernel_rfl) ho2 fun K2 hK2 => ?_
 rw[if_pos (by simp[Region.wanted,hg2])];have hDd:Dbj w.drew:=hD.on hD.lt hd;refine cQ hop2 (vs:=[.agg (aA (rR wd fl pt)).toArray]) (List.cons_eq_cons.2 ⟨cR g4,rfl⟩) (fun args=>cC func161 (by kernel_rfl) (by kernel_rfl) args _) (Ew (sq:=sq) (xs:=xs) (by omega) (by omega) (by omega) (by omega) (by omega) h0 hx hDd) fun e w2 hr => ?_
 obtain⟨cb,rfl,hb2,hcge,hc2,hc3,_⟩:=hr;refine⟨_,rfl,?_⟩;rw[hd2];have hcb:LM w2 cb (wd*(fl+pt)) xs:=⟨hc2,hc3⟩;have Ss:=(m1.on hd).on hb2;have m22:=(m2.on hd).on hb2;have hB2':Below w0.heap.size w0 w2:=(hbl.trans (hd.mono hbl.size)).trans (hb2.mono (Nat.le_trans hbl.size hd.size));refine hK2.out _ _ (Or.inr Ss.2) fun _ => ?_
 clear hK2;show dQ _ _ _ _ _ _ _ _ (a4.put (some 5) (aM cb 0 (wd*(fl+pt)) (wd*(fl+pt)))) w2;obtain⟨o5,ho5,⟨ts5,hop5⟩,hd5,hg5⟩:∃x,(aE Me)[5]?=some x∧(∃ts,x.op=.call ⟨.value (.func 162),#[.tmp 7],ts⟩)∧x.dst=some 8∧x.guard=none:=⟨_,rfl,⟨_,rfl⟩,rfl,rfl⟩
 refine aF (i:=5) (by kernel_rfl) ho5 fun K5 hK5 => ?_
 rw[if_pos (by simp[Region.wanted,hg5])];refine cQ hop5 (vs:=[iI wd]) (List.cons_eq_cons.2 ⟨cR (aQ g7 (by decide)),rfl⟩) (fun args=>cC func162 (by kernel_rfl) (by kernel_rfl) args _) (Cq (wd:=wd) (N:=2*wd-1) (by omega) (by omega)) fun e w3 hr => ?_
 obtain⟨ib,rfl,hb3,hige,hib⟩:=hr;refine⟨_,rfl,?_⟩;rw[hd5];have hcb:=hcb.on hb3;have m13:=Ss.on hb3;have m23:=m22.on hb3;have hB3:=hB2'.trans (hb3.mono hB2'.size);refine hK5.out _ _ (Or.inr m13.2) fun _ => ?_
 clear hK5;obtain⟨o6,ho6,hop6,hd6,hg6⟩:∃x,(aE Me)[6]?=some x∧x.op=.build 179 #[(0,.tmp 3),(1,.tmp 5),(2,.tmp 8)]∧x.dst=some 9∧x.guard=none:=⟨_,rfl,rfl,rfl,rfl⟩
 have k3:=aQ (d:=8) (u:=aM ib 0 (2*wd-1) (2*wd-1)) (aQ (d:=5) (u:=aM cb 0 (wd*(fl+pt)) (wd*(fl+pt))) g3 (by decide)) (by decide);have k2:=aQ (d:=8) (u:=aM ib 0 (2*wd-1) (2*wd-1)) (aQ (d:=5) (u:=aM cb 0 (wd*(fl+pt)) (wd*(fl+pt))) g2 (by decide)) (by decide);have k5:=aQ (d:=8) (u:=aM ib 0 (2*wd-1) (2*wd-1)) (aT a4 5 (aM cb 0 (wd*(fl+pt)) (wd*(fl+pt))) (by rw[gs]; decide)) (by decide);have k8:=aT (a4.put (some 5) (aM cb 0 (wd*(fl+pt)) (wd*(fl+pt)))) 8 (aM ib 0 (2*wd-1) (2*wd-1)) (by rw[aH,gs]; decide);have ks:((a4.put (some 5) (aM cb 0 (wd*(fl+pt)) (wd*(fl+pt)))).put (some 8) (aM ib 0 (2*wd-1) (2*wd-1))).tmps.size=10:=by simp only[aH,gs]
 have kd:((a4.put (some 5) (aM cb 0 (wd*(fl+pt)) (wd*(fl+pt)))).put (some 8) (aM ib 0 (2*wd-1) (2*wd-1))).defers=[]:=gd;change dQ _ _ _ _ _ _ _ _ ((a4.put (some 5) (aM cb 0 (wd*(fl+pt)) (wd*(fl+pt)))).put (some 8) (aM ib 0 (2*wd-1) (2*wd-1))) w3;generalize (a4.put (some 5) (aM cb 0 (wd*(fl+pt)) (wd*(fl+pt)))).put (some 8) (aM ib 0 (2*wd-1) (2*wd-1))=a5 at *;refine aF (i:=6) (by kernel_rfl) ho6 fun K6 hK6 => ?_
 rw[if_pos (by simp[Region.wanted,hg6])];have hbt:=Bu wd fl pt (aM cb 0 (wd*(fl+pt)) (wd*(fl+pt))) (aM ib 0 (2*wd-1) (2*wd-1)) ⟨_,_,_,rfl⟩ ⟨_,_,_,rfl⟩;have hrun6:(execOp a5.eval o6).run prog w3=.ok (.value (.agg (aA (rP wd fl pt (aM cb 0 (wd*(fl+pt)) (wd*(fl+pt))) (aM ib 0 (2*wd-1) (2*wd-1)))).toArray)) w3:=by
  have:=run_build (P:=prog) w3 179 #[(0,.agg (aA (rR wd fl pt)).toArray),(1,aM cb 0 (wd*(fl+pt)) (wd*(fl+pt))),(2,aM ib 0 (2*wd-1) (2*wd-1))] _ hbt;simp[execOp,hop6,cR k3,cR k5,cR k8,this]
 refine cD hrun6 ?_;rw[hd6];refine hK6.out _ _ (Or.inr m13.2) fun _ => ?_
 clear hK6;have q2:=aQ (d:=9) (u:=.agg (aA (rP wd fl pt (aM cb 0 (wd*(fl+pt)) (wd*(fl+pt))) (aM ib 0 (2*wd-1) (2*wd-1)))).toArray) k2 (by decide);have q9:=aT a5 9 (.agg (aA (rP wd fl pt (aM cb 0 (wd*(fl+pt)) (wd*(fl+pt))) (aM ib 0 (2*wd-1) (2*wd-1)))).toArray) (by rw[ks]; decide);obtain⟨o7,ho7,hop7,hd7,hg7⟩:∃x,(aE Me)[7]?=some x∧x.op=.store 179 (.tmp 2) (.tmp 9)∧x.dst=none∧x.guard=none:=⟨_,rfl,rfl,rfl,rfl⟩
 refine aF (i:=7) (by kernel_rfl) ho7 fun K7 hK7 => ?_
 rw[if_pos (by simp[Region.wanted,hg7])];have hput:put zP 0 (rP wd fl pt (aM cb 0 (wd*(fl+pt)) (wd*(fl+pt))) (aM ib 0 (2*wd-1) (2*wd-1)))=some (rP wd fl pt (aM cb 0 (wd*(fl+pt)) (wd*(fl+pt))) (aM ib 0 (2*wd-1) (2*wd-1))):=rfl;obtain⟨hO,hW⟩:=m23.set hput;refine fL (vs:=aA (rP wd fl pt (aM cb 0 (wd*(fl+pt)) (wd*(fl+pt))) (aM ib 0 (2*wd-1) (2*wd-1)))) hop7 hd7 (cR q2) (cR q9) rfl rfl aCK (m23.there (o:=0) (n:=5) (Nat.le_of_ble_eq_true rfl)) ?_;refine hK7.out _ _ (Or.inl rfl) fun _=>bR (by kernel_rfl) ?_
 generalize w3.setCells b2 0 (aA (rP wd fl pt (aM cb 0 (wd*(fl+pt)) (wd*(fl+pt))) (aM ib 0 (2*wd-1) (2*wd-1))))=w4 at *;have hnc:cb≠b2:=fun e=>by have:=m2.lt; have:=hd.size; omega
 have hni:ib≠b2:=fun e=>by have:=m22.lt; omega
 exact⟨rfl,_,_,kd,by rw[aH]; exact ks,q2,hO,⟨⟨cb,rfl,oldOf.wr hcb hW hnc⟩,⟨ib,rfl,oldOf.wr hib hW hni⟩,fun i hi=>(DU (hok i (by omega)) (hx i hi)).2⟩,hB3.trans (hW.below.mono hB2)⟩
theorem Kf (w:World) (p:Option Addr) (n m:Nat):cH prog { qG prog with x:=xO w (fun _=>none) (fun _=>none) (assoc [(5,u6 n)]) } (fun _=>tC WP fun _=>none) f186 60 [.v (.im (.slice p n m))]=some ([∀w:World,(convert 3 22 (iI n)).run prog w=.ok (u6 n) w,n<18446744073709551616],.one (.fl [.q n])):=by kernel_rfl
theorem VQ {w:World} {p:Option Addr} {n m:Nat} (hn:n≤65536):bG prog 186 (.one (.fl [.q n])) [.slice p n m] w :=
 bZ aI (fun _ _=>IF.w _ _) (dS w _ _ _) func186 (Kf w p n m) ⟨DW (by omega),by omega,trivial⟩ (args:=[.slice p n m]) ⟨rfl,trivial⟩
def gCt (v:Value) (n:Nat):gE
 | [.v (.im u)]=>some ([u=v],.one (.fl [.q n]))
 | _=>none
noncomputable abbrev dgF:Func:=f143
def kI:Code:=(f143.body).getD .skip
def dgX:Code:=cB (cB (cB (cB kI)))
def dgB:Code:=jV (jV (jV dgX))
def dg5:Code:=cA (cB dgB)
def dgL:Code:=jV (jV (cB dg5))
def ON:Code:=cA (cB (cB dgB))
def aAr:Code:=cA (cB (cB (cB dgB)))
def WZ:Code:=cB (cB (cB (cB dgB)))
theorem Pj:kI=.seq (cA kI) (.seq (cA (cB kI)) (.seq (cA (cB (cB kI))) (.seq (cA (cB (cB (cB kI)))) (.block 0 (.loop (.block 1 (.seq (cA dgB) (.seq (.seq (cA dg5) (.block 2 (.loop dgL))) (.seq (.region 10 (aE ON) false) (.seq aAr WZ)))))))))):=by kernel_rfl
theorem aFK:dgF.ntmps=59:=by kernel_rfl
theorem aFH (v:Value) (wd fl pt:Nat) (cs is:Value):aX prog (qG prog) 59 (fun _=>tC T0 fun _=>none) 60 (cA kI) (fJ 0 [.v (.fl (rP wd fl pt cs is)),.v (.im v)]) [.slot 1 (.im v),.slot 2 (.pt 2 0),.row 2 true (rP wd fl pt cs is),.slot 4 (.pt 4 0),.row 4 true zC]=some ([],.nrm,[.slot 1 (.im v),.slot 2 (.pt 2 0),.row 2 true (rP wd fl pt cs is),.slot 4 (.pt 4 0),.row 4 true zC]):=by kernel_rfl
def dA (v:Value) (pb rb:Nat):List Fact:=[.slot 1 (.im v),.slot 2 (.im (ptV pb 0)),.slot 4 (.im (ptV rb 0))]
theorem aFG (w:World) (v:Value) (pb rb wd:Nat):aX prog { qG prog with x:=xO w (fun _=>none) (fun _=>none) (assoc [(12,iI wd)]) } 59 (fun _=>tC T0 (assoc [(13,iI (wd-1))])) 60 (cA (cB kI)) (dA v pb rb) (.slot 5 (.im (iI (wd-1)))::dA v pb rb)=some ([oldOf w pb 0 [.c (iI wd)],aN .sub .i64 (Int.ofNat wd) 1=some (iI (wd-1))],.nrm,.slot 5 (.im (iI (wd-1)))::dA v pb rb):=by kernel_rfl
def xD (w:World) (N:Nat):Ext:={ Ext.none with mks:=assoc [(17,(N,tD N))],gen:=assoc [(16,iI N)],old:=oldOf w,T2:=WR,T3:=SS,T4:=XB,T5:=kX,T6:=Gy }
theorem aBX (w:World) (N:Nat):bQ prog { qG prog with x:=xD w N } w.heap.size w :=
 ⟨(aV _).1,jT (fun b o l h=>h) (fun w' _=>FrAt.none _ _) (fun w' _=>FsAt.none _ _)⟩
theorem aFF (w:World) (v:Value) (pb rb wd:Nat):aX prog { qG prog with x:=xD w wd } 59 (fun _=>tC T0 fun _=>none) 60 (cA (cB (cB kI))) (.slot 5 (.im (iI (wd-1)))::dA v pb rb) (.slot 6 (.sl 17 0 wd wd) :: .row 17 true (tD wd) :: .slot 5 (.im (iI (wd-1)))::dA v pb rb)=some ([oldOf w pb 0 [.c (iI wd)],∃e,∀w:World,(Instr.makeSlice 56 (iI wd) (iI wd)).run prog w=.ok (.slice (some ⟨w.heap.size,0,none⟩) wd wd) (w.alloc (.cells (aA (tD wd)).toArray e))],.nrm,.slot 6 (.sl 17 0 wd wd) :: .row 17 true (tD wd) :: .slot 5 (.im (iI (wd-1)))::dA v pb rb):=by kernel_rfl
def xI2 (i:Nat) (Z:List At):Ext:={ Ext.none with idx:=assoc [(21,i)],st:=assoc [(21,Z)],T2:=WR,T3:=SS,T4:=XB,T5:=kX,T6:=Gy }
theorem Uo (i:Nat) (Z:List At) (base:Nat) (w:World):bQ prog { qG prog with x:=xI2 i Z } base w :=
 ⟨(aV _).1,jT (fun b o l h=>h.elim) (fun w' _=>FrAt.none _ _) (fun w' _=>FsAt.none _ _)⟩
theorem aFE (v:Value) (pb rb wd N:Nat) (Z Z':List At):aX prog { qG prog with x:=xI2 0 Z' } 59 (fun _=>tC (T0.add 186 (gCt v N)) fun _=>none) 60 (cA (cB (cB (cB kI)))) (.slot 6 (.sl 17 0 wd wd) :: .row 17 true Z :: .slot 5 (.im (iI (wd-1)))::dA v pb rb) (.slot 6 (.sl 17 0 wd wd) :: .row 17 true Z' :: .slot 5 (.im (iI (wd-1)))::dA v pb rb)=some ([v=v,(0:Int)=Int.ofNat 0,0<wd,put Z (0+0*4) [.q N]=some Z'],.nrm,.slot 6 (.sl 17 0 wd wd) :: .row 17 true Z' :: .slot 5 (.im (iI (wd-1)))::dA v pb rb):=by kernel_rfl
def dF (v:Value) (pb rb wd sb m6:Nat) (l6:List At):List Fact:=.slot 6 (.sl 1006 0 wd m6) :: .row 1006 true l6 :: .at 1006 sb :: .slot 5 (.im (iI (wd-1)))::dA v pb rb
def dG (v:Value) (T pb rb wd sb m6:Nat) (l6:List At):List Fact:=.slot 7 (.im (iI T))::dF v pb rb wd sb m6 l6
def dH (v cv:Value) (T j pb rb wd sb m6:Nat) (l6:List At):List Fact:=.slot 28 (.im cv) :: .slot 29 (.im (iI T)) :: .slot 30 (.im (iI j))::dG v T pb rb wd sb m6 l6
section
variable (w:World) (pb rb wd sb m6:Nat) (l6:List At)
theorem aFJ (p:Option Addr) (N m T:Nat):aX prog (qG prog) 59 (fun _=>tC T0 (assoc [(25,iI T)])) 60 (cA dgB) (dF (.slice p N m) pb rb wd sb m6 l6) (dG (.slice p N m) T pb rb wd sb m6 l6)=some ([Value.int .i64 (if Int.ofNat N<Int.ofNat (wd-1)then Int.ofNat N else Int.ofNat (wd-1))=iI T],.nrm,dG (.slice p N m) T pb rb wd sb m6 l6):=by kernel_rfl
theorem aFI (p:Option Addr) (N m T:Nat):aX prog (qG prog) 59 (fun _=>tC T0 fun _=>none) 60 (cA dg5) (dG (.slice p N m) T pb rb wd sb m6 l6) (dH (.slice p N m) (.slice p T m) T 0 pb rb wd sb m6 l6)=some ([T≤m],.nrm,dH (.slice p N m) (.slice p T m) T 0 pb rb wd sb m6 l6):=by kernel_rfl
theorem aKq (v:Value) (b o T m j x c:Nat) (l6':List At):aX prog { qG prog with x:=BL w (assoc [(33,j),(41,1+j),(45,1+j)]) (assoc [(34,[.q c]),(42,[.q x])]) (assoc [(45,l6')]) (fun _=>none) } 59 (fun _=>tC WO (assoc [(31,.bool true),(37,iI (1+j)),(40,iI (1+j)),(46,iI (j+1))])) 60 dgL (dH v (aM b o T m) T j pb rb wd sb m6 l6) (dH v (aM b o T m) T (j+1) pb rb wd sb m6 l6')=some ([aN .lss .i64 (Int.ofNat j) (Int.ofNat T)=some (.bool true),Int.ofNat j=Int.ofNat j,j<T,oldOf w b (o+j*4) [.q c],dN [.q c]=4,aN .add .i64 1 (Int.ofNat j)=some (iI (1+j)),aN .add .i64 1 (Int.ofNat j)=some (iI (1+j)),Int.ofNat (1+j)=Int.ofNat (1+j),1+j<wd,zQ l6 (0+(1+j)*4) 4=some [.q x],x<RM,c<RM,Int.ofNat (1+j)=Int.ofNat (1+j),1+j<wd,put l6 (0+(1+j)*4) [.q (iP x c)]=some l6',aN .add .i64 (Int.ofNat j) 1=some (iI (j+1))],.nrm,dH v (aM b o T m) T (j+1) pb rb wd sb m6 l6'):=by kernel_rfl
theorem aFL (v cv:Value) (T j:Nat):aX prog (qG prog) 59 (fun _=>tC T0 (assoc [(31,.bool false)])) 60 dgL (dH v cv T j pb rb wd sb m6 l6) (dG v T pb rb wd sb m6 l6)=some ([aN .lss .i64 (Int.ofNat j) (Int.ofNat T)=some (.bool false)],.ex 2,dG v T pb rb wd sb m6 l6):=by kernel_rfl
end
def dK (v u:Value) (pb rb wd T:Nat):List Fact:=[.slot 6 (.im u),.slot 7 (.im (iI T)),.slot 5 (.im (iI (wd-1))),.slot 1 (.im v),.slot 2 (.im (ptV pb 0)),.slot 4 (.im (ptV rb 0))]
theorem aAp (w:World) (v u:Value) (pb rb wd T fl pt:Nat) (cs is:Value):cX prog { qG prog with x:=xO w (fun _=>none) (assoc [(47,rP wd fl pt cs is)]) (fun _=>none) } 59 (tC T0 fun _=>none) ((aE ON).extract 0 2) (dK v u pb rb wd T) (.slot 47 (.fl (rP wd fl pt cs is)) :: .slot 48 (.im u)::dK v u pb rb wd T)=some ([oldOf w pb 0 (rP wd fl pt cs is),dN (rP wd fl pt cs is)=5],.slot 47 (.fl (rP wd fl pt cs is)) :: .slot 48 (.im u)::dK v u pb rb wd T):=by kernel_rfl
theorem aAo (v u x:Value) (pb rb wd T:Nat):cX prog (qG prog) 59 (tC T0 fun _=>none) ((aE ON).extract 3 4) (.slot 49 (.im u)::dK v x pb rb wd T) (dK v u pb rb wd T)=some ([],dK v u pb rb wd T):=by kernel_rfl
theorem aFN (w:World) (v v' u:Value) (pb rb wd T:Nat):aX prog { qG prog with x:=xO w (fun _=>none) (fun _=>none) (assoc [(52,v')]) } 59 (fun _=>tC T0 fun _=>none) 60 aAr (dK v u pb rb wd T) (dK v' u pb rb wd T)=some ([∀w:World,(Instr.sliceAt 56 v (some (iI T)) none none).run prog w=.ok v' w],.nrm,dK v' u pb rb wd T):=by kernel_rfl
end Go.Proofs.YtpjlhhpjpnacmaaGreatDoor.Ex
