/- Ea05 -/
import Derived.RangeFuncNested
import Derived.RangeFuncLeaves
import Derived.TacticsIn
import Derived.Laws.IdiomCopy
import Derived.Deep.LoopGhost
import Derived.RegionTactic
import Derived.Laws.OwnMore
import Derived.Laws.MakeOwn
import Derived.Test.YtpbljiejmfahcaaGreatDoorEa04
import Derived.Test.YtpbljiejmfahcaaGreatDoorEa03
import Derived.Test.YtpbljiejmfahcaaGreatDoorEa02
import Derived.Test.YtpbljiejmfahcaaGreatDoorProg
set_option maxRecDepth 100000
set_option linter.unusedVariables false
set_option linter.unusedSimpArgs false
set_option linter.unnecessarySimpa false
noncomputable section
namespace Go.Proofs.YtpbljiejmfahcaaGreatDoor
open Go.Proofs.Tryz
open Go.RowKit
set_option maxHeartbeats 2000000 in
theorem Jr (f:Int) (F:FC) (hf:FieldIs f F) (a0 a1 a2 a3 b0 b1 b2 b3:Nat) (ha:cC a0 a1 a2 a3) (hb:cC b0 b1 b2 b3) (la:aC a0 a1 a2 a3<F.M) (lb:aC b0 b1 b2 b3<F.M) (hz:aC b0 b1 b2 b3≠0) (w:World) :
  Calls prog 100 #[.int .i64 f,.agg #[.int .u64 a0,.int .u64 a1,.int .u64 a2,.int .u64 a3],.agg #[.int .u64 b0,.int .u64 b1,.int .u64 b2,.int .u64 b3]] w (Vr 0 (aC a0 a1 a2 a3*(aC b0 b1 b2 b3^(F.M-2))%F.M) w):=by
 have HE:=Lib.hid (show ∀w,(Op.equalIn 10000 27 (.agg #[.int .u64 b0,.int .u64 b1,.int .u64 b2,.int .u64 b3]) (.agg #[.int .u64 0,.int .u64 0,.int .u64 0,.int .u64 0])).run prog w=.ok false w from fun w=>by
  have h:=wJ 9998 b0 b1 b2 b3 0 0 0 0 w;have q:LX b0 b1 b2 b3 0 0 0 0=false:=by
   cases q:LX b0 b1 b2 b3 0 0 0 0
   ·rfl
   ·exact absurd (((rQ hb Vt).1 q).trans rfl) hz
  rw[q]at h;exact h)
 have hG:=Ax;clear hz
 go_enter func100,ntmps100
 go_wp2_with fail;refine (gD f F hf _).mono ?_
 rintro e w1 ⟨rfl,hbl⟩
 have M1:=((((Mem.nil w).new (w.heap.size) a0 a1 a2 a3 27 (by simp)).new (w.heap.size+1) b0 b1 b2 b3 27 (by simp)).new (w.heap.size+1+1) 0 0 0 0 27 (by simp)).on hbl;clear hbl;have z0:w.heap.size<w1.heap.size:=M1.lt (c0:=a0) (c1:=a1) (c2:=a2) (c3:=a3) (by simp);have z1:w.heap.size+1<w1.heap.size:=M1.lt (c0:=b0) (c1:=b1) (c2:=b2) (c3:=b3) (by simp);have z2:w.heap.size+1+1<w1.heap.size:=M1.lt (c0:=0) (c1:=0) (c2:=0) (c3:=0) (by simp);have HM:=Lib.hid (M1.on ((Below.refl _ _).alloc (Nat.le_refl _) (.cells #[.int .u64 F.m0,.int .u64 F.m1,.int .u64 F.m2,.int .u64 F.m3,.int .u64 F.inv,.int .u64 F.s0,.int .u64 F.s1,.int .u64 F.s2,.int .u64 F.s3] 106)));have KK:=Lib.hid (KIs.new w1 F 106);have kr:=M1.row (b:=w.heap.size) (c0:=a0) (c1:=a1) (c2:=a2) (c3:=a3) (by simp);have x0:=kr.c0; have x1:=kr.c1; have x2:=kr.c2; have x3:=kr.c3;clear kr;have xl:=M1.lt (b:=w.heap.size) (c0:=a0) (c1:=a1) (c2:=a2) (c3:=a3) (by simp);go_wp2_with fail;refine (eP F hf.ok w1.heap.size a0 a1 a2 a3 ha _ KK.out).mono ?_
 rintro e w2 ⟨he,hbl⟩
 rw[show LC (aC a0 a1 a2 a3) F.M=true from decide_eq_true la]at he;subst he;have HM':=Lib.hid (HM.out.on hbl);have KK':=Lib.hid (KK.out.same hbl);have zk:=KK'.out.lt;clear HM KK hbl M1;have HM:=HM';have KK:=KK';clear HM' KK';clear x0 x1 x2 x3 xl zk;have kr:=HM.out.row (b:=w.heap.size+1) (c0:=b0) (c1:=b1) (c2:=b2) (c3:=b3) (by simp);have x0:=kr.c0; have x1:=kr.c1; have x2:=kr.c2; have x3:=kr.c3;clear kr;have xl:=HM.out.lt (b:=w.heap.size+1) (c0:=b0) (c1:=b1) (c2:=b2) (c3:=b3) (by simp);go_wp2_with fail;refine (eP F hf.ok w1.heap.size b0 b1 b2 b3 hb _ KK.out).mono ?_
 rintro e w3 ⟨he,hbl⟩
 rw[show LC (aC b0 b1 b2 b3) F.M=true from decide_eq_true lb]at he;subst he;have HM':=Lib.hid (HM.out.on hbl);have KK':=Lib.hid (KK.out.same hbl);have zk:=KK'.out.lt;clear HM KK hbl;have HM:=HM';have KK:=KK';clear HM' KK';clear x0 x1 x2 x3 xl zk;have kr:=HM.out.row (b:=w.heap.size+1) (c0:=b0) (c1:=b1) (c2:=b2) (c3:=b3) (by simp);have u0:=kr.c0; have u1:=kr.c1; have u2:=kr.c2; have u3:=kr.c3;clear kr;have ul:=HM.out.lt (b:=w.heap.size+1) (c0:=b0) (c1:=b1) (c2:=b2) (c3:=b3) (by simp);have hE:=HE.out;go_wp2_with fail;clear u0 u1 u2 u3 ul hE;refine cF (fun wx=>Mem w wx [(w.heap.size+1,b0,b1,b2,b3),(w.heap.size,a0,a1,a2,a3)]) 6 (by kernel_rfl) ?_;have HM':=Lib.hid (HM.out.drewN 1);have KK':=Lib.hid (KK.out.drewN 1);clear HM KK;have HM:=HM';have KK:=KK';clear HM' KK';have HS:=HM.out.sub (rs':=[(w.heap.size+1,b0,b1,b2,b3),(w.heap.size,a0,a1,a2,a3)]) (by simp);refine aE (i:=0) (v:=.agg #[.int .u64 b0,.int .u64 b1,.int .u64 b2,.int .u64 b3]) rfl (by kernel_rfl) (by kernel_rfl) (by kernel_rfl) (by kernel_rfl) (fun _ _ _ h=>h) HS (Or.inl ⟨by kernel_rfl,fun wx hx => ?_⟩) ?_
 ·have kr:=hx.row (b:=w.heap.size+1) (c0:=b0) (c1:=b1) (c2:=b2) (c3:=b3) (by simp);have x0:=kr.c0; have x1:=kr.c1; have x2:=kr.c2; have x3:=kr.c3;clear kr HS hx;go_simp
 simp only[Act.put,List.setIfInBounds_toArray,List.set_cons_zero,List.set_cons_succ];refine aE (i:=3) (v:=.agg #[.int .u64 a0,.int .u64 a1,.int .u64 a2,.int .u64 a3]) rfl (by kernel_rfl) (by kernel_rfl) (by kernel_rfl) (by kernel_rfl) (fun _ _ _ h=>h) HS (Or.inl ⟨by kernel_rfl,fun wx hx => ?_⟩) ?_
 ·have kr:=hx.row (b:=w.heap.size) (c0:=a0) (c1:=a1) (c2:=a2) (c3:=a3) (by simp);have x0:=kr.c0; have x1:=kr.c1; have x2:=kr.c2; have x3:=kr.c3;clear kr HS hx;go_simp
 simp only[Act.put,List.setIfInBounds_toArray,List.set_cons_zero,List.set_cons_succ];clear HS;refine aM (i:=1) (by kernel_rfl) rfl (fun K hK => ?_);go_simp;refine (gX F hf.ok w1.heap.size b0 b1 b2 b3 hb _ KK.out).mono ?_
 rintro e w4 ⟨i0,i1,i2,i3,rfl,hi,hv,hbl⟩
 have HVi:=Lib.hid hv;clear hv;have HM':=Lib.hid (HM.out.on hbl);have KK':=Lib.hid (KK.out.same hbl);have zk_w4:=KK'.out.lt;clear HM KK hbl;have HM:=HM';have KK:=KK';clear HM' KK';have HS:=HM.out.sub (rs':=[(w.heap.size+1,b0,b1,b2,b3),(w.heap.size,a0,a1,a2,a3)]) (by simp);refine hK.out _ _ (Or.inr HS) (fun _ => ?_);clear hK K;clear HS;refine aM (i:=2) (by kernel_rfl) rfl (fun K hK => ?_);go_simp;refine (nE F hf.ok (aC b0 b1 b2 b3) w1.heap.size i0 i1 i2 i3 hi HVi.out _ KK.out).mono ?_
 rintro e w5 ⟨j0,j1,j2,j3,rfl,hj,hv,hbl⟩
 have HVj:=Lib.hid hv;clear hv;have HM':=Lib.hid (HM.out.on hbl);have KK':=Lib.hid (KK.out.same hbl);have zk_w5:=KK'.out.lt;clear HM KK hbl;have HM:=HM';have KK:=KK';clear HM' KK';have HS:=HM.out.sub (rs':=[(w.heap.size+1,b0,b1,b2,b3),(w.heap.size,a0,a1,a2,a3)]) (by simp);refine hK.out _ _ (Or.inr HS) (fun _ => ?_);clear hK K;clear HS;refine aM (i:=4) (by kernel_rfl) rfl (fun K hK => ?_);go_simp;refine (dE F hf.ok w1.heap.size j0 j1 j2 j3 a0 a1 a2 a3 hj ha la _ KK.out).mono ?_
 rintro e w6 ⟨s0,s1,s2,s3,rfl,hs,hv,hbl⟩
 have HVs:=Lib.hid (show aC s0 s1 s2 s3=aC a0 a1 a2 a3*(aC b0 b1 b2 b3^(F.M-2))%F.M by rw[hv,HVj.out,vP hf.ok,Nat.mul_comm]);clear hv;have HM':=Lib.hid (HM.out.on hbl);have KK':=Lib.hid (KK.out.same hbl);have zk_w6:=KK'.out.lt;clear HM KK hbl;have HM:=HM';have KK:=KK';clear HM' KK';have HS:=HM.out.sub (rs':=[(w.heap.size+1,b0,b1,b2,b3),(w.heap.size,a0,a1,a2,a3)]) (by simp);refine hK.out _ _ (Or.inr HS) (fun _ => ?_);clear hK K;clear HS;have kr:=HM.out.row (b:=w.heap.size+1+1) (c0:=0) (c1:=0) (c2:=0) (c3:=0) (by simp);have y0:=kr.c0; have y1:=kr.c1; have y2:=kr.c2; have y3:=kr.c3; have yf:=kr.fr;clear kr;have yl:=HM.out.lt (b:=w.heap.size+1+1) (c0:=0) (c1:=0) (c2:=0) (c3:=0) (by simp);refine aM (i:=5) (by kernel_rfl) rfl (fun K hK => ?_);go_simp;have HM':=Lib.hid ((HM.out.sub (rs':=[(w.heap.size+1+1,0,0,0,0),(w.heap.size+1,b0,b1,b2,b3),(w.heap.size,a0,a1,a2,a3)]) (by simp)).put s0 s1 s2 s3 (by omega) (by intro r hr; simp at hr; rcases hr with rfl|rfl<;>simp<;>omega));clear HM;have HM:=HM';clear HM';have HS:=HM.out.sub (rs':=[(w.heap.size+1,b0,b1,b2,b3),(w.heap.size,a0,a1,a2,a3)]) (by simp);refine hK.out _ _ (Or.inr HS) (fun _ => ?_);clear hK K;clear HS;refine aM (i:=6) (by kernel_rfl) rfl (fun K hK => ?_);go_simp;refine hK.out _ _ (Or.inl rfl) (fun _ => ?_);clear hK K;refine cK (by kernel_rfl) ?_;go_wp2_with fail;refine bodyPost_ret (v:=.tuple #[.agg #[.int .u64 s0,.int .u64 s1,.int .u64 s2,.int .u64 s3],.int .i64 0]) (by simp[results,results100,go_sem, *]) rfl ?_;exact⟨_,_,_,_,rfl,hs,HVs.out,HM.out.1⟩
end Go.Proofs.YtpbljiejmfahcaaGreatDoor
namespace Go.Proofs.YtpbljiejmfahcaaGreatDoor.Ex
open Go.Proofs.Tryz
open Go.RowKit
abbrev RM:Nat:=Go.Proofs.YtpbljiejmfahcaaGreatDoor.FR.M
abbrev aF:Nat:=115792089237316195423570985008687907853269984665640564039457584007913129639936
theorem kO {x:Nat} (h:x<RM):x<aF:=Nat.lt_trans h (by decide)
theorem fW:0<RM:=by decide
def Iz:gE
 | [.v (.im (.int .u64 (.ofNat n)))]=>some ([n<18446744073709551616],.one (.fl [.q n]))
 | _=>none
theorem Pg:∀cs pre r,Iz cs=some (pre,r)→aT pre→∀(args:List Value) (w:World),cD w cs args→bD prog 69 r args w:=by
 intro cs pre r hg hp args w ha;unfold Iz at hg;split at hg
 ·rename_i n;cases hg
  match args,ha with
  | [t],ha =>
   have h1:t=.int .u64 (Int.ofNat n):=ha.1;subst h1;refine (FG n hp.1 w).mono ?_
   rintro e w' ⟨rfl,hb⟩
   refine⟨?_,hb⟩;obtain⟨e0,e1,e2,e3⟩:=jN (s0:=n) (s1:=0) (s2:=0) (s3:=0) (x:=n) ⟨hp.1,by omega,by omega,by omega⟩ (by have:=hp.1; omega) (by unfold aC; omega);show Ending.returned _=Ending.returned (.agg #[.int .u64 (fw n 0:Nat),.int .u64 (fw n 1:Nat),.int .u64 (fw n 2:Nat),.int .u64 (fw n 3:Nat)]);rw[←e0,←e1,←e2,←e3];rfl
  | [],ha=>exact ha.elim
  | _::_::_,ha=>exact ha.2.elim
 ·cases hg
def el (f:Nat→Nat) (j:Nat):List At:=[.q (f j)]
def LV (w:World) (v:Value) (N:Nat) (f:Nat→Nat):Prop:=∃p m,v=.slice p N m∧N≤m∧(∀j,j<N→f j<aF)∧(0<N→∃b o,p=some ⟨b,o,none⟩∧b<w.heap.size∧w.rangeAt b o (aA (bP (el f) 0 N)))
theorem LV.on {w w':World} {v:Value} {N:Nat} {f:Nat→Nat} (h:LV w v N f) (hb:Below w.heap.size w w'):LV w' v N f:=by
 obtain⟨p,m,h1,h2,h3,h4⟩:=h;exact⟨p,m,h1,h2,h3,fun h=>by
  obtain⟨b,o,e,h5,h6⟩:=h4 h;exact⟨b,o,e,Nat.lt_of_lt_of_le h5 hb.size,cZ hb h5 h6⟩⟩
theorem LV.ofS {w:World} {l:List At} {n m N:Nat} {f:Nat→Nat} {v:Value} (h:CA.ok w (.s l n m) v) (h1:aA l=aA (bP (el f) 0 N)) (h2:n=N) (h3:N≤m) (h4:∀j,j<N→f j<aF):LV w v N f:=by
 obtain⟨b,o,rfl,hb,hr⟩:=h;rw[h1]at hr;exact⟨_,m,by rw[h2],h3,h4,fun _=>⟨b,o,rfl,hb,hr⟩⟩
theorem LV.nil (w:World) (f:Nat→Nat):LV w (.slice none 0 0) 0 f:=⟨none,0,rfl,Nat.le_refl _,fun j h=>by omega,fun h=>by omega⟩
theorem mW {w:World} {b o N i:Nat} {f:Nat→Nat} (hb:b<w.heap.size) (hr:w.rangeAt b o (aA (bP (el f) 0 N))) (hi:i<N):oldOf w b (o+i*4) [.q (f i)] :=
 ⟨hb,QY (f:=el f) (c:=4) (fun _=>rfl) hi hr⟩
def xO (w:World) (idx:Nat→Option Nat) (ld:Nat→Option (List At)) (gen:Nat→Option Value):Ext:={ Ext.none with idx:=idx,ld:=ld,gen:=gen,old:=oldOf w,T2:=Dt,T3:=Dg,T4:=Dr,T5:=kI,T6:=Ds }
theorem eK (w:World) (idx:Nat→Option Nat) (ld:Nat→Option (List At)) (gen:Nat→Option Value):bO prog { qG prog with x:=xO w idx ld gen } w.heap.size w :=
 ⟨(aW _).1,iZ (fun b o l h=>h) (fun w' _=>FrAt.none _ _) (fun w' _=>FsAt.none _ _)⟩
def gS (x y:Nat):Nat:=(x+y)%RM
def oC (x y:Nat):Nat:=(x+RM-y)%RM
def bK (x y:Nat):Nat:=x*y%RM
def rnv (x:Nat):Nat:=1*(x^(RM-2))%RM
theorem cR (x y:Nat):gS x y<RM:=Nat.mod_lt _ fW
theorem dZ (x y:Nat):oC x y<RM:=Nat.mod_lt _ fW
theorem aK (x y:Nat):bK x y<RM:=Nat.mod_lt _ fW
theorem Pb (x:Nat):rnv x<RM:=Nat.mod_lt _ fW
theorem GJ:FieldIs 2 Go.Proofs.YtpbljiejmfahcaaGreatDoor.FR:=Or.inr ⟨rfl,rfl⟩
theorem BN {x:Nat} (h:x<RM):aC (fw x 0) (fw x 1) (fw x 2) (fw x 3)=x:=fA (kO h)
def Dn (op:Nat→Nat→Nat):gE
 | [.v (.im (.int .i64 2)),.v (.fl l),.v (.fl m)]=>match uC l,uC m with
  | some x,some y=>some ([x<RM,y<RM],.many [.fl [.q (op x y)],.im (.int .i64 0)])
  | _,_=>none
 | _=>none
theorem LL {fid:FuncId} {op:Nat→Nat→Nat} (hlt:∀x y,op x y<RM) (h:∀x y,x<RM→y<RM→∀w,Calls prog fid #[.int .i64 2,.agg (aA [At.q x]).toArray,.agg (aA [At.q y]).toArray] w (Vr 0 (op x y) w)) :
  ∀cs pre r,Dn op cs=some (pre,r)→aT pre→∀(args:List Value) (w:World),cD w cs args→bD prog fid r args w:=by
 intro cs pre r hg hp args w ha;unfold Dn at hg;split at hg
 ·rename_i l m;split at hg
  ·rename_i x y hx hy;cases hg
   match args,ha with
   | [t,v,u],ha =>
    obtain⟨h1,h2,h3,_⟩:=ha;have h1:t=.int .i64 2:=h1;have h2:v=.agg (aA l).toArray:=h2;have h3:u=.agg (aA m).toArray:=h3;rw[eE l x hx]at h2;rw[eE m y hy]at h3;subst h1; subst h2; subst h3;refine (h x y hp.1 hp.2.1 w).mono ?_
    rintro e w' ⟨s0,s1,s2,s3,rfl,hs,hv,hb⟩
    obtain⟨rfl,rfl,rfl,rfl⟩:=jN hs (kO (hlt x y)) hv;exact⟨rfl,hb⟩
   | [],ha=>exact ha.elim
   | [_],ha=>exact ha.2.elim
   | [_,_],ha=>exact ha.2.2.elim
   | _::_::_::_::_,ha=>exact ha.2.2.2.elim
  ·cases hg
 ·cases hg
theorem Lz:∀cs pre r,Dn gS cs=some (pre,r)→aT pre→∀(args:List Value) (w:World),cD w cs args→bD prog 121 r args w :=
 LL cR fun x y hx hy w=>by
  have:=Js 2 _ GJ _ _ _ _ _ _ _ _ (fH x) (fH y) (by rw[BN hx]; exact hx) (by rw[BN hy]; exact hy) w;rw[BN hx,BN hy]at this;exact this
theorem Xh:∀cs pre r,Dn oC cs=some (pre,r)→aT pre→∀(args:List Value) (w:World),cD w cs args→bD prog 101 r args w :=
 LL dZ fun x y hx hy w=>by
  have:=Jl 2 _ GJ _ _ _ _ _ _ _ _ (fH x) (fH y) (by rw[BN hx]; exact hx) (by rw[BN hy]; exact hy) w;rw[BN hx,BN hy]at this;exact this
theorem Ly:∀cs pre r,Dn bK cs=some (pre,r)→aT pre→∀(args:List Value) (w:World),cD w cs args→bD prog 115 r args w :=
 LL aK fun x y hx hy w=>by
  have:=Jn 2 _ GJ _ _ _ _ _ _ _ _ (fH x) (fH y) (by rw[BN hx]; exact hx) (by rw[BN hy]; exact hy) w;rw[BN hx,BN hy]at this;exact this
def TG (x:Nat):Int:=if x<RM then 0 else 21
def Jj:gE
 | [.v (.im (.int .i64 2)),.v (.fl l)]=>match uC l with
  | some x=>some ([x<aF],.one (.im (.int .i64 (TG x))))
  | none=>none
 | _=>none
theorem OG:∀cs pre r,Jj cs=some (pre,r)→aT pre→∀(args:List Value) (w:World),cD w cs args→bD prog 102 r args w:=by
 intro cs pre r hg hp args w ha;unfold Jj at hg;split at hg
 ·rename_i l;split at hg
  ·rename_i x hx;cases hg
   match args,ha with
   | [t,v],ha =>
    obtain⟨h1,h2,_⟩:=ha;have h1:t=.int .i64 2:=h1;have h2:v=.agg (aA l).toArray:=h2;rw[eE l x hx]at h2;subst h1; subst h2;unfold TG
    by_cases h:x<RM
    ·rw[if_pos h];exact SP 2 _ GJ _ _ _ _ (fH x) (by rw[fA hp.1]; exact h) w
    ·rw[if_neg h];exact LU 2 21 _ _ _ _ (fH x) (Or.inr ⟨_,GJ,by rw[fA hp.1]; exact h,rfl⟩) w
   | [],ha=>exact ha.elim
   | [_],ha=>exact ha.2.elim
   | _::_::_::_,ha=>exact ha.2.2.elim
  ·cases hg
 ·cases hg
def Sf (op:Nat→Nat) (c:Nat→List Prop):gE
 | [.v (.fl l)]=>match uC l with|some x=>some (c x,.one (.fl [.q (op x)]))|none=>none
 | _=>none
def Mn (op:Nat→Nat→Nat) (c:Nat→Nat→List Prop):gE
 | [.v (.fl l),.v (.fl m)]=>match uC l,uC m with|some x,some y=>some (c x y,.one (.fl [.q (op x y)]))|_,_=>none
 | _=>none
def Mv (x y:Nat):List Prop:=[x<RM,y<RM]
theorem sV {f:FuncId} {op:Nat→Nat→Nat} {c:Nat→Nat→List Prop} (h:∀x y,aT (c x y)→∀args w,cD w [.v (.fl [.q x]),.v (.fl [.q y])] args→bD prog f (.one (.fl [.q (op x y)])) args w) :
  ∀cs pre r,Mn op c cs=some (pre,r)→aT pre→∀(args:List Value) (w:World),cD w cs args→bD prog f r args w:=by
 intro cs pre r hg hp args w ha;unfold Mn at hg;split at hg
 ·rename_i l m;split at hg
  ·rename_i x y hx hy;cases hg;refine h x y hp args w ?_
   match args,ha with
   | [v,u],ha =>
    refine⟨?_,?_,trivial⟩
    ·show v=.agg (aA (q1 x)).toArray;rw[←eE l x hx]; exact ha.1
    ·show u=.agg (aA (q1 y)).toArray;rw[←eE m y hy]; exact ha.2.1
   | [],ha=>exact ha.elim
   | [_],ha=>exact ha.2.elim
   | _::_::_::_,ha=>exact ha.2.2.elim
  ·cases hg
 ·cases hg
theorem vZ {f:FuncId} {op:Nat→Nat} {c:Nat→List Prop} (h:∀x,aT (c x)→∀args w,cD w [.v (.fl [.q x])] args→bD prog f (.one (.fl [.q (op x)])) args w) :
  ∀cs pre r,Sf op c cs=some (pre,r)→aT pre→∀(args:List Value) (w:World),cD w cs args→bD prog f r args w:=by
 intro cs pre r hg hp args w ha;unfold Sf at hg;split at hg
 ·rename_i l;split at hg
  ·rename_i x hx;cases hg;refine h x hp args w ?_
   match args,ha with
   | [v],ha =>
    refine⟨?_,trivial⟩;show v=.agg (aA (q1 x)).toArray;rw[←eE l x hx]; exact ha.1
   | [],ha=>exact ha.elim
   | _::_::_,ha=>exact ha.2.elim
  ·cases hg
 ·cases hg
def NF (v:Value) (N i:Nat):List Fact:=[.slot 5 (.im v),.slot 6 (.im (iI N)),.slot 7 (.im (iI i))]
theorem BZ {x:Nat} (h:x<RM):aN .neq .i64 (TG x) 0=some (.bool false):=by unfold TG; rw[if_pos h]; rfl
theorem CC {x:Nat} (h:¬x<RM):aN .neq .i64 (TG x) 0=some (.bool true):=by unfold TG; rw[if_neg h]; rfl
theorem SN {p:Nat→Prop} [DecidablePred p]:∀{N:Nat},(¬ ∀j,j<N→p j)→∃j,j<N∧(∀k,k<j→p k)∧¬p j:=by
 intro N
 induction N with
 | zero=>exact fun h=>(h fun j hj=>by omega).elim
 | succ N ih =>
  intro h
  by_cases h0:∀j,j<N→p j
  ·refine⟨N,by omega,h0,fun hp=>h fun j hj => ?_⟩
   by_cases e:j=N
   ·rw[e]; exact hp
   ·exact h0 j (by omega)
  ·obtain⟨j,h1,h2⟩:=ih h0;exact⟨j,by omega,h2⟩
def oU (N:Nat) (f:Nat→Nat):Prop:=∀j,j<N→f j<RM
instance (N:Nat) (f:Nat→Nat):Decidable (oU N f):=Nat.decidableBallLT N fun j _=>f j<RM
def Bm (f g:Nat→Nat):Nat→Nat
 | 0=>0
 | n+1=>gS (Bm f g n) (bK (f n) (g n))
theorem Bj (f g:Nat→Nat):∀n,Bm f g n<RM
 | 0=>fW
 | n+1=>cR _ _
def Jo (x:Nat):Nat:=bK (bK (bK x x) (bK x x)) x
def inv (x:Nat):Nat:=x^(RM-2)%RM
theorem LE (x:Nat):inv x<RM:=Nat.mod_lt _ fW
def rz (wd fl pt r:Nat):Nat:=if r<fl/2 then wd else if fl/2+pt≤r then wd else 1
def oS (g f:Nat→Nat) (j q:Nat):Nat:=if q<j then g q else f q
theorem YV (g f:Nat→Nat):oS g f 0=f:=funext fun q=>by unfold oS; rw[if_neg (by omega)]
def uY (xs:Nat→Nat) (wd r:Nat) (f:Nat→Nat) (q:Nat):Nat:=gS (f q) (xs (r*wd+q))
def QR (k:Nat) (f:Nat→Nat):Nat→Nat:=oS (fun q=>Jo (f q)) f k
def xK (wd:Nat) (f:Nat→Nat) (j:Nat):Nat:=Bm (fun q=>inv (wd+(j+q))) f wd
def rnd (xs:Nat→Nat) (wd fl pt r:Nat) (f:Nat→Nat):Nat→Nat:=xK wd (QR (rz wd fl pt r) (uY xs wd r f))
def gP (xs:Nat→Nat) (wd fl pt:Nat):Nat→(Nat→Nat)→Nat→Nat
 | 0,f=>f
 | r+1,f=>rnd xs wd fl pt r (gP xs wd fl pt r f)
theorem Ss (x:Nat):Jo x<RM:=aK _ _
theorem Fz (xs:Nat→Nat) (wd r:Nat) (f:Nat→Nat) (q:Nat):uY xs wd r f q<RM:=cR _ _
theorem Fy {k:Nat} {f:Nat→Nat} (h:∀q,f q<RM) (q:Nat):QR k f q<RM:=by
 unfold QR oS
 by_cases e:q<k
 ·rw[if_pos e]; exact Ss _
 ·rw[if_neg e]; exact h q
theorem OE (wd:Nat) (f:Nat→Nat) (j:Nat):xK wd f j<RM:=Bj _ _ _
theorem OO {xs:Nat→Nat} {wd fl pt:Nat} {f:Nat→Nat} (h:∀q,q<wd→f q<RM):∀r q,q<wd→gP xs wd fl pt r f q<RM
 | 0,q,hq=>h q hq
 | r+1,q,hq=>OE _ _ _
def FJ (ops:Array Oper):Bool:=ops.toList.all fun o=>match o.op with | .defer _=>false|_=>true
theorem YH {ops:Array Oper} (h:FJ ops=true) {i:Nat} {o:Oper} (ho:ops[i]?=some o):∀c,o.op ≠ .defer c:=by
 intro c hc;have hm:o∈ops.toList:=by
  have:ops.toList[i]?=some o:=by rw[Array.getElem?_toList]; exact ho
  exact List.mem_of_getElem? this
 have:=List.all_eq_true.1 h o hm;rw[hc]at this;cases this
abbrev rF (r:Option Nat):Fence:={ Fence.wide with round:=r }
theorem yB (r:Option Nat) (ρ:Operand→Value) (o:Oper) (h:∀c,o.op ≠ .defer c):Oper.semAt r ρ o=execOp ρ o:=by
 cases r with
 | none=>rfl
 | some l=>exact Oper.semAt_some l ρ o h
section
variable {r:Option Nat} {n:Nat} {P:Program}
theorem KH {o:Oper} {a:Act} {w:World} {K K':Act→World→Prop} {Q Q':Exit→Act→World→Prop} (hd:∀c,o.op ≠ .defer c)
  (hK:∀a w,K a w→K' a w) (hl:¬LetsOut Q) (hQ:∀e a w,e ≠ .normal→Q e a w→Q' e a w) (h:o.wp P a w K Q):o.wpIn (rF r) n P a w K' Q':=by
 refine⟨fun _ _=>trivial,?_⟩;show o.uponIn (rF r) n P a K' Q' ((o.semAt r a.eval).run P w);rw[yB r _ o hd];unfold Oper.wp at h;generalize (execOp a.eval o).run P w=res at h;cases res with
 | ok nx w' =>
  cases nx with
  | value v=>exact hK _ _ h
  | skip=>exact hK _ _ h
  | defer d=>exact hK _ _ h
  | enter f args =>
   refine⟨fun e=>absurd e (by simp[Fence.wide]),?_⟩;show CallsIn Fence.wide (n-1) P f args w' _;refine callsIn_wide.2 (Calls.mono h fun e w'' he => ?_);cases e with
   | returned v=>exact hK _ _ he
   | panicked c=>exact hQ _ _ _ (by simp) he
   | outgrown=>exact (hl he).elim
  | row row args =>
   refine⟨fun e=>absurd e (by simp[Fence.wide]),fun c cs _ => ?_⟩;obtain⟨v,w'',r1,s⟩:=h c cs;exact⟨v,w'',hK _ _ r1,stepsIn_wide.2 s⟩
  | _=>exact h.elim
 | halt x w' =>
  cases x with
  | panic v=>exact hQ _ _ _ (by simp) h
  | _=>exact h.elim
theorem yI {ops:Array Oper} {Q Q':Exit→Act→World→Prop} {R:List Nat} (hnd:FJ ops=true) (hl:¬LetsOut Q) (hn:∀a w,Q .normal a w→wpOpsIn (rF r) n P ops Q' R a w) (hQ:∀e a w,e ≠ .normal→Q e a w→Q' e a w) :
  ∀(l:List Nat) (a:Act) (w:World),wpOps P ops Q l a w→wpOpsIn (rF r) n P ops Q' (l++R) a w
 | [],a,w,h=>hn a w h
 | i::l,a,w,h=>by
  simp only[wpOps]at h;show wpOpsIn (rF r) n P ops Q' (i::(l++R)) a w;simp only[wpOpsIn];cases ho:ops[i]? with
  | none =>
   rw[ho]at h;exact yI hnd hl hn hQ l a w h
  | some o =>
   rw[ho]at h;simp only at h ⊢
   by_cases hw:Region.wanted o (yielded ops a.tmps)=true
   ·rw[if_pos hw]at h ⊢
    rcases h with h|⟨_,h⟩
    ·exact KH (YH hnd ho) (fun a w=>yI hnd hl hn hQ l a w) hl hQ h
    ·exact (hl h).elim
   ·rw[if_neg hw]at h ⊢;exact⟨fun _ _=>trivial,yI hnd hl hn hQ l _ w h⟩
def gL (K:Act→World→Prop):Exit→Act→World→Prop:=fun e a w=>e=.normal∧K a w
theorem oE {K:Act→World→Prop}:¬LetsOut (gL K):=by
 rintro⟨a,w,h,_⟩
 cases h
variable {nt base:Nat} {w0:World}
theorem OF {E:Env} {draw:Bool} {ops:Array Oper} {A A':List Fact} {ps:List Prop} {a:Act} {w:World} {Q:Exit→Act→World→Prop} (hm:E.P.follows .mixedOrders=true) (hT:∀d,TabOkW E.P (E.T d) base w0) (hq:bO E.P E.q base w0) (h:xM E draw ops A=some (ps,A')) (hps:aT ps) (hA:Holds E.nt base w0 A a w)
  (hQ:∀a w,Holds E.nt base w0 A' a w→Q .normal a w):(draw=false→wpOps E.P ops Q (List.range ops.size) a w)∧(draw=true→∀t,wpOps E.P ops Q (Region.schedule (E.P.follows .mixedOrders) ops t) a { w with drawn:=w.drawn+1 }):=by
 unfold xM at h;split at h
 ·rename_i ps' TF rs hrun;cases hc:(Do draw ops rs&&Dk draw ops)<;>rw[hc]at h
  ·cases h
  ·cases h;rw[Bool.and_eq_true]at hc;cases draw with
   | false =>
    refine⟨fun _ => ?_,fun e=>by cases e⟩;rw[List.range_eq_range'];exact AC hT hq hrun hps hc.1 (fun a w hI=>hQ a w (oO hrun (fun _ h=>h) hI)) ops.size 0 a w (by omega) (by
     have:(fun i=>i<0)=fun _:Nat=>False:=funext fun i=>propext ⟨fun h=>by omega,fun h=>h.elim⟩
     rw[this];exact jC hrun hA)
   | true =>
    refine⟨fun e=>absurd e (by simp[Fence.wide]),fun _ t => ?_⟩;simp only[Region.schedule,hm,Bool.true_or,if_true];refine wpAny_sound ops.size t _ a _ ?_;have hsz:∀n,fr n (Array.replicate ops.size false)=n:=fun n=>by
     induction n with
     | zero=>rfl
     | succ n ih=>unfold fr; rw[ih]; by_cases hn:n<ops.size<;>simp[Array.getD,hn]
    refine QC hT hq hrun hps hc.1 hc.2 (fun a w hI=>hQ a w (oO hrun (fun _ h=>h) hI)) ops.size _ a _ (by simp) (hsz _) ?_;have:(fun i=>(Array.replicate ops.size false).getD i false=true)=fun _:Nat=>False:=funext fun i=>propext (by by_cases hi:i<ops.size<;>simp[Array.getD,hi])
    rw[this];exact jC hrun hA.drew
 ·cases h
theorem JT {id:Nat} {q:EqT} {c:Cfg} {draw:Bool} {ops:Array Oper} {A K L:List Fact} {ps:List Prop} {Q:Exit→Act→World→Prop} (hm:P.follows .mixedOrders=true) (hT:∀d,TabOkW P (c.T d) base w0) (hq:bO P q base w0)
  (h:bE P q nt (fun _=>c) 1 (.region id ops draw) A K=some (ps,.nrm,L)) (hps:aT ps) (hnd:FJ ops=true) {a:Act} {w:World} (hA:Holds nt base w0 A a w)
  (hQ:∀a w,Holds nt base w0 L a w→Q .normal a w):(Code.region id ops draw).wpIn (rF r) n P Q a w:=by
 unfold bE at h;simp only[run]at h;split at h
 ·rename_i ps' e' A1 h1;split at h1
  ·rename_i p A2 h2;cases h1;split at h
   ·rename_i L' h3;cases h;have key:=OF (E:=Mh P q nt c) (Q:=gL fun a w=>Holds nt base w0 L a w) hm hT hq h2 hps hA fun a w hA1=>⟨rfl,hA1.sub (gK h3)⟩
    have fin:∀l a w,wpOps P ops (gL fun a w=>Holds nt base w0 L a w) l a w→wpOpsIn (rF r) n P ops Q l a w:=fun l a w hw=>by
     have:=yI (r:=r) (n:=n) (Q':=Q) (R:=[]) hnd oE (fun a w hK=>hQ a w hK.2) (fun e a w he hK=>(he hK.1).elim) l a w hw
     rwa [List.append_nil]at this
    cases draw with
    | false=>exact wpIn_region (fin _ _ _ (key.1 rfl))
    | true=>exact wpIn_region_draw fun t=>fin _ _ _ (key.2 rfl t)
   ·cases h
  ·cases h1
 ·cases h
theorem qO {s e:Nat} {q:EqT} {c:Cfg} {big:Array Oper} {A K L:List Fact} {ps:List Prop} {Q:Exit→Act→World→Prop} {R:List Nat} (hT:∀d,TabOkW P (c.T d) base w0) (hq:bO P q base w0) (h:eH P q nt c (big.extract s e) A K=some (ps,L)) (hps:aT ps)
  (hg:(big.extract s e).toList.all (fun o=>o.guard.isNone)=true) (hnd:FJ big=true) {a:Act} {w:World} (hA:Holds nt base w0 A a w)
  (hQ:∀a w,Holds nt base w0 L a w→wpOpsIn (rF r) n P big Q R a w):wpOpsIn (rF r) n P big Q (List.range' s (big.extract s e).size++R) a w:=by
 have h1:=aU (Q:=gL fun a w=>Holds nt base w0 L a w) (R:=[]) hT hq h hps hg hA fun a w hA=>⟨rfl,hA⟩
 rw[List.append_nil]at h1;exact yI hnd oE (fun a w hK=>hQ a w hK.2) (fun e a w he hK=>(he hK.1).elim) _ _ _ h1
theorem AS {big:Array Oper} {Q:Exit→Act→World→Prop} {R:List Nat} {i:Nat} {o:Oper} (ho:big[i]?=some o) (hg:o.guard=none) {a:Act} {w:World} (h:o.wpIn (rF r) n P a w (fun a w=>wpOpsIn (rF r) n P big Q R a w) Q):wpOpsIn (rF r) n P big Q (i::R) a w:=by
 simp only[wpOpsIn];rw[ho];simp only;have hw:∀y,Region.wanted o y=true:=fun y=>by unfold Region.wanted; rw[hg]
 rw[if_pos (hw _)];exact h
def _root_.Go.Act.md (a:Act) (d:List Deferred):Act:={ a with defers:=d }
def zT (o:Oper):Bool:=match o.op with
 | .move _=>true
 | .assign _=>true
 | .load _ _=>true
 | .extract _ _=>true
 | _=>false
theorem Ec {s:Sem Value} {w w':World} {nx:Next} (h:(do pure (.value (←s)):Sem Next).run P w=.ok nx w'):∃v,nx=.value v:=by
 rw[Sem.run_bind]at h;cases hs:s.run P w with
 | ok v w1 =>
  rw[hs]at h;simp only[Result.andThen_ok,Sem.run_pure]at h;injection h with h1 h2;exact⟨v,h1.symm⟩
 | halt x w1 =>
  rw[hs]at h;cases h
theorem VP {ρ:Operand→Value} {o:Oper} {w w':World} {nx:Next} (ht:zT o=true) (h:(execOp ρ o).run P w=.ok nx w'):∃v,nx=.value v:=by
 unfold execOp at h;cases ho:o.op<;>simp only[zT,ho]at ht<;>first
  | (cases ht; done)
  | (simp only[ho]at h; exact Ec h)
  | (simp only[ho,Sem.run_pure]at h; injection h with h1 h2; exact⟨_,h1.symm⟩)
def KN (ops:Array Oper):Bool:=ops.toList.all zT
theorem RS {ops:Array Oper} (h:KN ops=true) {i:Nat} {o:Oper} (ho:ops[i]?=some o):zT o=true:=by
 have hm:o∈ops.toList:=by
  have:ops.toList[i]?=some o:=by rw[Array.getElem?_toList]; exact ho
  exact List.mem_of_getElem? this
 exact List.all_eq_true.1 h o hm
theorem AQ {d:List Deferred} {ops:Array Oper} {K:Act→World→Prop} {Q:Exit→Act→World→Prop} (ht:KN ops=true) (hn:∀a w,K a w→Q .normal (a.md d) w) :
  ∀(l:List Nat) (a:Act) (w:World),wpOps P ops (gL K) l a w→wpOps P ops Q l (a.md d) w
 | [],a,w,h=>hn a w h.2
 | i::l,a,w,h=>by
  simp only[wpOps]at h ⊢;have hp:∀(o:Oper) v,(a.md d).put o.dst v=(a.put o.dst v).md d:=fun o v=>by cases o.dst<;>rfl
  cases ho:ops[i]? with
  | none =>
   rw[ho]at h;exact AQ ht hn l a w h
  | some o =>
   rw[ho]at h;simp only at h ⊢;have hy:(a.md d).tmps=a.tmps:=rfl;rw[hy]
   by_cases hw:Region.wanted o (yielded ops a.tmps)=true
   ·rw[if_pos hw]at h ⊢
    rcases h with h|⟨_,h⟩
    ·refine Or.inl ?_;unfold Oper.wp at h ⊢;have he:(a.md d).eval=a.eval:=rfl;rw[he];cases hres:(execOp a.eval o).run P w with
     | ok nx w' =>
      obtain⟨v,rfl⟩:=VP (RS ht ho) hres;rw[hres]at h;show wpOps P ops Q l ((a.md d).put o.dst v) w';rw[hp];exact AQ ht hn l _ _ h
     | halt x w' =>
      rw[hres]at h;cases x with
      | panic v=>cases h.1
      | _=>exact h.elim
    ·exact (oE h).elim
   ·rw[if_neg hw]at h ⊢;rw[hp];exact AQ ht hn l _ _ h
theorem WR {id:Nat} {d:List Deferred} {q:EqT} {c:Cfg} {ops:Array Oper} {A K L:List Fact} {ps:List Prop} {Q:Exit→Act→World→Prop} (hm:P.follows .mixedOrders=true) (hT:∀d,TabOkW P (c.T d) base w0) (hq:bO P q base w0)
  (h:bE P q nt (fun _=>c) 1 (.region id ops false) A K=some (ps,.nrm,L)) (hps:aT ps) (ht:KN ops=true) {a:Act} {w:World} (hA:Holds nt base w0 A a w)
  (hQ:∀a w,Holds nt base w0 L a w→Q .normal (a.md d) w):(Code.region id ops false).wp P Q (a.md d) w:=by
 unfold bE at h;simp only[run]at h;split at h
 ·rename_i ps' e' A1 h1;split at h1
  ·rename_i p A2 h2;cases h1;split at h
   ·rename_i L' h3;cases h;have key:=OF (E:=Mh P q nt c) (Q:=gL fun a w=>Holds nt base w0 L a w) hm hT hq h2 hps hA fun a w hA1=>⟨rfl,hA1.sub (gK h3)⟩
    exact wp_region (AQ ht hQ _ _ _ (key.1 rfl))
   ·cases h
  ·cases h1
 ·cases h
theorem xX {g:Operand} {ps:Array Tmp} {assign body:Code} {Q:Exit→Act→World→Prop} {a:Act} {w:World} {gf:Nat} {lb:Array Value} (hg:a.eval g=.func (.func gf) #[] lb) (eg:∀args w,(callFunc gf args).run P w=.ok (.enter gf args) w)
  (h:∀fn,Calls P gf (#[.func (.yield (w.heap.size+1)) #[] #[]]++lb) ((w.alloc (.deferred (some []))).alloc (.loop { state:=.ready,pending:=none,fn,tmps:=a.tmps,params:=ps,assign,body,defers:=w.heap.size })) fun e W'=>∃v rec,e=.returned v∧W'.heap[w.heap.size+1]?=some (.loop rec)∧rec.state ≠ .busy∧rec.pending=none∧Q .normal (a.md ({ target:=.collected w.heap.size,args:=#[] }::a.defers)) (W'.putObj (w.heap.size+1) (.loop { rec with state:=.exhausted }))) :
  (Code.rangeFunc g ps assign body).wp P Q a w:=by
 refine (wpIn_wide (n:=0)).1 (wpIn_rangeFunc fun fn _ => ?_);have h0:=h fn;have he:=run_enterLoop_outer (P:=P) (w:=w) fn a.tmps ps assign body;generalize hW1:(w.alloc (.deferred (some []))).alloc (.loop { state:=.ready,pending:=none,fn,tmps:=a.tmps,params:=ps,assign,body,defers:=w.heap.size })=W1 at h0 he;refine⟨w.heap.size+1,[{ target:=.collected w.heap.size,args:=#[] }],W1,{ target:=.fn (.func gf) lb,args:=#[.func (.yield (w.heap.size+1)) #[] #[]] },W1,gf,#[.func (.yield (w.heap.size+1)) #[] #[]]++lb,W1,he,?_,fun _ _=>trivial,?_,fun e=>absurd e (by simp[Fence.wide]),?_⟩
 ·simp only[resolve,hg];simp[go_sem]
 ·simp[invoke,go_sem,eg]
 ·refine callsIn_wide.2 (Calls.mono h0 ?_)
  rintro e W' ⟨v,rec,rfl,h1,h2,h3,h4⟩
  refine⟨none,_,?_,h4⟩;rw[run_endLoop (P:=P) h1 h2];exact congrArg (fun p=>Result.ok p _) h3
end
def yL (k:Nat):Fact→Bool
 | .row k' _ _ => !(Nat.beq k' k)
 | _=>true
theorem YG {k:Nat} {o:Bool} {l:List At} (h:yL k (.row k o l)=true):False:=by
 have h:(!(Nat.beq k k))=true:=h;rw[Nat.beq_refl]at h;cases h
theorem Holds.wr {nt base:Nat} {w0:World} {A:List Fact} {a:Act} {w:World} (h:Holds nt base w0 A a w) {k b o:Nat} {l l':List At} {vs:List Value} (h1:Fact.row k true l∈A) (h2:Fact.at k b∈A) (hlen:o+vs.length≤dD l)
  (hl:∀j v,(aA l')[j]?=some v→(o≤j∧vs[j-o]?=some v)∨((j<o∨o+vs.length≤j)∧(aA l)[j]?=some v)) :
  Holds nt base w0 (.row k true l'::A.filter (yL k)) a (w.setCells b o vs):=by
 obtain⟨β,g1,g2,g3,gt⟩:=h.facts;obtain⟨e1,e2,e3,_⟩:=g1 _ h1;obtain⟨e4,e5,e6⟩:=e3 rfl;have e7:=g1 _ h2;simp only[Fact.ok]at e7;obtain⟨rfl,_⟩:=e7;rw[e5]at e2;have old:∀φ,φ∈A.filter (yL k)→φ∈A∧yL k φ=true:=fun φ hφ=>List.mem_filter.1 hφ
 have hth:∀q,q<vs.length→(w.cell? ⟨(β k).1,o+q,none⟩).isSome=true:=fun q hq=>by
  have hlt:o+q<(aA l).length:=by rw[aL]; omega
  have:=e2 (o+q) ((aA l)[o+q]'hlt) (List.getElem?_eq_getElem _);rw[Nat.zero_add]at this;rw[this]; rfl
 have up:∀k1 o1 l1,Fact.row k1 o1 l1∈(Fact.row k true l'::A.filter (yL k))→∃l2,Fact.row k1 o1 l2∈A:=fun k1 o1 l1 e=>by
  rcases List.mem_cons.1 e with e|e
  ·cases e; exact⟨_,h1⟩
  ·exact⟨_,(old _ e).1⟩
 refine⟨h.defers,h.size,fE e4 _ _ _ _ h.below,by rw[cH]; exact h.heap,β,fun φ hφ => ?_,fun k1 k2 o2 l1 l2 q1 q2 hne => ?_,fun k1 l1 e => ?_,?_⟩
 ·rcases List.mem_cons.1 hφ with rfl|hφ
  ·refine⟨by rw[cH]; exact e1,fun j v hj => ?_,fun _=>⟨e4,e5,fun j=>by rw[World.frozen?_setCells]; exact e6 j⟩,fun h=>by cases h⟩;rw[e5,Nat.zero_add]
   rcases hl j v hj with⟨q1,q2⟩|⟨q1,q2⟩
   ·have hlt:j-o<vs.length:=(List.getElem?_eq_some_iff.1 q2).1;have:=World.cell?_setCells_in (β k).1 vs o w hth (j-o) hlt;rw[show o+(j-o)=j by omega]at this;rw[this,←q2,List.getElem?_eq_getElem hlt]
   ·rw[World.cell?_setCells_out _ _ _ _ _ (fun _ _=>q1)];have:=e2 j v q2
    rwa [Nat.zero_add]at this
  ·obtain⟨hin,hno⟩:=old _ hφ;have e:=g1 φ hin;cases φ with
   | slot s v=>exact e
   | row k1 ow l1 =>
    obtain⟨q1,q2,q3,q4⟩:=e;have hk:k≠k1:=fun hk=>by subst hk; exact YG hno
    have hb:=g2 k k1 ow l l1 h1 hin hk;refine⟨by rw[cH]; exact q1,fun j v hj => ?_,fun ho => ?_,fun _=>trivial⟩
    ·rw[World.cell?_setCells_out _ _ _ _ _ (fun q _=>absurd q.symm hb)];exact q2 j v hj
    ·obtain⟨r1,r2,r3⟩:=q3 ho;exact⟨r1,r2,fun j=>by rw[World.frozen?_setCells]; exact r3 j⟩
   | «at» k1 b1=>exact e
   | app k1 e' sz n=>exact AppAt.shape (cW _ _ _ _) e
 ·obtain⟨m1,r1⟩:=up _ _ _ q1;obtain⟨m2,r2⟩:=up _ _ _ q2;exact g2 k1 k2 o2 m1 m2 r1 r2 hne
 ·obtain⟨m1,r1⟩:=up _ _ _ e;exact g3 k1 m1 r1
 ·refine⟨by rw[cH]; exact gt.size,fun p p1 p2 => ?_,gt.shape.trans (cW _ _ _ _)⟩;have hne:p.block≠(β k).1:=by
   rcases g3 k l h1 with q|q<;>omega
  rw[World.cell?_setCells_out _ _ _ _ _ (fun q _=>absurd q hne),World.frozen?_setCells];exact gt.mem p p1 p2
section
variable {P:Program} {n:Nat}
theorem CP {o:Oper} {a:Act} {w:World} {K:Act→World→Prop} {Q:Exit→Act→World→Prop} {x:Operand} {xs:Array Operand} {ts:Array TypeId} {l:Nat} {vs:Array Value} {rec:Loop} (ho:o.op=.call ⟨.value x,xs,ts⟩) (hx:a.eval x=.func (.yield l) #[] #[]) (hv:xs.map a.eval=vs)
  (hl:w.heap[l]?=some (.loop rec)) (hs:vs.size=rec.params.size)
  (hR:RoundIn Fence.wide (n-1) P l rec.fn ((rec.params.zip vs).foldl (fun t (p,v)=>t.setIfInBounds p v) rec.tmps) rec.assign rec.body w fun e W'=>∃v,e=.returned v∧K (a.put o.dst v) W'):o.wpIn (rF none) n P a w K Q:=by
 refine⟨fun _ _=>trivial,?_⟩;show o.uponIn (rF none) n P a K Q ((o.semAt none a.eval).run P w);rw[yB none _ o (fun c h=>by rw[ho]at h; cases h)];have hy:=run_yield (P:=P) (args:=vs) hl hs;have hrun:(execOp a.eval o).run P w=.ok (.round l rec.fn ((rec.params.zip vs).foldl (fun t (p,v)=>t.setIfInBounds p v) rec.tmps) rec.assign rec.body) w:=by
  simp[execOp,ho,resolve,Deferred.ofValue,hx,hv,invoke,hy]
 rw[hrun];refine⟨fun e=>absurd e (by simp[Fence.wide]),hR.mono ?_⟩
 rintro e W' ⟨v,rfl,hK⟩
 exact hK
theorem DN {l:Nat} {fn:FuncId} {tmps:Array Value} {assign body:Code} {w:World} {R:Ending→World→Prop} {K0:Act→World→Prop} (ha:assign.wpIn (rF (some l)) n P (gL K0) { tmps:=tmps,defers:=[] } w)
  (h:∀a1 w1,K0 a1 w1→∃rec,w1.heap[l]?=some (.loop rec)∧rec.state=.ready∧body.wpIn (rF (some l)) n P (gL fun _ W3=>∃rec3,W3.heap[l]?=some (.loop rec3)∧R (.returned (.bool true)) (W3.putObj l (.loop { rec3 with state:=.ready,pending:=none }))) a1 (w1.putObj l (.loop { rec with state:=.busy }))) :
  RoundIn Fence.wide n P l fn tmps assign body w R:=by
 refine roundIn_of_wpIn (F:=Fence.wide) trivial (wpIn_mono ha ?_)
 rintro e a1 w1 ⟨rfl,hK⟩
 obtain⟨rec,h1,h2,h3⟩:=h a1 w1 hK;refine⟨_,run_beginRound h1 h2,wpIn_mono h3 ?_⟩
 rintro e a3 W3 ⟨rfl,rec3,h4,h5⟩
 exact⟨_,_,run_endRound none h4,h5⟩
end
theorem kR {w:World} {l:Nat} {r:Loop} {o:Obj} (h:w.heap[l]?=some (.loop r)) {p:Addr} (hp:p.block≠l):(w.putObj l o).cell? p=w.cell? p∧(w.putObj l o).frozen? p=w.frozen? p :=
 ⟨World.cell?_of_block (World.putObj_heap_other hp),World.frozen?_of_block (World.putObj_heap_other hp)⟩
theorem kQ {w:World} {l:Nat} {r:Loop} {o:Obj} (h:w.heap[l]?=some (.loop r)) {b s:Nat} {vs:List Value} (hb:b≠l) (hr:w.rangeAt b s vs):(w.putObj l o).rangeAt b s vs:=fun j v hj=>by
 rw[(kR h (p:=⟨b,s+j,none⟩) hb).1]; exact hr j v hj
theorem fZ {B l:Nat} {w0 w:World} (h:Below B w0 w) (hB:B≤l) (o:Obj):Below B w0 (w.putObj l o) :=
 ⟨h.os,h.tape,h.output,by rw[World.putObj_size]; exact h.size,fun k hk=>(World.putObj_heap_other (by omega)).trans (h.block k hk)⟩
end Go.Proofs.YtpbljiejmfahcaaGreatDoor.Ex
namespace Go.Proofs.YtpbljiejmfahcaaGreatDoor
open Go.Proofs.Tryz
open Go.RowKit
def xS (B:Nat→Nat) (s:Nat):Nat→Nat
 | 0=>0
 | n+1=>xS B s n*256+B (s+n)
theorem vX {B:Nat→Nat} (hB:∀k,B k<256) (s:Nat):∀n,xS B s n<256^n
 | 0=>by simp[xS]
 | n+1=>by
  have h1:=vX hB s n;have h2:=hB (s+n);show xS B s n*256+B (s+n)<256^n*256;omega
theorem yP (B:Nat→Nat) (s n:Nat):∀m,xS B s (n+m)=xS B s n*256^m+xS B (s+n) m
 | 0=>by simp[xS]
 | m+1=>by
  show xS B s (n+m)*256+B (s+(n+m))=xS B s n*(256^m*256)+(xS B (s+n) m*256+B (s+n+m));rw[yP B s n m,Nat.add_mul,Nat.mul_assoc,Nat.add_assoc s n m,Nat.add_assoc]
theorem NT (B:Nat→Nat) (s:Nat):∀n,eR 256 (fun k=>B (s+n-1-k)) n=xS B s n
 | 0=>rfl
 | n+1=>by
  rw[xZ];show B (s+(n+1)-1-0)+256*eR 256 (fun k=>B (s+(n+1)-1-(1+k))) n=xS B s n*256+B (s+n);have e:(fun k=>B (s+(n+1)-1-(1+k)))=fun k=>B (s+n-1-k):=by
   funext k; congr 1; omega
  rw[e,NT B s n,Nat.mul_comm,show s+(n+1)-1-0=s+n by omega];omega
def gZ (A p:Nat):Nat:=A/256^(31-p)%256
theorem TK (A p:Nat):gZ A p<256:=Nat.mod_lt _ (by omega)
theorem yQ (A:Nat) (h:A<256^32):∀n,n≤32→xS (gZ A) 0 n=A/256^(32-n)
 | 0,_=>by
  show 0=_;rw[Nat.div_eq_of_lt (by simpa using h)]
 | n+1,hn=>by
  show xS (gZ A) 0 n*256+gZ A (0+n)=_;rw[yQ A h n (by omega),Nat.zero_add];unfold gZ;rw[show 32-n=(32-(n+1))+1 by omega,show 31-n=32-(n+1) by omega,Nat.pow_succ,←Nat.div_div_eq_div_mul];generalize A/256^(32-(n+1))=X;omega
theorem Aa {A:Nat} (h:A<115792089237316195423570985008687907853269984665640564039457584007913129639936):xS (gZ A) 0 32=A:=by
 have:=yQ A (by simpa using h) 32 (by omega);simpa using this
theorem aAR {i:Nat} (h:i<32):∃j m s p:Nat,(i:Int)/8=(j:Int)∧(i:Int)%8=(m:Int)∧(m:Int)*8=(s:Int)∧(31:Int)-(i:Int)=(p:Int)∧j<4∧m<8∧s≤56∧p<32∧Hid (i=8*j+m∧s=8*m∧p=31-i) :=
 ⟨i/8,i%8,i%8*8,31-i,by omega,by omega,by omega,by omega,by omega,by omega,by omega,by omega,Lib.hid (by omega)⟩
theorem VG (R:Nat) (P:Nat→Nat) (j:Nat):∀n,j<n→P j*R^j≤eR R P n
 | 0,h=>absurd h (by omega)
 | n+1,h=>by
  rw[cP]
  rcases Nat.lt_or_ge j n with hj|hj
  ·have:=VG R P j n hj; omega
  ·obtain rfl:j=n:=by omega
   omega
theorem QX {P:Nat→Nat} {V i j m s d:Nat} (hj:j<4) (hm:m<8) (e:i=8*j+m) (es:s=8*m) (hV:eR 18446744073709551616 P 4=V) (hlt:V<256^i):P j<2^s∧eR 18446744073709551616 (iG P j (P j+d*2^s)) 4=V+d*256^i:=by
 have e1:256^i=18446744073709551616^j*2^s:=by
  rw[e,es,Nat.pow_add,Nat.pow_mul,Nat.pow_mul]
 refine⟨?_,?_⟩
 ·have h1:=VG 18446744073709551616 P j 4 hj;rw[hV]at h1;have h2:=Nat.lt_of_le_of_lt h1 hlt;rw[e1,Nat.mul_comm]at h2;exact Nat.lt_of_mul_lt_mul_left h2
 ·have h:=pZ 18446744073709551616 P j (P j+d*2^s) 4 hj;rw[Nat.add_mul]at h;rw[e1,Nat.mul_comm (18446744073709551616^j),←Nat.mul_assoc,←hV];omega
theorem Sv {x d s:Nat} (hd:d<256) (hs:s≤56) (hx:x<2^s):∃u z:Nat,IntKind.u64.wrap ((d:Int)*2^s)=(u:Int)∧bits .or .u64 (x:Int) (u:Int)=(z:Int)∧u<18446744073709551616∧z<18446744073709551616∧Hid (z=x+d*2^s):=by
 have h1:d*2^s<18446744073709551616:=by
  have a:=Nat.mul_lt_mul_of_pos_right hd (Nat.two_pow_pos s);have b:256*2^s≤18446744073709551616:=by
   rw[show (256:Nat)=2^8 from rfl,←Nat.pow_add,show 18446744073709551616=2^64 by simp];exact Nat.pow_le_pow_right (by omega) (by omega)
  omega
 have h2:x<18446744073709551616:=Nat.lt_of_lt_of_le hx (by
  rw[show 18446744073709551616=2^64 by simp]; exact Nat.pow_le_pow_right (by omega) (by omega))
 obtain⟨z,e1,e2,e3⟩:=nH (k:=s) h2 h1 (Lib.hid hx) (Lib.hid ⟨d,Nat.mul_comm _ _⟩);exact⟨d*2^s,z,by rw[fL,kJ _ h1],e1,h1,e2,e3⟩
def RowB (w:World) (b n:Nat) (P:Nat→Nat):Prop:=∀k,k<n→w.cell? ⟨b,k,none⟩=some (.int .u8 (P k:Nat))∧w.frozen? ⟨b,k,none⟩=false
theorem RowB.below {w w':World} {b n:Nat} {P:Nat→Nat} (h:RowB w b n P) {B:Nat} (hb:Below B w w') (hB:b<B):RowB w' b n P:=fun k hk =>
 ⟨(hb.cell (p:=⟨b,k,none⟩) hB).trans (h k hk).1,(hb.frozen (p:=⟨b,k,none⟩) hB).trans (h k hk).2⟩
theorem RowB.set {w:World} {b n i v:Nat} {P:Nat→Nat} (h:RowB w b n P) (hi:i<n):RowB (w.setCell ⟨b,i,none⟩ (.int .u8 (v:Nat))) b n (iG P i v):=by
 intro k hk;refine⟨?_,by rw[World.frozen?_setCell]; exact (h k hk).2⟩;unfold iG
 by_cases e:k=i
 ·subst e; rw[if_pos rfl]; exact World.cell?_setCell_same (h:=(h k hk).1) ..
 ·rw[if_neg e,World.cell?_setCell_other (h:=fun he=>e (by simpa using (congrArg Addr.off he).symm)) ..]; exact (h k hk).1
theorem RowB.other {w:World} {b n i:Nat} {P:Nat→Nat} (h:RowB w b n P) {c:Nat} (hc:c≠b) (x:Value):RowB (w.setCell ⟨c,i,none⟩ x) b n P:=by
 intro k hk;exact⟨by rw[World.cell?_setCell_other (h:=fun he=>hc (by simpa using congrArg Addr.block he)) ..]; exact (h k hk).1,by rw[World.frozen?_setCell]; exact (h k hk).2⟩
theorem RowB.drewN {w:World} {b n:Nat} {P:Nat→Nat} (h:RowB w b n P) (m:Nat):RowB (w.drewN m) b n P:=h
theorem RowB.ext {w:World} {b n:Nat} {P R:Nat→Nat} (h:RowB w b n P) (e:∀k,k<n→P k=R k):RowB w b n R:=fun k hk=>⟨by rw[←e k hk]; exact (h k hk).1,(h k hk).2⟩
def lE (P:Nat→Nat→Prop) (w:World) (e:Ending) (w':World):Prop :=
 ∃s0 s1 s2 s3 c:Nat,e=.returned (.tuple #[.agg #[.int .u64 s0,.int .u64 s1,.int .u64 s2,.int .u64 s3],.int .i64 c])∧cC s0 s1 s2 s3∧P (aC s0 s1 s2 s3) c∧Below w.heap.size w w'
set_option maxHeartbeats 1000000 in
theorem Gc (g off cap:Nat) (B:Nat→Nat) (hB:∀k,B k<256) (w:World) (hg:g<w.heap.size) (hc:∀k,k<32→w.cell? ⟨g,off+k,none⟩=some (.int .u8 (B k:Nat))) :
  Calls prog 27 #[.slice (some ⟨g,off,none⟩) 32 cap] w (lE (fun n c=>n=xS B 0 32∧c=0) w):=by
 have HC:=Lib.hid hc;have HB:=Lib.hid hB;have HE:=Lib.hid (NT B 0 32);have HT:=Lib.hid (fun i=>zQ 256 (fun k=>B (0+32-1-k)) (by omega) i (fun k _=>hB _));clear hc hB;generalize eD:(fun k=>B (0+32-1-k))=D at *;have hD:∀i p,i<32→p=31-i→B p=D i:=fun i p hi hp=>by
  rw[←eD,hp]
 have HD:=Lib.hid hD;clear hD eD
 go_enter func27,ntmps27
 go_wp2_with fail;have R0:=Lib.hid (Row4.new (w.alloc (.cells #[.int .u64 0,.int .u64 0,.int .u64 0,.int .u64 0] 24)) 0 0 0 0 24).rows;have Z0:=Lib.hid ((Row4.new w 0 0 0 0 24).alloc (by simp) (.cells #[.int .u64 0,.int .u64 0,.int .u64 0,.int .u64 0] 24))
 go_loopw [10] (fun x wr=>∃(i:Nat) (P:Nat→Nat),i≤32∧x=.int .i64 i∧(∀k,P k<18446744073709551616)∧Hid (eR 18446744073709551616 P 4=eR 256 D i)∧RowIs wr (w.heap.size+1) 4 P∧Row4 wr w.heap.size 0 0 0 0∧Below w.heap.size w wr∧w.heap.size+1<wr.heap.size) (fun x _=>32-(intOf x).toNat)
 case atStart =>
  refine⟨0,dL [0,0,0,0],by omega,rfl,fun k=>LR ⟨by omega,by omega,by omega,by omega⟩ k,Lib.hid rfl,by simpa using R0.out,Z0.out,?_,by simp⟩;exact ((Below.refl _ _).alloc (Nat.le_refl _) _).alloc (by simp) _
 case round =>
  obtain⟨i,P,hi,rfl,lP,tP,rP,z0,hb,hz⟩:=hrel;have HBl:=Lib.hid hb;have HZ:=Lib.hid z0;have HlP:=Lib.hid lP;have HR:=Lib.hid rP
  by_cases hlt:i<32
  ·obtain⟨j,m,s,p,q1,q2,q3,q4,hj,hm,hs,hp,e⟩:=aAR hlt;have cx:=rP.cell hj;have fx:=rP.free hj;have cb:wr.cell? ⟨g,off+p,none⟩=some (.int .u8 (B p:Nat)):=(hb.cell (p:=⟨g,off+p,none⟩) hg).trans (HC.out p hp);have lb:=HB.out p;have hbD:=HD.out i p hlt e.out.2.2;have st:=QX (d:=D i) hj hm e.out.1 e.out.2.1 tP.out (HT.out i);obtain⟨u,z,e1,e2,lu,lz,ez⟩:=Sv lb hs st.1;have HN:=Lib.hid (show eR 18446744073709551616 (iG P j z) 4=eR 256 D (i+1) by
    rw[ez.out,hbD,st.2,cP])
   have lx:=lP j;generalize P j=x at *;generalize B p=b at *;clear z0 hb rP lP tP st hbD e ez;go_wp2_with fail
   go_region
   go_wp2_with fail
   go_roundw
   case rel=>exact⟨i+1,iG P j z,by omega,by go_num,fun k=>by unfold iG; split; exact lz; exact HlP.out k,HN,(HR.out.drewN 1).set hj,(HZ.out.drewN 1).other (by omega) _,(HBl.out.drew).setCell (p:=⟨w.heap.size+1,j,none⟩) (by simp) _,by show _<(wr.setCell _ _).heap.size; rw[World.size_setCell]; exact hz⟩
   case measure=>first|(simp[intOf]; done)|(simp[intOf]; omega)
  ·obtain rfl:i=32:=by omega
   have HF:=Lib.hid ((iF P).trans (tP.out.trans HE.out));have c0:=rP.cell (show 0<4 by omega); have c1:=rP.cell (show 1<4 by omega); have c2:=rP.cell (show 2<4 by omega); have c3:=rP.cell (show 3<4 by omega);have k0:=z0.c0; have k1:=z0.c1; have k2:=z0.c2; have k3:=z0.c3; have kf:=z0.fr;have l0:=lP 0; have l1:=lP 1; have l2:=lP 2; have l3:=lP 3;clear rP z0 hb lP tP;go_wp2_with fail;refine bodyPost_ret (v:=.tuple #[.agg #[.int .u64 (P 0),.int .u64 (P 1),.int .u64 (P 2),.int .u64 (P 3)],.int .i64 0]) (by simp[results,results27,go_sem, *]) rfl ?_;exact⟨P 0,P 1,P 2,P 3,0,rfl,⟨l0,l1,l2,l3⟩,⟨HF.out,rfl⟩,bF HBl.out (by omega) _ _ _ _⟩
end Go.Proofs.YtpbljiejmfahcaaGreatDoor
namespace Go.Proofs.YtpbljiejmfahcaaGreatDoor.Ex
open Go.Proofs.Tryz
open Go.RowKit
def gU (x:Nat):List At:=[.c (.int .u8 (Int.ofNat x))]
def Mw (N:Nat):List At:=bP (fun k=>gU (gZ N k)) 0 32
theorem oL {f:Nat→Nat}:∀(n s j:Nat),j<n→(aA (bP (fun k=>gU (f k)) s n))[j]?=some (.int .u8 (Int.ofNat (f (s+j))))
 | n+1,s,0,_=>rfl
 | n+1,s,j+1,h=>by
  show (aA (gU (f s)++bP (fun k=>gU (f k)) (s+1) n))[j+1]?=_;rw[aJ];show ([Value.int .u8 (Int.ofNat (f s))]++aA (bP (fun k=>gU (f k)) (s+1) n))[j+1]?=_;rw[show s+(j+1)=s+1+j by omega];exact oL n (s+1) j (by omega)
theorem sU {f:Nat→Nat} (n s:Nat):(aA (bP (fun k=>gU (f k)) s n)).length=n:=by
 rw[aL,fJ (c:=1) (fun _=>rfl)]; omega
def BM (w:World) (g o n:Nat) (f:Nat→Nat):Prop:=g<w.heap.size∧(∀j,f j<256)∧∀j,j<n→w.cell? ⟨g,o+j,none⟩=some (.int .u8 (Int.ofNat (f j)))
theorem BM.on {w w':World} {g o n:Nat} {f:Nat→Nat} (h:BM w g o n f) (hb:Below w.heap.size w w'):BM w' g o n f :=
 ⟨Nat.lt_of_lt_of_le h.1 hb.size,h.2.1,fun j hj=>(hb.cell (p:=⟨g,o+j,none⟩) h.1).trans (h.2.2 j hj)⟩
abbrev hN (f:Nat→Nat) (n:Nat):Nat:=Go.Proofs.YtpbljiejmfahcaaGreatDoor.xS f 0 n
theorem aAt {f:Nat→Nat} (hf:∀j,f j<256) {n:Nat} (hn:n≤32):hN f n<aF:=by
 have h1:=vX hf 0 n;have h2:256^n≤256^32:=Nat.pow_le_pow_right (by omega) hn;exact Nat.lt_of_lt_of_le h1 (Nat.le_trans h2 (by decide))
theorem aEO {f:Nat→Nat} (hf:∀j,f j<256) {n:Nat} (hn:n≤31):hN f n<RM:=by
 have h1:=vX hf 0 n;have h2:256^n≤256^31:=Nat.pow_le_pow_right (by omega) hn;exact Nat.lt_of_lt_of_le h1 (Nat.le_trans h2 (by decide))
theorem It {f:Nat→Nat} (hf:∀j,f j<256) {n k:Nat} (hn:n≤32) (hk:k<32):gZ (hN f n) k=if k<32-n then 0 else f (k-(32-n)):=by
 unfold gZ hN
 by_cases h:k<32-n
 ·rw[if_pos h];have h1:=vX hf 0 n;have h2:256^n≤256^(31-k):=Nat.pow_le_pow_right (by omega) (by omega);rw[Nat.div_eq_of_lt (Nat.lt_of_lt_of_le h1 h2)]
 ·rw[if_neg h];obtain⟨a,ha⟩:∃a,n=(a+1)+(31-k):=⟨k-(32-n),by omega⟩
  have hsp:=yP f 0 (a+1) (31-k);rw[←ha]at hsp;have hlt:=vX hf (0+(a+1)) (31-k);rw[hsp,Nat.mul_comm,Nat.mul_add_div (Nat.pow_pos (by omega)),Nat.div_eq_of_lt hlt,Nat.add_zero];show (Go.Proofs.YtpbljiejmfahcaaGreatDoor.xS f 0 a*256+f (0+a))%256=_;rw[Nat.mul_comm,Nat.mul_add_mod,Nat.mod_eq_of_lt (hf _),show k-(32-n)=0+a by omega]
def Ix (N:Nat):gE
 | [.s l 32 m]=>some ([aA l=aA (Mw N),N<aF],.many [.fl [.q N],.im (.int .i64 0)])
 | _=>none
theorem Iw (N:Nat):∀cs pre r,Ix N cs=some (pre,r)→aT pre→∀(args:List Value) (w:World),cD w cs args→bD prog 27 r args w:=by
 intro cs pre r hg hp args w ha;unfold Ix at hg;split at hg
 ·rename_i l m;cases hg;obtain⟨h1,h2,_⟩:=hp
  match args,ha with
  | [v],ha =>
   obtain⟨b,o,rfl,hb,hr⟩:=ha.1;have h:=Gc b o m (gZ N) (TK N) w hb fun k hk=>hr k _ (by rw[h1]; have:=oL (f:=gZ N) 32 0 k hk; rwa [Nat.zero_add]at this)
   refine h.mono ?_
   rintro e w' ⟨s0,s1,s2,s3,c',rfl,hs,⟨h3,rfl⟩,hbl⟩
   rw[Aa h2]at h3;obtain⟨rfl,rfl,rfl,rfl⟩:=jN hs h2 h3;exact⟨rfl,hbl⟩
  | [],ha=>exact ha.elim
  | _::_::_,ha=>exact ha.2.elim
 ·cases hg
theorem Holds.ptV {nt base:Nat} {w0:World} {A:List Fact} {a:Act} {w:World} (h:Holds nt base w0 A a w) {s k o b:Nat} (h1:Fact.slot s (.pt k o)∈A) (h2:Fact.at k b∈A):a.eval (.tmp s)=ptV b o:=by
 obtain⟨β,g1,_⟩:=h.facts;have e1:=g1 _ h1;have e2:=g1 _ h2;simp only[Fact.ok]at e1 e2;simp[Act.eval,e1,AV.den,e2,Go.Proofs.YtpbljiejmfahcaaGreatDoor.Ex.ptV]
theorem Holds.imV {nt base:Nat} {w0:World} {A:List Fact} {a:Act} {w:World} (h:Holds nt base w0 A a w) {s:Nat} {v:Value} (h1:Fact.slot s (.im v)∈A):a.eval (.tmp s)=v:=by
 have e1:=h.slot h1;simp[Act.eval,e1]
theorem EE {A:List Fact} {d:Nat} (h:A.all (fun φ => !(jA (some d) none φ))=true):∀φ∈A,jA (some d) none φ=false:=fun φ hφ=>by
 have:=List.all_eq_true.1 h φ hφ;simpa using this
def tC (T:Tab) (num:Nat→Option Value):Cfg:=⟨fun _=>T,fun _=>true,num⟩
theorem Lu:(prog.info? 5).map (·.size)=some 1:=by kernel_rfl
theorem zO:prog.underlying 25=some (.slice 5):=by kernel_rfl
theorem Ee:prog.underlying 160=some (.array 32 5):=by kernel_rfl
theorem JK (w:World):(sizeOf 5).run prog w=.ok 1 w:=by
 have h:=Lu;cases hq:prog.info? 5 with
 | none=>rw[hq]at h; cases h
 | some i =>
  rw[hq]at h;have:i.size=1:=by simpa using h
  simp[sizeOf,typeInfo,hq,this]
def pL:Code:=(f88.body).getD .skip
def YJ:Code:=cB (cB pL)
noncomputable abbrev Ve:Nat:=f88.ntmps
theorem Hn:pL=.seq (cA pL) (.seq (cA (cB pL)) (.seq (.region 2 (aD (cA YJ)) false) (.seq (cA (cB YJ)) (.seq (cA (cB (cB YJ))) .ret)))):=by kernel_rfl
def zl:List At:=List.replicate 32 (.c (.int .u8 0))
def nA (v:Value):List Fact:=[.slot 0 (.im v),.slot 2 (.pt 2 0),.row 2 true [.f ⟨0,cS⟩]]
def nB (v:Value) (L:List At):List Fact:=[.slot 3 (.pt 3 0),.row 3 true L,.slot 0 (.im v),.slot 2 (.pt 2 0),.row 2 true [.f ⟨0,cS⟩]]
theorem Yx (v:Value):bE prog (qG prog) Ve (fun _=>tC T0 fun _=>none) 40 (cA pL) (fT 0 [.v (.im v)]) (nA v)=some ([],.nrm,nA v):=by kernel_rfl
theorem Yw (v:Value):bE prog (qG prog) Ve (fun _=>tC T0 fun _=>none) 40 (cA (cB pL)) (nA v) (nB v zl)=some ([],.nrm,nB v zl):=by kernel_rfl
theorem Yv (g o k m b:Nat):eH prog (qG prog) Ve (tC T0 (assoc [(8,iI (32-k))])) ((aD (cA YJ)).extract 0 3) (.at 3 b::nB (aV g o k m) zl) (.slot 8 (.im (iI (32-k))) :: .at 3 b::nB (aV g o k m) zl)=some ([aN .sub .i64 32 (Int.ofNat k)=some (iI (32-k))],.slot 8 (.im (iI (32-k))) :: .at 3 b::nB (aV g o k m) zl):=by kernel_rfl
theorem Yu (v s:Value) (b:Nat):eH prog (qG prog) Ve (tC T0 fun _=>none) ((aD (cA YJ)).extract 4 5) (.slot 9 (.im s) :: .at 3 b::nB v zl) (.slot 10 (.im v) :: .slot 9 (.im s) :: .at 3 b::nB v zl)=some ([],.slot 10 (.im v) :: .slot 9 (.im s) :: .at 3 b::nB v zl):=by kernel_rfl
theorem Yt (v:Value) (N:Nat):bE prog (qG prog) Ve (fun _=>tC (T0.add 27 (Ix N)) fun _=>none) 40 (cA (cB YJ)) (nB v (Mw N)) [.slot 4 (.pt 4 0),.row 4 true [.q N],.slot 2 (.pt 2 0),.row 2 true [.f ⟨0,cS⟩]]=some ([aA (Mw N)=aA (Mw N),N<aF],.nrm,[.slot 4 (.pt 4 0),.row 4 true [.q N],.slot 2 (.pt 2 0),.row 2 true [.f ⟨0,cS⟩]]):=by kernel_rfl
theorem Ys (N:Nat):bE prog (qG prog) Ve (fun _=>tC T0 fun _=>none) 40 (cA (cB (cB YJ))) [.slot 4 (.pt 4 0),.row 4 true [.q N],.slot 2 (.pt 2 0),.row 2 true [.f ⟨0,cS⟩]] [.slot 2 (.pt 2 0),.row 2 true [.q N]]=some ([],.nrm,[.slot 2 (.pt 2 0),.row 2 true [.q N]]):=by kernel_rfl
theorem Hj {k:Nat} (h:k≤32):aN .sub .i64 32 (Int.ofNat k)=some (iI (32-k)):=qT (i:=32) h (by decide)
theorem Oo {b lo:Nat} (h:lo<32) (w:World):(Instr.sliceAt 160 (ptV b 0) (some (iI lo)) none none).run prog w=.ok (aV b lo (32-lo) (32-lo)) w:=by
 simp[Instr.sliceAt,Instr.sureAddr,ptV,aV,iI,run_underlying Ee,Instr.sliceBounds,Instr.sliceBound,asIntOf,JK,Nat.le_of_lt h,Addr.add_mid];omega
theorem YI {w0:World} {g o k m:Nat} {f:Nat→Nat} (hv:BM w0 g o k f) (h1:1≤k) (h2:k≤31):bD prog 88 (.one (.fl [.q (hN f k)])) [aV g o k m] w0:=by
 have hG:bO prog (qG prog) w0.heap.size w0:=(aW _).w _ _;have hT:∀n d:Nat,TabOkW prog T0 w0.heap.size w0:=fun _ _=>(bT _).w _ _
 refine cQ func88 (cs:=[.v (.im (aV g o k m))]) (args:=[aV g o k m]) (c:=pL) rfl ⟨rfl,trivial⟩ (Nat.le_of_ble_eq_true (by kernel_rfl)) fun a w hA => ?_
 rw[Hn];refine wp_seq (aB aI hT hG (Yx _) trivial hA fun a w hA => ?_);refine wp_seq (aB aI hT hG (Yw _) trivial hA fun a w hA => ?_);obtain⟨b,hA⟩:=hA.at (k:=3) (l:=zl) (by simp[nB]);refine wp_seq (bQ (l:=List.range' 0 ((aD (cA YJ)).extract 0 3).size++(3::(List.range' 4 ((aD (cA YJ)).extract 4 5).size++(5::[])))) (by kernel_rfl) ?_);refine aU (c:=tC T0 _) (hT 0) hG (Yv g o k m b) ⟨Hj (by omega),trivial⟩ (by kernel_rfl) hA fun a w hA => ?_
 obtain⟨o3,ho3,hop3,hd3,hg3⟩:∃x,(aD (cA YJ))[3]?=some x∧x.op=.slice 160 (.tmp 3) (some (.tmp 8)) none none∧x.dst=some 9∧x.guard=none:=⟨_,rfl,rfl,rfl,rfl⟩
 have e3:=hA.ptV (s:=3) (k:=3) (o:=0) (b:=b) (by simp[nB]) (by simp);have e8:=hA.imV (s:=8) (v:=iI (32-k)) (by simp);have hrun:(execOp a.eval o3).run prog w=.ok (.value (aV b (32-k) k k)) w:=by
  have:=Oo (b:=b) (lo:=32-k) (by omega) w;rw[show 32-(32-k)=k by omega]at this;unfold execOp;simp only[hop3,Option.map_some,Option.map_none,e3,e8,Sem.run_bind,this,Result.andThen_ok,Sem.run_pure]
 refine bM ho3 hg3 (cO hrun ?_);rw[hd3];have hA:=(hA.put (Below.refl _ _) (d:=9) (Nat.le_of_ble_eq_true (by kernel_rfl)) (.im (aV b (32-k) k k)) (EE (by kernel_rfl))).sub (A':=.slot 9 (.im (aV b (32-k) k k)) :: .at 3 b::nB (aV g o k m) zl) (fun φ h=>by
  rcases List.mem_cons.1 h with rfl|h
  ·exact List.mem_cons_self
  ·exact List.mem_cons_of_mem _ (List.mem_cons_of_mem _ h))
 refine aU (c:=tC T0 _) (hT 0) hG (Yu (aV g o k m) (aV b (32-k) k k) b) trivial (by kernel_rfl) hA fun a w hA => ?_
 obtain⟨o5,ho5,hop5,hd5,hg5⟩:∃x,(aD (cA YJ))[5]?=some x∧x.op=.call ⟨.builtin .copy,#[.tmp 9,.tmp 10],#[25,25]⟩∧x.dst=some 11∧x.guard=none:=⟨_,rfl,rfl,rfl,rfl⟩
 have e9:=hA.imV (s:=9) (v:=aV b (32-k) k k) (by simp);have e10:=hA.imV (s:=10) (v:=aV g o k m) (by simp);have hB:=hv.on hA.below;have hrow:=hA.old (k:=3) (l:=zl) (b:=b) (by simp[nB]) (by simp);have hfz:∀j,w.frozen? ⟨b,j,none⟩=false:=by
  obtain⟨β,g1,_⟩:=hA.facts;obtain⟨_,_,q,_⟩:=g1 (.row 3 true zl) (by simp[nB]);have e:=g1 (.at 3 b) (by simp);simp only[Fact.ok]at e;obtain⟨rfl,_⟩:=e;exact (q rfl).2.2
 have hcs:∀j v,(aA (bP (fun j=>gU (f j)) 0 k))[j]?=some v→w.cell? ((⟨g,o,none⟩:Addr).add j)=some v:=fun j v hj=>by
  have hlt:j<k:=by have:=(List.getElem?_eq_some_iff.1 hj).1; rwa [sU]at this
  rw[oL k 0 j hlt]at hj;rw[←hj,show (⟨g,o,none⟩:Addr).add j=⟨g,o+j,none⟩ by simp[Addr.add],hB.2.2 j hlt,Nat.zero_add]
 have hz32:dD zl=32:=by kernel_rfl
 have hcell:∀j,j<(aA (bP (fun j=>gU (f j)) 0 k)).length→(w.cell? ⟨b,32-k+j,none⟩).isSome=true:=fun j hj=>by
  rw[sU]at hj;have hlt:32-k+j<(aA zl).length:=by rw[aL,hz32]; omega
  have:=hrow.2 (32-k+j) _ (List.getElem?_eq_getElem hlt);rw[Nat.zero_add]at this;rw[this]; rfl
 have hone:∀x∈aA (bP (fun j=>gU (f j)) 0 k),x.oneCell'=true:=fun x hx=>by
  obtain⟨j,hj⟩:=List.mem_iff_getElem?.1 hx;have hlt:j<k:=by have:=(List.getElem?_eq_some_iff.1 hj).1; rwa [sU]at this
  rw[oL k 0 j hlt]at hj;cases hj; rfl
 have hcp:=run_copy_cells (P:=prog) w 25 25 o5.type 5 b (32-k) k k ⟨g,o,none⟩ k m (aA (bP (fun j=>gU (f j)) 0 k)) zO Lu (by rw[sU]; exact (Nat.min_self k).symm) hcs hcell (fun j _=>hfz _) hone;have hrun:(execOp a.eval o5).run prog w=.ok (.value (goInt (aA (bP (fun j=>gU (f j)) 0 k)).length)) (w.setCells b (32-k) (aA (bP (fun j=>gU (f j)) 0 k))):=by
  unfold execOp;simp only[hop5,resolve,invoke,builtin,Sem.run_bind,Sem.run_pure,Result.andThen_ok,List.map_toArray,List.map_cons,List.map_nil,e9,e10,aV,hcp]
 refine bM ho5 hg5 (cO hrun ?_);rw[hd5];have hA:=hA.wr (k:=3) (b:=b) (o:=32-k) (l:=zl) (l':=Mw (hN f k)) (vs:=aA (bP (fun j=>gU (f j)) 0 k)) (by simp[nB]) (by simp) (by rw[sU,hz32]; omega) (fun j v hj=>by
  have hlt:j<32:=by have:=(List.getElem?_eq_some_iff.1 hj).1; unfold Mw at this; rwa [sU]at this
  have hc:=oL (f:=gZ (hN f k)) 32 0 j hlt;unfold Mw at hj;rw[hc,Nat.zero_add,It hB.2.1 (by omega) hlt]at hj
  by_cases h:j<32-k
  ·right;rw[if_pos h]at hj;refine⟨Or.inl h,?_⟩;rw[←hj];have e:∀q,q<32→(aA zl)[q]?=some (.int .u8 0):=by
    have:aA zl=List.replicate 32 (.int .u8 0):=by kernel_rfl
    intro q hq;rw[this,List.getElem?_replicate,if_pos hq]
   exact e j hlt
  ·left;rw[if_neg h]at hj;refine⟨by omega,?_⟩;rw[oL k 0 (j-(32-k)) (by omega),Nat.zero_add];exact hj)
 have hA:=hA.put (Below.refl _ _) (d:=11) (Nat.le_of_ble_eq_true (by kernel_rfl)) (.im (goInt (aA (bP (fun j=>gU (f j)) 0 k)).length)) (EE (by kernel_rfl));have hA:=hA.sub (A':=nB (aV g o k m) (Mw (hN f k))) (fun φ h=>by
  simp only[nB,List.mem_cons,List.not_mem_nil,or_false]at h
  rcases h with rfl|rfl|rfl|rfl|rfl<;>simp[nB,yL,TV.av,show Nat.beq 2 3=false from rfl])
 have hT2:∀n d:Nat,TabOkW prog (T0.add 27 (Ix (hN f k))) w0.heap.size w0:=fun _ _=>((bT _).add func27 (by kernel_rfl) (by kernel_rfl) (Iw _)).w _ _
 show (Code.seq _ _).wp _ _ _ _;refine wp_seq (aB aI hT2 hG (Yt (aV g o k m) (hN f k)) ⟨rfl,aAt hv.2.1 (by omega),trivial⟩ hA fun a w hA => ?_);refine wp_seq (aB aI hT hG (Ys (hN f k)) trivial hA fun a w hA => ?_);exact wp_ret (rK (l:=[.fl [.q (hN f k)]]) (r:=.one (.fl [.q (hN f k)])) (by kernel_rfl) (by kernel_rfl) hA)
def Kx:Nat→List TV→List Fact
 | _,[]=>[]
 | i,t::r=>.slot i t.av::Kx (i+1) r
theorem PZ {base:Nat} {β:Nat→Bk} (a:Act) (w:World):∀(ts:List TV) (i:Nat),(∀j t,ts[j]?=some t→a.tmps[i+j]?=some t.den)→∀φ∈Kx i ts,φ.ok base β a w
 | [],i,_,φ,h=>by cases h
 | t::r,i,ha,φ,h=>by
  rcases List.mem_cons.1 h with rfl|h
  ·show a.tmps[i]?=_;rw[TV.av_den];exact ha 0 t rfl
  ·exact PZ a w r (i+1) (fun j u hj=>by have:=ha (j+1) u (by simpa using hj); rwa [show i+(j+1)=i+1+j by omega]at this) φ h
theorem xA:∀(ts:List TV) (i:Nat) (k:Nat) (o:Bool) (l:List At),Fact.row k o l∈Kx i ts→False
 | [],i,k,o,l,h=>by cases h
 | t::r,i,k,o,l,h=>by
  rcases List.mem_cons.1 h with h|h
  ·cases h
  ·exact xA r (i+1) k o l h
structure Own (w:World) (b:Nat) (l:List At):Prop where
 lt:b<w.heap.size
 row:w.rangeAt b 0 (aA l)
 free:∀j,w.frozen? ⟨b,j,none⟩=false
def Wr (b:Nat) (w:World) (r:RV) (l:List At) (e:Ending) (w':World):Prop:=e=.returned r.den∧WrC w w' b∧w'.rangeAt b 0 (aA l)
def TR (nt b N:Nat) (x:AV) (l:List At) (ts:List TV):List Fact:=.slot 0 x :: .row 0 true l :: .at 0 b :: .at nt N::Kx 1 ts
def NA (nt b N o:Nat) (l:List At) (ts:List TV):List Fact:=TR nt b N (.pt 0 o) l ts
theorem Holds.wrc {nt b:Nat} {w w':World} {A:List Fact} {a:Act} (h:Holds nt b w A a w') {l:List At} (h1:Fact.row 0 true l∈A) (h2:Fact.at 0 b∈A) (h3:Fact.at nt w.heap.size∈A):WrC w w' b∧w'.rangeAt b 0 (aA l):=by
 obtain⟨β,g1,g2,g3,gt⟩:=h.facts;obtain⟨e1,e2,e4,_⟩:=g1 _ h1;obtain⟨e5,e6,e7⟩:=e4 rfl;have e3:=g1 _ h2;have e8:=g1 _ h3;simp only[Fact.ok]at e3 e8;rw[e6]at e2;rw[e3.1]at e2;refine⟨⟨h.below,fun p hp hne => ?_,gt.shape,fun j => ?_⟩,e2⟩
 ·rcases Nat.lt_or_ge p.block b with q|q
  ·exact⟨h.below.cell q,h.below.frozen q⟩
  ·exact gt.mem p (by omega) (by rw[e8.1]; exact hp)
 ·have:=e7 j
  rwa [e3.1]at this
section
variable {P:Program} {w:World} {R:Ending→World→Prop}
theorem SL {f:FuncId} {fn:Func} (hf:P.funcs[f]?=some fn) {c:Code} (hb:fn.body=some c) {b:Nat} {x:AV} {v:Value} (hx:∀β:Nat→Bk,β 0=(b,0,0)→x.den β=v) {l:List At} {ts:List TV} (hO:Own w b l) (hn:ts.length+1≤fn.ntmps)
  (h:∀a w',Holds fn.ntmps b w (TR fn.ntmps b w.heap.size x l ts) a w'→c.wp P (bodyPost P fn R) a w'):Calls P f (v::ts.map TV.den).toArray w R:=by
 refine calls_of_wp hf hb (h _ _ ?_);have hg:∀j u,(v::ts.map TV.den)[j]?=some u→((v::ts.map TV.den).toArray++Array.replicate (fn.ntmps-(v::ts.map TV.den).toArray.size) undef)[j]?=some u:=fun j u hj=>by
  have hlt:=(List.getElem?_eq_some_iff.1 hj).1;rw[Array.getElem?_append_left (by simpa using hlt)];simpa using hj
 have hz:Nat.beq 0 fn.ntmps=false:=by
  cases hb:Nat.beq 0 fn.ntmps
  ·rfl
  ·have:=Nat.eq_of_beq_eq_true hb; omega
 have h0:∀k l0,Fact.row k true l0∈TR fn.ntmps b w.heap.size x l ts→k=0:=fun k l0 hk=>by
  simp only[TR,List.mem_cons,reduceCtorEq,false_or]at hk
  rcases hk with hk|hk
  ·cases hk; rfl
  ·exact (xA ts 1 k true l0 hk).elim
 refine⟨rfl,by simp; omega,Below.refl _ _,Nat.le_of_lt hO.lt,fun k=>bif Nat.beq k fn.ntmps then (w.heap.size,0,0)else (b,0,0),fun φ hφ => ?_,fun k k' o' l1 l2 h1 h2 hne => ?_,fun k l1 h1=>Or.inl ?_,?_,fun p q1 q2=>⟨rfl,rfl⟩,Shape.refl _⟩
 ·simp only[TR,List.mem_cons]at hφ
  rcases hφ with rfl|rfl|rfl|rfl|hφ
  ·exact (hg 0 _ rfl).trans (congrArg some (hx _ (by simp only[hz,cond_false])).symm)
  ·refine⟨?_,?_,fun _=>⟨?_,?_,?_⟩,fun h=>by cases h⟩<;>simp only[hz,cond_false]
   ·exact hO.lt
   ·exact hO.row
   ·exact Nat.le_refl _
   ·exact hO.free
  ·simp only[Fact.ok,hz,cond_false,and_self]
  ·simp[Fact.ok]
  ·exact PZ _ _ ts 1 (fun j t hj=>hg (1+j) _ (by rw[Nat.add_comm]; simp[hj])) φ hφ
 ·cases o' with
  | true=>exact (hne ((h0 k l1 h1).trans (h0 k' l2 h2).symm)).elim
  | false =>
   simp only[TR,List.mem_cons,reduceCtorEq,false_or,Fact.row.injEq,Bool.false_eq_true,false_and,and_false]at h2;exact (xA ts 1 k' false l2 h2).elim
 ·rw[h0 k l1 h1];simp only[hz,cond_false]
 ·simp
theorem sX {f:FuncId} {fn:Func} (hf:P.funcs[f]?=some fn) {c:Code} (hb:fn.body=some c) {b o:Nat} {l:List At} {ts:List TV} (hO:Own w b l) (hn:ts.length+1≤fn.ntmps)
  (h:∀a w',Holds fn.ntmps b w (NA fn.ntmps b w.heap.size o l ts) a w'→c.wp P (bodyPost P fn R) a w'):Calls P f (ptV b o::ts.map TV.den).toArray w R :=
 SL hf hb (x:=.pt 0 o) (fun β h=>by simp[AV.den,ptV,h]) hO hn h
end
def So (P:Program) (q:EqT) (C:Nat→Cfg) (fn:Func) (n b N o:Nat) (l:List At) (ts:List TV):Option (List Prop×RV×List At×Nat×Nat) :=
 match fn.body with
 | some c=>bif Nat.ble (ts.length+1) fn.ntmps then (match run P q fn.ntmps C n c (NA fn.ntmps b N o l ts)with
   | some (ps,.rt,A)=>match tE P A fn.results.toList,dP A 0,tA A 0,tA A fn.ntmps with
    | some x,some (true,L),some b',some N'=>match rv x with|some r=>some (ps,r,L,b',N')|none=>none
    | _,_,_,_=>none
   | _=>none)else none
 | none=>none
theorem LO {P:Program} {q:EqT} {C:Nat→Cfg} {w:World} {b o:Nat} (hm:P.follows .mixedOrders=true) (hT:∀n d,TabOkW P ((C n).T d) b w) (hq:bO P q b w) {f:FuncId} {fn:Func} (hf:P.funcs[f]?=some fn) {n:Nat} {l L:List At} {ts:List TV} {ps:List Prop} {r:RV}
  (h:So P q C fn n b w.heap.size o l ts=some (ps,r,L,b,w.heap.size)) (hps:aT ps) (hO:Own w b l):Calls P f (ptV b o::ts.map TV.den).toArray w (Wr b w r L):=by
 unfold So at h;split at h
 ·rename_i c hb;cases hle:Nat.ble (ts.length+1) fn.ntmps<;>rw[hle]at h
  ·cases h
  ·simp only[cond_true]at h;split at h
   ·rename_i ps' A hrun;split at h
    ·rename_i x L' b' N' hx hrow hb' hN';split at h
     ·rename_i r' hr;cases h;refine sX hf hb hO (Nat.le_of_ble_eq_true hle) fun a w' hH=>(dM (P:=P) (q:=q) (nt:=fn.ntmps) (C:=C) hm hT hq n c _ A ps .rt a w' _ hrun hps hH fun a w' hA => ?_).1
      exact cT hx hr hA ⟨rfl,hA.wrc (bJ hrow) (eV hb') (eV hN')⟩
     ·cases h
    ·cases h
   ·cases h
 ·cases h
def Va (P:Program) (ld st:Nat→Option (List At)) (idx:Nat→Option Nat) (gen:Nat→Option Value) (T5:Tab5):EqT:={ qG P with x:={ Ext.none with ld:=ld,st:=st,idx:=idx,gen:=gen,T5:=T5 } }
theorem mQ {P:Program} {ld st:Nat→Option (List At)} {idx:Nat→Option Nat} {gen:Nat→Option Value} {T5:Tab5} (h5:PtOk P T5) (base:Nat) (w0:World):bO P (Va P ld st idx gen T5) base w0 :=
 ⟨(aW P).1,fun w' _=>⟨fun _ _ _ h=>h.elim,fun _ _ _ _ h=>(by cases h),fun _ _ _ _ h=>(by cases h),fun _ _ _ _ _ h=>(by cases h),fun f cs pre j r l hg hp=>⟨(h5 f cs pre j r l hg hp).1,fun args ha b o hj hz _=>(h5 f cs pre j r l hg hp).2 args w' ha b o hj hz⟩,fun _ _ _ _ _ _ _ h=>(by cases h)⟩⟩
def Vc (l0:List At) (o0:Nat) (r:RV) (l1:List At):List CA→Option (List Prop×Nat×RV×List At)
 | [.p l o]=>some ([l=l0,o=o0],0,r,l1)
 | _=>none
def Nf (P:Program) (f:FuncId) (l0:List At) (o0:Nat) (ts:List Value) (r:RV) (l1:List At):Prop:=∀(w:World) (b:Nat),Own w b l0→Calls P f (ptV b o0::ts).toArray w (Wr b w r l1)
theorem Qe {P:Program} {f:FuncId} {l0:List At} {o0:Nat} {r0:RV} {l1:List At} (h:Nf P f l0 o0 [] r0 l1):∀cs pre j r l,Vc l0 o0 r0 l1 cs=some (pre,j,r,l)→aT pre→∀(args:List Value) (w:World),cD w cs args→∀b o,args[j]?=some (.pointer (some ⟨b,o,none⟩))→(∀q,w.frozen? ⟨b,q,none⟩=false) →
  Calls P f args.toArray w (fun e w'=>e=.returned r.den∧WrC w w' b∧w'.rangeAt b 0 (aA l)):=by
 intro cs pre j r l hg hp args w ha b o hj hz;unfold Vc at hg;split at hg
 ·cases hg;obtain⟨rfl,rfl,_⟩:=hp
  match args,ha with
  | [v],ha =>
   obtain⟨⟨b',rfl,h1,h2⟩,_⟩:=ha;cases hj;exact h w b ⟨h1,h2,hz⟩
  | [],ha=>exact ha.elim
  | _::_::_,ha=>exact ha.2.elim
 ·cases hg
def T5n:Tab5:=fun _ _=>none
theorem Uw (P:Program):PtOk P T5n:=fun _ _ _ _ _ _ h=>by cases h
theorem Ft (b N n m c n' m':Nat) (p p':Option Addr):So prog (Va prog (fun _=>none) (fun _=>none) (fun _=>none) (assoc [(12,.slice p' n' m')]) T5n) (fun _=>tC T0 (assoc [(6,iI c)])) f114 60 b N 0 [.c (.slice p n m)] []=some ([Value.int .i64 (if Int.ofNat n<31 then Int.ofNat n else 31)=iI c,c≤m,∀w:World,(Instr.sliceAt 25 (.slice p n m) (some (iI c)) none none).run prog w=.ok (.slice p' n' m') w],.one (.im (.slice p c m)),[.c (.slice p' n' m')],b,N):=by kernel_rfl
theorem WC {g o n m c:Nat} (h:c≤n) (hm:n≤m) (w:World):(Instr.sliceAt 25 (aV g o n m) (some (iI c)) none none).run prog w=.ok (aV g (if m=c then o else o+c) (n-c) (m-c)) w:=by
 by_cases e:m=c
 ·rw[if_pos e];simp[Instr.sliceAt,Instr.slice,aV,iI,run_underlying zO,Instr.sliceBounds,Instr.sliceBound,asIntOf,JK,h,e]
 ·rw[if_neg e];simp[Instr.sliceAt,Instr.slice,aV,iI,run_underlying zO,Instr.sliceBounds,Instr.sliceBound,asIntOf,JK,h,e,Addr.add_mid]
def UE (g o N i:Nat) (v:Value):Prop:=∃p m,v=.slice p (N-31*i) m∧N-31*i≤m∧(0<N-31*i→p=some ⟨g,o+31*i,none⟩)
def mG (N i:Nat):Nat:=min (N-31*i) 31
theorem TA {w:World} {r g o N i:Nat} {v:Value} (hr:UE g o N i v) (h0:0<N-31*i) (hO:Own w r [.c v]):∃m v',UE g o N (i+1) v'∧(∃p' n' m',v'=.slice p' n' m')∧mG N i≤m∧Calls prog 114 #[ptV r 0] w (Wr r w (.one (.im (aV g (o+31*i) (mG N i) m))) [.c v']):=by
 obtain⟨p,m,rfl,hm,hp⟩:=hr;obtain rfl:=hp h0;have hc:mG N i≤N-31*i:=Nat.min_le_left _ _;have e:N-31*i-mG N i=N-31*(i+1):=by unfold mG; omega
 refine⟨m,aV g (if m=mG N i then o+31*i else o+31*i+mG N i) (N-31*i-mG N i) (m-mG N i),⟨_,_,by rw[e]; rfl,by omega,fun h => ?_⟩,⟨_,_,_,rfl⟩,by omega,?_⟩
 ·have:mG N i=31:=by unfold mG; omega
  rw[if_neg (by omega),this,show o+31*i+31=o+31*(i+1) by omega]
 ·have h1:Value.int .i64 (if Int.ofNat (N-31*i)<31 then Int.ofNat (N-31*i)else 31)=iI (mG N i):=by
   unfold mG
   by_cases h:N-31*i<31
   ·rw[if_pos (by show ((N-31*i:Nat):Int)<31; omega),Nat.min_eq_left (by omega)]; rfl
   ·rw[if_neg (by show ¬((N-31*i:Nat):Int)<31; omega),Nat.min_eq_right (by omega)]; rfl
  exact LO (ts:=[]) aI (fun _ _=>(bT _).w _ _) (mQ (Uw _) _ _) func114 (Ft r w.heap.size (N-31*i) m (mG N i) _ _ _ _) ⟨h1,by omega,fun w=>WC hc hm w,trivial⟩ hO
theorem CQ {P:Program} {o:Oper} {a:Act} {w:World} {K:Act→World→Prop} {Q:Exit→Act→World→Prop} {x:Operand} {xs:Array Operand} {ts:Array TypeId} {id:Nat} {cap vs:Array Value} {R:Ending→World→Prop} (ho:o.op=.call ⟨.value x,xs,ts⟩) (hx:a.eval x=.func (.func id) #[] cap) (hv:xs.map a.eval=vs)
  (he:∀xs,(callFunc id xs).run P w=.ok (.enter id xs) w) (hc:Calls P id (vs++cap) w R) (hK:∀e w',R e w'→∃v,e=.returned v∧K (a.put o.dst v) w'):o.wp P a w K Q:=by
 have hrun:(execOp a.eval o).run P w=.ok (.enter id (vs++cap)) w:=by
  simp[execOp,ho,resolve,Deferred.ofValue,hx,hv,invoke,he]
 unfold Oper.wp;rw[hrun];refine Calls.mono hc fun e w' hR => ?_
 obtain⟨v,rfl,h⟩:=hK e w' hR;exact h
theorem WrC.own {w w':World} {r:Nat} {l:List At} (h:WrC w w' r) (hlt:r<w.heap.size) (hr:w'.rangeAt r 0 (aA l)):Own w' r l:=⟨Nat.lt_of_lt_of_le hlt h.below.size,hr,h.free⟩
theorem WrC.trans {a b c:World} {r:Nat} (h:WrC a b r) (k:WrC b c r):WrC a c r :=
 ⟨h.below.trans k.below,fun p hp hne=>by
  have h1:=h.mem p hp hne;have h2:=k.mem p (Nat.lt_of_lt_of_le hp h.below.size) hne;exact⟨h2.1.trans h1.1,h2.2.trans h1.2⟩,h.shape.trans k.shape,k.free⟩
theorem Holds.wrcK {nt b k:Nat} {w w':World} {A:List Fact} {a:Act} (h:Holds nt b w A a w') {l:List At} (h1:Fact.row k true l∈A) (h2:Fact.at k b∈A) (h3:Fact.at nt w.heap.size∈A):WrC w w' b∧w'.rangeAt b 0 (aA l):=by
 obtain⟨β,g1,g2,g3,gt⟩:=h.facts;obtain⟨e1,e2,e4,_⟩:=g1 _ h1;obtain⟨e5,e6,e7⟩:=e4 rfl;have e3:=g1 _ h2;have e8:=g1 _ h3;simp only[Fact.ok]at e3 e8;rw[e6]at e2;rw[e3.1]at e2;refine⟨⟨h.below,fun p hp hne => ?_,gt.shape,fun j => ?_⟩,e2⟩
 ·rcases Nat.lt_or_ge p.block b with q|q
  ·exact⟨h.below.cell q,h.below.frozen q⟩
  ·exact gt.mem p (by omega) (by rw[e8.1]; exact hp)
 ·have:=e7 j
  rwa [e3.1]at this
theorem Own.holds {nt k r:Nat} {w:World} {l:List At} {a:Act} {ts:List (Nat×Value)} (h:Own w r l) (hd:a.defers=[]) (hs:a.tmps.size=nt) (hk:Nat.beq k nt=false) (hp:a.tmps[k]?=some (ptV r 0)) (ht:∀x∈ts,a.tmps[x.1]?=some x.2) :
  Holds nt r w (.slot k (.pt k 0) :: .row k true l :: .at k r :: .at nt w.heap.size::ts.map fun x=>.slot x.1 (.im x.2)) a w:=by
 refine⟨hd,hs,Below.refl _ _,Nat.le_of_lt h.lt,fun q=>bif Nat.beq q nt then (w.heap.size,0,0)else (r,0,0),fun φ hφ => ?_,fun k1 k2 o' l1 l2 h1 h2 hne => ?_,fun k1 l1 h1=>Or.inl ?_,?_,fun p q1 q2=>⟨rfl,rfl⟩,Shape.refl _⟩
 ·simp only[List.mem_cons,List.mem_map]at hφ
  rcases hφ with rfl|rfl|rfl|rfl|⟨x,hx,rfl⟩
  ·show a.tmps[k]?=_;rw[hp];simp[AV.den,hk,Go.Proofs.YtpbljiejmfahcaaGreatDoor.Ex.ptV]
  ·refine⟨?_,?_,fun _=>⟨?_,?_,?_⟩,fun h=>by cases h⟩<;>simp only[hk,cond_false]
   ·exact h.lt
   ·exact h.row
   ·exact Nat.le_refl _
   ·exact h.free
  ·simp only[Fact.ok,hk,cond_false,and_self]
  ·simp[Fact.ok]
  ·exact ht x hx
 ·have e:∀k3 o3 l3,Fact.row k3 o3 l3∈(Fact.slot k (.pt k 0) :: .row k true l :: .at k r :: .at nt w.heap.size::ts.map fun x=>Fact.slot x.1 (.im x.2))→k3=k:=fun k3 o3 l3 h3=>by
   simp only[List.mem_cons,reduceCtorEq,false_or,List.mem_map,and_false,exists_const,or_false]at h3;cases h3; rfl
  exact (hne ((e _ _ _ h1).trans (e _ _ _ h2).symm)).elim
 ·have e:k1=k:=by
   simp only[List.mem_cons,reduceCtorEq,false_or,List.mem_map,and_false,exists_const,or_false]at h1;cases h1; rfl
  subst e;simp only[hk,cond_false]
 ·simp
noncomputable abbrev itF:Func:=f113
def pO:Code:=(f113.body).getD .skip
def lX:Code:=kD (kD (cB (cB pO)))
def UI:Code:=kD (cB lX)
theorem Il:pO=.seq (cA pO) (.seq (cA (cB pO)) (.block 0 (.loop lX))):=by kernel_rfl
theorem Ik:lX=.seq (cA lX) (.block 1 (.seq (.region 3 (aD (cA UI)) false) (.cond (.tmp 14) .ret .skip))):=by kernel_rfl
def yV (l:Nat):Value:=.func (.yield l) #[] #[]
def uA (r:Nat):Value:=.func (.func 114) #[] #[ptV r 0]
theorem aAc:itF.ntmps=15:=by kernel_rfl
def iA (l r N:Nat) (v:Value):List Fact:=[.slot 3 (.pt 3 0),.row 3 true [.c v],.at 3 r,.at 15 N,.slot 0 (.im (yV l)),.slot 4 (.im (uA r))]
theorem aAb (w:World) (l bb n m:Nat) (p:Option Addr):bE prog { qG prog with x:=xO w (fun _=>none) (fun _=>none) (assoc [(5,.slice p n m)]) } itF.ntmps (fun _=>tC T0 fun _=>none) 40 (cA pO) (fT 0 [.v (.im (yV l)),.v (.im (ptV bb 0))]) [.slot 3 (.pt 3 0),.row 3 true [.c (.slice p n m)],.slot 0 (.im (yV l))]=some ([oldOf w bb 0 [.c (.slice p n m)]],.nrm,[.slot 3 (.pt 3 0),.row 3 true [.c (.slice p n m)],.slot 0 (.im (yV l))]):=by kernel_rfl
theorem aAa (l r:Nat) (v:Value):bE prog (qG prog) itF.ntmps (fun _=>tC T0 fun _=>none) 40 (cA (cB pO)) [.at 3 r,.slot 3 (.pt 3 0),.row 3 true [.c v],.slot 0 (.im (yV l))] [.slot 4 (.im (uA r)),.at 3 r,.slot 3 (.pt 3 0),.row 3 true [.c v],.slot 0 (.im (yV l))]=some ([],.nrm,[.slot 4 (.im (uA r)),.at 3 r,.slot 3 (.pt 3 0),.row 3 true [.c v],.slot 0 (.im (yV l))]):=by kernel_rfl
theorem aAe (l r N n m:Nat) (p:Option Addr):bE prog (qG prog) 15 (fun _=>tC T0 (assoc [(9,.bool true)])) 40 (cA lX) (iA l r N (.slice p n m)) (iA l r N (.slice p n m))=some ([aN .gtr .i64 (Int.ofNat n) 0=some (.bool true)],.nrm,iA l r N (.slice p n m)):=by kernel_rfl
theorem Rl (l r N n m:Nat) (p:Option Addr):bE prog (qG prog) 15 (fun _=>tC T0 (assoc [(9,.bool false)])) 40 (cA lX) (iA l r N (.slice p n m)) (iA l r N (.slice p n m))=some ([aN .gtr .i64 (Int.ofNat n) 0=some (.bool false)],.ex 0,iA l r N (.slice p n m)):=by kernel_rfl
theorem aAd (l r N:Nat) (v:Value):eH prog (qG prog) 15 (tC T0 fun _=>none) ((aD (cA UI)).extract 0 2) (iA l r N v) (.slot 11 (.im (uA r)) :: .slot 10 (.im (yV l))::iA l r N v)=some ([],.slot 11 (.im (uA r)) :: .slot 10 (.im (yV l))::iA l r N v):=by kernel_rfl
theorem Rk (l r N:Nat) (v:Value):eH prog (qG prog) 15 (tC T0 fun _=>none) ((aD (cA UI)).extract 4 5) [.slot 3 (.pt 3 0),.row 3 true [.c v],.at 3 r,.at 15 N,.slot 0 (.im (yV l)),.slot 4 (.im (uA r)),.slot 13 (.im (.bool true))] (.slot 14 (.im (.bool false))::iA l r N v)=some ([],.slot 14 (.im (.bool false))::iA l r N v):=by kernel_rfl
theorem aAy {a:Nat} (h:0<a):aN .gtr .i64 (Int.ofNat a) 0=some (.bool true):=by
 show some (Value.bool (decide (Int.ofNat a>0)))=_;rw[decide_eq_true (by show (0:Int)<(a:Int); omega)]
theorem aAz {a:Nat} (h:a=0):aN .gtr .i64 (Int.ofNat a) 0=some (.bool false):=by rw[h]; rfl
theorem aS {a:Act} {d s:Nat} {u v:Value} (h:a.tmps[s]?=some v) (hd:d≠s):(a.put (some d) u).tmps[s]?=some v:=by
 rw[fX _ _ _ _ (fun e=>hd (by injection e))]; exact h
structure ItS (l r:Nat) (v:Value) (a:Act) (w:World):Prop where
 defers:a.defers=[]
 size:a.tmps.size=15
 t0:a.tmps[0]?=some (yV l)
 t3:a.tmps[3]?=some (ptV r 0)
 t4:a.tmps[4]?=some (uA r)
 own:Own w r [.c v]
theorem ItS.holds {l r:Nat} {v:Value} {a:Act} {w:World} (h:ItS l r v a w):Holds 15 r w (iA l r w.heap.size v) a w :=
 h.own.holds (k:=3) (ts:=[(0,yV l),(4,uA r)]) h.defers h.size rfl h.t3 (fun x hx=>by
  simp only[List.mem_cons,List.not_mem_nil,or_false]at hx
  rcases hx with rfl|rfl
  ·exact h.t0
  ·exact h.t4)
theorem Holds.its {l r:Nat} {v:Value} {A:List Fact} {a:Act} {w w':World} (h:Holds 15 r w A a w') (hA:∀φ∈iA l r w.heap.size v,φ∈A) (hlt:r<w.heap.size):ItS l r v a w'∧WrC w w' r:=by
 have hW:=h.wrcK (k:=3) (l:=[.c v]) (hA _ (by simp[iA])) (hA _ (by simp[iA])) (hA _ (by simp[iA]));refine⟨⟨h.defers,h.size,h.slot (hA _ (by simp[iA])),?_,h.slot (hA _ (by simp[iA])),hW.1.own hlt hW.2⟩,hW.1⟩;obtain⟨β,g1,_⟩:=h.facts;have e1:=g1 _ (hA (.slot 3 (.pt 3 0)) (by simp[iA]));have e2:=g1 _ (hA (.at 3 r) (by simp[iA]));simp only[Fact.ok]at e1 e2;rw[e1];simp[AV.den,e2,Go.Proofs.YtpbljiejmfahcaaGreatDoor.Ex.ptV]
theorem ZT {W1:World} {l g o N bb:Nat} {v:Value} (hv:UE g o N 0 v) (hbox:oldOf W1 bb 0 [.c v]) (J:Nat→Nat→World→Prop)
  (hJ0:∀r W,W1.heap.size≤r→Below W1.heap.size W1 W→r<W.heap.size→Shape W1 W→J r 0 W) (hJw:∀r i W W',W1.heap.size≤r→J r i W→WrC W W' r→J r i W')
  (hR:∀r i W v' m,W1.heap.size≤r→31*i<N→J r i W→Own W r [.c v']→mG N i≤m→∃rec,W.heap[l]?=some (.loop rec)∧rec.params.size=1 ∧
   RoundIn Fence.wide 0 prog l rec.fn ((rec.params.zip #[aV g (o+31*i) (mG N i) m]).foldl (fun t (p,v)=>t.setIfInBounds p v) rec.tmps) rec.assign rec.body W fun e W'=>e=.returned (.bool true)∧J r (i+1) W'∧Own W' r [.c v']) :
  Calls prog 113 #[yV l,ptV bb 0] W1 fun e W'=>(∃v,e=.returned v)∧∃r,J r ((N+30)/31) W':=by
 obtain⟨p,m,rfl,hm,hp⟩:=hv;have hG:∀base w,bO prog (qG prog) base w:=fun _ _=>(aW _).w _ _
 have hT:∀base w,∀n d:Nat,TabOkW prog T0 base w:=fun _ _ _ _=>(bT _).w _ _
 refine cQ func113 (cs:=[.v (.im (yV l)),.v (.im (ptV bb 0))]) (args:=[yV l,ptV bb 0]) (c:=pO) rfl ⟨rfl,rfl,trivial⟩ (Nat.le_of_ble_eq_true (by kernel_rfl)) fun a w hA => ?_
 rw[Il];refine wp_seq (aB aI (hT _ _) (eK W1 _ _ _) (aAb W1 l bb (N-31*0) m p) ⟨hbox,trivial⟩ hA fun a w hA => ?_);obtain⟨r,hA⟩:=hA.at (k:=3) (l:=[.c (.slice p (N-31*0) m)]) (by simp);refine wp_seq (aB aI (hT _ _) (hG _ _) (aAa l r _) trivial hA fun a w hA => ?_);have hnt:f113.ntmps=15:=aAc;have hge:W1.heap.size≤r∧r<w.heap.size∧(∀j,w.frozen? ⟨r,j,none⟩=false)∧Shape W1 w:=by
  obtain⟨β,g1,_,_,gt⟩:=hA.facts;obtain⟨q1,_,q2,_⟩:=g1 (.row 3 true [.c (.slice p (N-31*0) m)]) (by simp);have e:=g1 (.at 3 r) (by simp);simp only[Fact.ok]at e;obtain⟨rfl,_⟩:=e;exact⟨(q2 rfl).1,q1,(q2 rfl).2.2,gt.shape⟩
 have hS:ItS l r (.slice p (N-31*0) m) a w:=⟨hA.defers,hA.size.trans hnt,hA.slot (s:=0) (by simp),by
  have:=hA.ptV (s:=3) (k:=3) (o:=0) (b:=r) (by simp) (by simp);obtain⟨β,g1,_⟩:=hA.facts;have e1:=g1 (.slot 3 (.pt 3 0)) (by simp);have e2:=g1 (.at 3 r) (by simp);simp only[Fact.ok]at e1 e2;rw[e1];simp[AV.den,e2,Go.Proofs.YtpbljiejmfahcaaGreatDoor.Ex.ptV],hA.slot (s:=4) (by simp),hge.2.1,by
  have:=hA.old (k:=3) (l:=[.c (.slice p (N-31*0) m)]) (b:=r) (by simp) (by simp);exact this.2,hge.2.2.1⟩
 have hJ:=hJ0 r w hge.1 hA.below hge.2.1 hge.2.2.2;have hv:UE g o N 0 (.slice p (N-31*0) m):=⟨p,m,rfl,hm,hp⟩;have hB1:=hge.1;clear hge hA hm hp hbox;refine wp_block ?_;refine dV (n:=(N+30)/31+1) ?_;have wl:∀Q a w,(Code.seq (cA lX) (.block 1 (.seq (.region 3 (aD (cA UI)) false) (.cond (.tmp 14) .ret .skip)))).wp prog Q a w→lX.wp prog Q a w:=fun Q a w h=>by rw[Ik]; exact h
 have key:∀k i a w v,i+k=(N+30)/31→UE g o N i v→ItS l r v a w→J r i w→Un prog lX (Exit.inBlock 0 (bodyPost prog f113 fun e W'=>(∃v,e=.returned v)∧∃r,J r ((N+30)/31) W')) (k+1) a w:=by
  intro k
  induction k with
  | zero =>
   intro i a w v hi hv hS hJ;unfold Un;refine wl _ _ _ ?_;obtain⟨p,m,rfl,hm,hp⟩:=hv;refine wp_seq (aB aI (hT _ _) (hG _ _) (Rl l r w.heap.size (N-31*i) m p) ⟨aAz (by omega),trivial⟩ hS.holds fun a w' hA => ?_);obtain⟨hS',hW⟩:=hA.its (fun φ h=>h) hS.own.lt;have hJ':=hJw r i w w' hB1 hJ hW;have hi':i=(N+30)/31:=by omega
   subst hi';simp only[EA.out,Exit.then,Exit.inBlock,if_true];refine⟨hS'.defers,.tuple #[],?_,⟨_,rfl⟩,r,hJ'⟩;simp[results,show f113.results = #[] by kernel_rfl]
  | succ k ih =>
   intro i a w v hi hv hS hJ;have hlt:31*i<N:=by omega
   unfold Un;refine wl _ _ _ ?_;have hv0:=hv;obtain⟨p,m,rfl,hm,hp⟩:=hv;refine wp_seq (aB aI (hT _ _) (hG _ _) (aAe l r w.heap.size (N-31*i) m p) ⟨aAy (by omega),trivial⟩ hS.holds fun a1 w1 h1 => ?_);refine wp_block ?_;refine wp_seq ?_;refine (wpIn_wide (n:=1)).1 ?_;show Code.wpIn (rF none) 1 _ _ _ _ _;refine wpIn_region ?_;rw[show List.range (aD (cA UI)).size=List.range' 0 ((aD (cA UI)).extract 0 2).size++(2::3::(List.range' 4 ((aD (cA UI)).extract 4 5).size++[])) by kernel_rfl];refine qO (c:=tC T0 _) (hT _ _ 0) (hG _ _) (aAd l r w.heap.size _) trivial (by kernel_rfl) (by kernel_rfl) h1 fun a2 w2 h2 => ?_
   obtain⟨hS2,hW2⟩:=h2.its (fun φ h=>List.mem_cons_of_mem _ (List.mem_cons_of_mem _ h)) hS.own.lt;have t10:=h2.slot (s:=10) (v:=yV l) (by simp);have t11:=h2.slot (s:=11) (v:=uA r) (by simp);obtain⟨o2,ho2,⟨ts2,hop2⟩,hd2,hg2⟩:∃x,(aD (cA UI))[2]?=some x∧(∃ts,x.op=.call ⟨.value (.tmp 11),#[],ts⟩)∧x.dst=some 12∧x.guard=none:=⟨_,rfl,⟨_,rfl⟩,rfl,rfl⟩
   obtain⟨o3,ho3,⟨ts3,hop3⟩,hd3,hg3⟩:∃x,(aD (cA UI))[3]?=some x∧(∃ts,x.op=.call ⟨.value (.tmp 10),#[.tmp 12],ts⟩)∧x.dst=some 13∧x.guard=none:=⟨_,rfl,⟨_,rfl⟩,rfl,rfl⟩
   obtain⟨mm,v',hv',_,hmm,hcut⟩:=TA hv0 (by omega) hS2.own;refine AS ho2 hg2 (KH (Q:=fun _ _ _=>False) (K:=fun a w=>wpOpsIn (rF none) 1 prog (aD (cA UI)) _ (3::(List.range' 4 ((aD (cA UI)).extract 4 5).size++[])) a w) (fun c e=>by rw[hop2]at e; cases e) (fun _ _ h=>h) (fun⟨_,_,h⟩=>h) (fun _ _ _ _ h=>h.elim) (CQ hop2 (cap:=#[ptV r 0]) (vs:=#[]) (by simp[Act.eval,t11,uA]) (by simp) (fun args=>bR func114 (by kernel_rfl) (by kernel_rfl) args _) hcut ?_))
   rintro e w3 ⟨rfl,hW3,hr3⟩
   refine⟨_,rfl,?_⟩;rw[hd2];have hO3:Own w3 r [.c v']:=hW3.own hS2.own.lt hr3;have hJ3:=hJw r i w w3 hB1 hJ (hW2.trans hW3);obtain⟨rec,hrec,hsz,hround⟩:=hR r i w3 v' mm hB1 hlt hJ3 hO3 hmm;refine AS ho3 hg3 (CP (l:=l) (vs:=#[aV g (o+31*i) (mG N i) mm]) hop3 (by
    have:=aS (d:=12) (u:=aV g (o+31*i) (mG N i) mm) t10 (by decide);simp only[Act.eval];show (a2.put (some 12) (aV g (o+31*i) (mG N i) mm)).tmps.getD 10 undef=_;simp[this,yV]) (by
    have:=aY a2 12 (aV g (o+31*i) (mG N i) mm) (by rw[hS2.size]; decide);show Array.map (a2.put (some 12) (aV g (o+31*i) (mG N i) mm)).eval #[.tmp 12]=_;simp[Act.eval,this]) hrec (by rw[hsz]; rfl) (hround.mono ?_))
   rintro e W' ⟨rfl,hJ',hO'⟩
   refine⟨_,rfl,?_⟩;rw[hd3];change wpOpsIn (rF none) 1 prog (aD (cA UI)) _ _ ((a2.put (some 12) (aV g (o+31*i) (mG N i) mm)).put (some 13) (.bool true)) W';generalize ha4:(a2.put (some 12) (aV g (o+31*i) (mG N i) mm)).put (some 13) (.bool true)=a4;have hH:Holds 15 r W' [.slot 3 (.pt 3 0),.row 3 true [.c v'],.at 3 r,.at 15 W'.heap.size,.slot 0 (.im (yV l)),.slot 4 (.im (uA r)),.slot 13 (.im (.bool true))] a4 W' :=
    hO'.holds (k:=3) (ts:=[(0,yV l),(4,uA r),(13,.bool true)]) (by rw[←ha4]; exact hS2.defers) (by rw[←ha4]; simp only[aG]; exact hS2.size) rfl (by rw[←ha4]; exact aS (aS hS2.t3 (by decide)) (by decide)) (fun x hx=>by
     simp only[List.mem_cons,List.not_mem_nil,or_false]at hx;rw[←ha4]
     rcases hx with rfl|rfl|rfl
     ·exact aS (aS hS2.t0 (by simp)) (by simp)
     ·exact aS (aS hS2.t4 (by simp)) (by simp)
     ·exact aY _ _ _ (by rw[aG,hS2.size]; decide))
   refine qO (c:=tC T0 _) (hT _ _ 0) (hG _ _) (Rk l r W'.heap.size v') trivial (by kernel_rfl) (by kernel_rfl) hH fun a5 w5 h5 => ?_
   obtain⟨hS5,hW5⟩:=h5.its (fun φ h=>List.mem_cons_of_mem _ h) hO'.lt;have hc:=h5.imV (s:=14) (v:=.bool false) (by simp);show (Code.cond (.tmp 14) .ret .skip).wp _ _ _ _;exact wp_cond_false hc (wp_skip (ih (i+1) a5 w5 v' (by omega) hv' hS5 (hJw r (i+1) W' w5 hB1 hJ' hW5)))
 exact key _ 0 a w _ (by omega) hv hS hJ
structure Only2 (a b:Nat) (w w':World):Prop where
 below:∀B,B≤a→B≤b→Below B w w'
 mem:∀p:Addr,p.block<w.heap.size→p.block≠a→p.block≠b→w'.cell? p=w.cell? p∧w'.frozen? p=w.frozen? p
 shape:Shape w w'
theorem Only2.refl (a b:Nat) (w:World):Only2 a b w w:=⟨fun _ _ _=>Below.refl _ _,fun _ _ _ _=>⟨rfl,rfl⟩,Shape.refl _⟩
theorem Only2.trans {a b:Nat} {u v w:World} (h:Only2 a b u v) (k:Only2 a b v w):Only2 a b u w :=
 ⟨fun B h1 h2=>(h.below B h1 h2).trans (k.below B h1 h2),fun p hp h1 h2=>by
  have e1:=h.mem p hp h1 h2;have e2:=k.mem p (Nat.lt_of_lt_of_le hp h.shape.2.size) h1 h2;exact⟨e2.1.trans e1.1,e2.2.trans e1.2⟩,h.shape.trans k.shape⟩
theorem Only2.of_below {a b:Nat} {w w':World} (h:Below w.heap.size w w') (ha:a<w.heap.size) (hb:b<w.heap.size):Only2 a b w w' :=
 ⟨fun B h1 h2=>h.mono (by omega),fun p hp _ _=>⟨h.cell hp,h.frozen hp⟩,Shape.below h⟩
theorem Only2.of_grown {a b:Nat} {w w':World} (h:w.grownBy w' (some b)) (hs:Shape w w') (hb:b<w.heap.size) (ha:a<w.heap.size):Only2 a b w w' :=
 ⟨fun B h1 h2=>(Below.refl B w).grown h (Nat.le_trans h2 (Nat.le_of_lt hb)) (fun k e=>(by cases e; exact h2)),fun p hp _ h2=>by
  have:=h.block p.block hp (fun e=>h2 (Option.some.inj e));exact⟨World.cell?_of_block this,World.frozen?_of_block this⟩,hs⟩
theorem Only2.of_set {a b o:Nat} {w:World} {vs:List Value}:Only2 a b w (w.setCells a o vs) :=
 ⟨fun B h1 _=>fE h1 _ _ _ _ (Below.refl _ _),fun p _ h1 _=>⟨World.cell?_setCells_out _ _ _ _ _ (fun q _=>absurd q h1),World.frozen?_setCells _ _ _ _ _⟩,cW _ _ _ _⟩
theorem Only2.own {a b:Nat} {w w':World} (h:Only2 a b w w') {r:Nat} {l:List At} (hO:Own w r l) (h1:r≠a) (h2:r≠b):Own w' r l :=
 ⟨Nat.lt_of_lt_of_le hO.lt h.shape.2.size,fun j v hj=>(h.mem ⟨r,0+j,none⟩ hO.lt h1 h2).1.trans (hO.row j v hj),fun j=>(h.mem ⟨r,j,none⟩ hO.lt h1 h2).2.trans (hO.free j)⟩
theorem Only2.range {a b:Nat} {w w':World} (h:Only2 a b w w') {r o:Nat} {l:List Value} (hlt:r<w.heap.size) (hO:w.rangeAt r o l) (h1:r≠a) (h2:r≠b):w'.rangeAt r o l :=
 fun j v hj=>(h.mem ⟨r,o+j,none⟩ hlt h1 h2).1.trans (hO j v hj)
structure ElM (w:World) (a b n C:Nat) (g:Nat→Nat):Prop where
 box:Own w a [.c (aV b 0 n C)]
 app:AppAt w b 27 4 n C
 lt:b<w.heap.size
 row:w.rangeAt b 0 (aA (bP (el g) 0 n))
 ne:a≠b
theorem AppAt.free {w:World} {b e sz n C:Nat} (h:AppAt w b e sz n C) (j:Nat):w.frozen? ⟨b,j,none⟩=false:=by
 obtain⟨cur,h1,_⟩:=h;simp[World.frozen?,h1]
theorem ElM.wrc {w w':World} {a b n C r:Nat} {g:Nat→Nat} (h:ElM w a b n C g) (hW:WrC w w' r) (ha:a≠r) (hb:b≠r):ElM w' a b n C g :=
 ⟨⟨Nat.lt_of_lt_of_le h.box.lt hW.below.size,fun j v hj=>(hW.mem ⟨a,0+j,none⟩ h.box.lt ha).1.trans (h.box.row j v hj),fun j=>(hW.mem ⟨a,j,none⟩ h.box.lt ha).2.trans (h.box.free j)⟩,h.app.shape hW.shape,Nat.lt_of_lt_of_le h.lt hW.below.size,
  fun j v hj=>(hW.mem ⟨b,0+j,none⟩ h.lt hb).1.trans (h.row j v hj),h.ne⟩
theorem ElM.on {w w':World} {a b n C:Nat} {g:Nat→Nat} (h:ElM w a b n C g) (hW:Below w.heap.size w w'):ElM w' a b n C g :=
 ⟨⟨Nat.lt_of_lt_of_le h.box.lt hW.size,cZ hW h.box.lt h.box.row,fun j=>(hW.frozen (p:=⟨a,j,none⟩) h.box.lt).trans (h.box.free j)⟩,h.app.shape (Shape.below hW),Nat.lt_of_lt_of_le h.lt hW.size,cZ hW h.lt h.row,h.ne⟩
theorem ElM.putL {w:World} {a b n C l:Nat} {g:Nat→Nat} {r:Loop} {o:Obj} (h:ElM w a b n C g) (hl:w.heap[l]?=some (.loop r)):ElM (w.putObj l o) a b n C g:=by
 have hb:b≠l:=fun e=>by
  obtain⟨cur,h1,_⟩:=h.app;rw[e,hl]at h1; cases h1
 have ha:a≠l:=fun e=>by
  have:=h.box.row 0 _ rfl;rw[Nat.zero_add,e]at this;simp[World.cell?,hl]at this
 refine⟨⟨by rw[World.putObj_size]; exact h.box.lt,kQ hl ha h.box.row,fun j=>(kR hl (p:=⟨a,j,none⟩) ha).2.trans (h.box.free j)⟩,?_,by rw[World.putObj_size]; exact h.lt,kQ hl hb h.row,h.ne⟩;obtain⟨cur,h1,h2,h3,h4⟩:=h.app;exact⟨cur,(World.putObj_heap_other hb).trans h1,h2,h3,h4⟩
theorem Own.putL {w:World} {r l:Nat} {c:Value} {rec:Loop} {o:Obj} (h:Own w r [.c c]) (hl:w.heap[l]?=some (.loop rec)):Own (w.putObj l o) r [.c c]:=by
 have ha:r≠l:=fun e=>by
  have:=h.row 0 _ rfl;rw[Nat.zero_add,e]at this;simp[World.cell?,hl]at this
 exact⟨by rw[World.putObj_size]; exact h.lt,kQ hl ha h.row,fun j=>(kR hl (p:=⟨r,j,none⟩) ha).2.trans (h.free j)⟩
theorem WT (x:Nat):∀v∈aA [At.q x],v.oneCell'=true:=fun v hv=>by
 have e:aA [At.q x]=w4 x:=by simp[aA,At.cells]
 rw[e]at hv;simp only[w4,List.mem_cons,List.not_mem_nil,or_false]at hv
 rcases hv with rfl|rfl|rfl|rfl<;>rfl
theorem nO (f:Nat→Nat):∀n s,(aA (bP (el f) s n)).length=n*4
 | 0,s=>rfl
 | n+1,s=>by
  show (aA (el f s++bP (el f) (s+1) n)).length=_;rw[aJ,List.length_append,nO f n (s+1)];show 4+n*4=_;omega
theorem fI {f g:Nat→Nat}:∀(n s:Nat),(∀j,j<n→f (s+j)=g (s+j))→bP (el f) s n=bP (el g) s n
 | 0,s,h=>rfl
 | n+1,s,h=>by
  have h0:f s=g s:=h 0 (by omega);have h1:bP (el f) (s+1) n=bP (el g) (s+1) n:=fI n (s+1) fun j hj=>by
   have e:s+1+j=s+(j+1):=by omega
   rw[e];exact h (j+1) (by omega)
  show [At.q (f s)]++bP (el f) (s+1) n=[At.q (g s)]++bP (el g) (s+1) n;rw[h0,h1]
theorem SO:apT prog 92=some (27,4,32):=by kernel_rfl
theorem Cp {w:World} {b n C c m x:Nat} {g:Nat→Nat} (ha:AppAt w b 27 4 n C) (hr:w.rangeAt b 0 (aA (bP (el g) 0 n))) (hx:w.rangeAt c 0 (aA [At.q x])) (hC:n+1≤C) (ty:TypeId) :
  ∃w',(Builtin.append_ #[92,92] ty #[aV b 0 n C,aV c 0 1 m]).run prog w=.ok (aV b 0 (n+1) C) w'∧AppAt w' b 27 4 (n+1) C ∧
   w'.rangeAt b 0 (aA (bP (el fun j=>if j<n then g j else x) 0 (n+1)))∧w.grownBy w' (some b)∧Shape w w':=by
 obtain⟨ht,i,z,hi,hz,hsize,hby,hzs,hsz⟩:=lD SO;have hown:=XT ha hr (nO g n 0);have hnews:∀j v,(aA [At.q x])[j]?=some v→w.cell? ((⟨c,0,none⟩:Addr).add j)=some v:=fun j v hj=>by
  have:=hx j v hj
  rwa [show (⟨c,0,none⟩:Addr).add j=⟨c,0+j,none⟩ by simp[Addr.add]<;>omega]
 obtain⟨w',hr',hown',hg⟩:=run_append_fits (P:=prog) w 0 92 ty 27 i 4 ht hi hsize b n C _ hown ⟨c,0,none⟩ 1 m (aA [At.q x]) (by kernel_rfl) hnews (WT x) hC;obtain⟨a1,a2,a3,a4,a5⟩:=qS hown';refine⟨w',hr',a1,?_,hg,⟨fun q cur e' hq => ?_,KeepsOthers.of_grownBy hg fun j o e ho => ?_⟩⟩
 ·have e:aA (bP (el fun j=>if j<n then g j else x) 0 (n+1))=aA (bP (el g) 0 n)++aA [At.q x]:=by
   rw[wY,aJ];congr 1
   ·exact congrArg aA (fI n 0 fun j hj=>by rw[Nat.zero_add,if_pos hj])
   ·show aA [At.q (if 0+n<n then g (0+n)else x)]=_;rw[if_neg (by omega)]
  rw[e]; exact a4
 ·by_cases hqb:q=b
  ·subst hqb;obtain⟨c0,k1,k2,k3,k4⟩:=ha;rw[k1]at hq;cases hq;obtain⟨c1,m1,m2,m3,m4⟩:=a1;exact⟨c1,m1,by rw[m4,k4]⟩
  ·exact⟨cur,(hg.block q (Array.getElem?_eq_some_iff.1 hq).1 (by simpa using hqb)).trans hq,rfl⟩
 ·obtain⟨c0,k1,_⟩:=ha;cases e;rw[k1]at ho;cases ho;rfl
theorem Uc (w:World) (x:Nat):∃e,(Instr.buildSlice 92 1 #[(0,.agg (aA [At.q x]).toArray)]).run prog w=.ok (aV w.heap.size 0 1 1) (w.alloc (.cells (aA [At.q x]).toArray e)):=by
 obtain⟨ht,i,z,hi,hz,hsize,hby,hzs,hsz⟩:=lD SO;refine⟨27,run_buildSlice w 92 27 1 #[(0,.agg (aA [At.q x]).toArray)] (aA [At.q x]).toArray i z ht hi hz (by rw[hsize]; decide) (by rw[hsize]; decide) ?_⟩;rw[hsize];have hl:((Array.range (1*4)).map (z.cells[· % z.cells.size]!)).size=4:=by simp
 generalize (Array.range (1*4)).map (z.cells[· % z.cells.size]!)=Z at hl;obtain⟨Z⟩:=Z
 match Z,hl with
 | [z0,z1,z2,z3],_ =>
  show Instr.fill _ _ _=some _
  kernel_rfl
end Go.Proofs.YtpbljiejmfahcaaGreatDoor.Ex
