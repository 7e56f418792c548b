/- Et04 -/
import Derived.Deep.LoopGhost
import Derived.KernelRfl
import Derived.Deep.RegionWith
import Derived.Lib.Hide
import Derived.Below
import Derived.LoopTactic
import Derived.Outline
import Derived.Test.YtpjlhhpjpnacmaaGreatDoorEt03
import Derived.Test.YtpjlhhpjpnacmaaGreatDoorEt00
import Derived.Test.YtpjlhhpjpnacmaaGreatDoorEt02
import Derived.Test.YtpjlhhpjpnacmaaGreatDoorProg
set_option maxRecDepth 100000
set_option linter.unusedVariables false
set_option linter.unusedSimpArgs false
set_option linter.unnecessarySimpa false
namespace Go.Proofs.YtpjlhhpjpnacmaaGreatDoor
open Go.Proofs.Tryz
open Go.RowKit
def cZ (P:Nat→Prop) (w:World) (e:Ending) (w':World):Prop :=
 ∃s0 s1 s2 s3:Nat,e=.returned (.agg #[.int .u64 s0,.int .u64 s1,.int .u64 s2,.int .u64 s3])∧cF s0 s1 s2 s3∧P (aC s0 s1 s2 s3)∧Below w.heap.size w w'
structure TW (w wr:World) (lb:Nat) (b0 b1 b2 b3 s0 s1 s2 s3:Nat):Prop where
 below:Below w.heap.size w wr
 size:lb<wr.heap.size
 lo:w.heap.size+1+1<lb
 rowB:Row4 wr (w.heap.size+1) b0 b1 b2 b3
 rowO:Row4 wr (w.heap.size+1+1) 0 0 0 0
 rowS:Row4 wr lb s0 s1 s2 s3
theorem PJ (w:World) (o1 o2 o3:Obj):Below w.heap.size w (((w.alloc o1).alloc o2).alloc o3) :=
 (((Below.refl _ _).alloc (Nat.le_refl _) o1).alloc (by simp) o2).alloc (by simp; omega) o3
set_option maxHeartbeats 1000000 in
theorem FE (r0 r1 r2 r3 x b0 b1 b2 b3:Nat) (hr:cF r0 r1 r2 r3) (hx:x<18446744073709551616) (hb:cF b0 b1 b2 b3) (h3:9223372036854775808≤b3) (hlt:aC r0 r1 r2 r3<aC b0 b1 b2 b3) (hg:r3<b3) (w:World) :
  Calls prog 190 #[.agg #[.int .u64 r0,.int .u64 r1,.int .u64 r2,.int .u64 r3],.int .u64 x,.agg #[.int .u64 b0,.int .u64 b1,.int .u64 b2,.int .u64 b3]] w (cZ (fun n=>n=(aC r0 r1 r2 r3*18446744073709551616+x)%aC b0 b1 b2 b3) w):=by
 obtain⟨g,ρ,dg,bg,bρ,eg⟩:=Dv hg hr.2.2.1 hb.2.2.2;have cg:g<18446744073709551616:=bg;have HF:=Lib.hid (show (aC r0 r1 r2 r3*18446744073709551616+x)/aC b0 b1 b2 b3≤g∧g≤(aC r0 r1 r2 r3*18446744073709551616+x)/aC b0 b1 b2 b3+2 by
  obtain⟨t,e1,ht⟩:=BO b0 b1 b2 b3 hb;obtain⟨m,e2,hm⟩:=aDR (r2:=r2) hx hr.1 hr.2.1;have eg:=eg.out;exact Dd e1 ht h3 (r:=r3*18446744073709551616+r2) (m:=m) (by rw[Ig,e2]; omega) hm bg (by omega) (by omega))
 clear eg bρ
 go_enter func190,ntmps190
 go_wp2_with fail;refine (dg _).mono ?_
 rintro e w' ⟨rfl,n,rfl⟩
 go_wp2_with fail;refine (EX b0 b1 b2 b3 g hb cg _).mono ?_
 rintro e w1 ⟨p0,p1,p2,p3,o,rfl,hp,ho,ep,hbl⟩
 have R1:=(((Row4.new w r0 r1 r2 r3 24).alloc (by simp) _).alloc (by simp; omega) _).drewN n |>.below hbl (by simp; omega)
 have B1:=(((Row4.new (w.alloc _) b0 b1 b2 b3 24).alloc (by simp) _).drewN n).below hbl (by simp);have O1:=((Row4.new ((w.alloc _).alloc _) 0 0 0 0 24).drewN n).below hbl (by simp);simp only[World.size_alloc]at B1 O1;have hz1:w.heap.size+1+1<w1.heap.size:=by have:=hbl.size; simp at this; omega
 have hy1:w.heap.size+1<w1.heap.size:=by omega
 have hx1:w.heap.size<w1.heap.size:=by omega
 have Hbl:=Lib.hid hbl; have Hep:=Lib.hid ep;clear hbl ep;have R1':=R1;obtain⟨x0,x1,x2,x3,xf⟩:=R1;go_wp2_with fail;refine (oR x r0 r1 r2 p0 p1 p2 p3 ⟨hx,hr.1,hr.2.1,hr.2.2.1⟩ hp _).mono ?_
 rintro e w2 ⟨s0,s1,s2,s3,c,rfl,hs,hc,es,hbl⟩
 have R2:=(R1'.alloc hx1 _).below hbl (by rw[World.size_alloc]; omega);have B2:=(B1.alloc hy1 _).below hbl (by rw[World.size_alloc]; omega);have O2:=(O1.alloc hz1 _).below hbl (by rw[World.size_alloc]; omega);have hz2:w1.heap.size<w2.heap.size:=by have:=hbl.size; simp at this; omega
 have hw2:w.heap.size+1+1<w2.heap.size:=by omega
 have hy2:w.heap.size+1<w2.heap.size:=by omega
 have hx2:w.heap.size<w2.heap.size:=by omega
 have Hbl2:=Lib.hid hbl; have Hes:=Lib.hid es;clear hbl es x0 x1 x2 x3 xf;obtain⟨x0,x1,x2,x3,xf⟩:=R2;have vb:=bT hb;obtain⟨top,etop,btop,ti⟩:=EZ (N:=aC r0 r1 r2 r3*18446744073709551616+x) (r3:=r3) vb (by omega) (Ig r0 r1 r2 r3 x) (bT ⟨hx,hr.1,hr.2.1,hr.2.2.1⟩) HF.out.1 HF.out.2 hr.2.2.2 ho Hep.out (bT hp) Hes.out (bT hs);have Hti:=Lib.hid ti;have HB2:Below w.heap.size w (w2.alloc (.cells #[.int .u64 s0,.int .u64 s1,.int .u64 s2,.int .u64 s3] 24)) :=
  (((PJ w _ _ _).trans (bW _ _ n)).trans (Hbl.out.mono (by simp; omega)) |>.alloc (by omega) _ |>.trans (Hbl2.out.mono (by rw[World.size_alloc]; omega))).alloc (by omega) _
 have HH:=Lib.hid HB2;clear ti vb HB2 Hbl Hbl2 Hep Hes HF;go_wp2_with fail;clear etop x0 x1 x2 x3 xf
 go_loopg [12] (g-(aC r0 r1 r2 r3*18446744073709551616+x)/aC b0 b1 b2 b3) (fun k t wr=>∃top s0 s1 s2 s3,t=.int .u64 (top:Nat)∧top<18446744073709551616∧cF s0 s1 s2 s3∧Hid (TI (aC b0 b1 b2 b3) ((aC r0 r1 r2 r3*18446744073709551616+x)%aC b0 b1 b2 b3) k top (aC s0 s1 s2 s3))∧TW w wr w2.heap.size b0 b1 b2 b3 s0 s1 s2 s3)
 case atStart=>exact⟨top,s0,s1,s2,s3,rfl,btop,hs,Hti,⟨HH.out,by simp,by omega,B2.alloc hy2 _,O2.alloc hw2 _,Row4.new _ _ _ _ _ _⟩⟩
 case round =>
  obtain⟨top,s0,s1,s2,s3,rfl,btop,hs,ti,tw⟩:=hrel;obtain⟨y0,y1,y2,y3,yf⟩:=tw.rowB;obtain⟨z0,z1,z2,z3,zf⟩:=tw.rowS;obtain⟨o0,o1,o2,o3,of⟩:=tw.rowO;have hsz:=tw.size;have hlo:=tw.lo
  rcases Nat.eq_zero_or_pos gk with rfl|hk
  ·have ht:=ti.out.2.1 rfl;have t0:((top:Int) != 0)=false:=by simp[ht.1]
   have HR:=Lib.hid ht.2;have HB:=Lib.hid tw.below;have HW:=Lib.hid tw;clear ti ht tw;go_wp2_with fail;refine bodyPost_ret (v:=.agg #[.int .u64 s0,.int .u64 s1,.int .u64 s2,.int .u64 s3]) (by simp[results,results190,go_sem, *]) rfl ?_;exact⟨s0,s1,s2,s3,rfl,hs,HR.out,aZ HB.out (by omega) _ _ _ _⟩
  ·obtain⟨k,rfl⟩:∃k,gk=k+1:=⟨gk-1,by omega⟩
   have hp:=YG ti.out hk;have t0:((top:Int) != 0)=true:=by simp; omega
   have HW:=Lib.hid tw;clear tw;go_wp2_with fail;refine (BE s0 s1 s2 s3 b0 b1 b2 b3 hs hb _).mono ?_
   rintro e w3 ⟨n0,n1,n2,n3,c,rfl,hn,hc,en,hbl⟩
   have hz3:wr.heap.size≤w3.heap.size:=hbl.size;obtain⟨top',et,bt,ti'⟩:=FA (bT hb) (Nat.mod_lt _ (by have:=bT hb; omega)) ti.out btop (bT hs) (bT hn) hc en;have S3:=HW.out.rowS.below hbl hsz;have T3:TW w (set4 w3 w2.heap.size n0 n1 n2 n3) w2.heap.size b0 b1 b2 b3 n0 n1 n2 n3 :=
    ⟨aZ (HW.out.below.trans (hbl.mono HW.out.below.size)) (by omega) _ _ _ _,by unfold set4; simp only[World.size_setCell]; omega,hlo,
     (HW.out.rowB.below hbl (by omega)).set4_other (by omega) _ _ _ _,(HW.out.rowO.below hbl (by omega)).set4_other (by omega) _ _ _ _,S3.set4 _ _ _ _⟩
   have HT:=Lib.hid T3;have Hti:=Lib.hid ti';obtain⟨v0,v1,v2,v3,vf⟩:=S3;clear hbl en T3 ti' ti;go_wp2_with fail
   go_roundg k
   case rel=>exact⟨top',n0,n1,n2,n3,rfl,bt,hn,Hti,HT.out⟩
   case measure=>omega
set_option maxHeartbeats 1000000 in
theorem FF (r0 r1 r2 r3 x b0 b1 b2 b3:Nat) (hr:cF r0 r1 r2 r3) (hx:x<18446744073709551616) (hb:cF b0 b1 b2 b3) (h3:9223372036854775808≤b3) (hlt:aC r0 r1 r2 r3<aC b0 b1 b2 b3) (hg:¬r3<b3) (w:World) :
  Calls prog 190 #[.agg #[.int .u64 r0,.int .u64 r1,.int .u64 r2,.int .u64 r3],.int .u64 x,.agg #[.int .u64 b0,.int .u64 b1,.int .u64 b2,.int .u64 b3]] w (cZ (fun n=>n=(aC r0 r1 r2 r3*18446744073709551616+x)%aC b0 b1 b2 b3) w):=by
 have HF:=Lib.hid (show (aC r0 r1 r2 r3*18446744073709551616+x)/aC b0 b1 b2 b3≤18446744073709551615∧18446744073709551615≤(aC r0 r1 r2 r3*18446744073709551616+x)/aC b0 b1 b2 b3+2 by
  obtain⟨t,e1,ht⟩:=BO b0 b1 b2 b3 hb;obtain⟨t',e1',ht'⟩:=BO r0 r1 r2 r3 hr;obtain⟨m,e2,hm⟩:=aDR (r2:=r2) hx hr.1 hr.2.1;exact De e1 ht h3 (r2:=r2) (m:=m) (by rw[Ig,e2]; omega) rfl hx hlt)
 go_enter func190,ntmps190
 go_wp2_with fail;refine (EX b0 b1 b2 b3 18446744073709551615 hb (by omega) _).mono ?_
 rintro e w1 ⟨p0,p1,p2,p3,o,rfl,hp,ho,ep,hbl⟩
 have R1:=(((Row4.new w r0 r1 r2 r3 24).alloc (by simp) _).alloc (by simp; omega) _) |>.below hbl (by simp; omega)
 have B1:=(((Row4.new (w.alloc _) b0 b1 b2 b3 24).alloc (by simp) _)).below hbl (by simp);have O1:=((Row4.new ((w.alloc _).alloc _) 0 0 0 0 24)).below hbl (by simp);simp only[World.size_alloc]at B1 O1;have hz1:w.heap.size+1+1<w1.heap.size:=by have:=hbl.size; simp at this; omega
 have hy1:w.heap.size+1<w1.heap.size:=by omega
 have hx1:w.heap.size<w1.heap.size:=by omega
 have Hbl:=Lib.hid hbl; have Hep:=Lib.hid ep;clear hbl ep;have R1':=R1;obtain⟨x0,x1,x2,x3,xf⟩:=R1;go_wp2_with fail;refine (oR x r0 r1 r2 p0 p1 p2 p3 ⟨hx,hr.1,hr.2.1,hr.2.2.1⟩ hp _).mono ?_
 rintro e w2 ⟨s0,s1,s2,s3,c,rfl,hs,hc,es,hbl⟩
 have R2:=(R1'.alloc hx1 _).below hbl (by rw[World.size_alloc]; omega);have B2:=(B1.alloc hy1 _).below hbl (by rw[World.size_alloc]; omega);have O2:=(O1.alloc hz1 _).below hbl (by rw[World.size_alloc]; omega);have hz2:w1.heap.size<w2.heap.size:=by have:=hbl.size; simp at this; omega
 have hw2:w.heap.size+1+1<w2.heap.size:=by omega
 have hy2:w.heap.size+1<w2.heap.size:=by omega
 have hx2:w.heap.size<w2.heap.size:=by omega
 have Hbl2:=Lib.hid hbl; have Hes:=Lib.hid es;clear hbl es x0 x1 x2 x3 xf;obtain⟨x0,x1,x2,x3,xf⟩:=R2;have vb:=bT hb;obtain⟨top,etop,btop,ti⟩:=EZ (N:=aC r0 r1 r2 r3*18446744073709551616+x) (r3:=r3) vb (by omega) (Ig r0 r1 r2 r3 x) (bT ⟨hx,hr.1,hr.2.1,hr.2.2.1⟩) HF.out.1 HF.out.2 hr.2.2.2 ho Hep.out (bT hp) Hes.out (bT hs);have Hti:=Lib.hid ti;have HB2:Below w.heap.size w (w2.alloc (.cells #[.int .u64 s0,.int .u64 s1,.int .u64 s2,.int .u64 s3] 24)) :=
  ((PJ w _ _ _).trans (Hbl.out.mono (by simp; omega)) |>.alloc (by omega) _ |>.trans (Hbl2.out.mono (by rw[World.size_alloc]; omega))).alloc (by omega) _
 have HH:=Lib.hid HB2;clear ti vb HB2 Hbl Hbl2 Hep Hes HF;go_wp2_with fail;clear etop x0 x1 x2 x3 xf
 go_loopg [12] (18446744073709551615-(aC r0 r1 r2 r3*18446744073709551616+x)/aC b0 b1 b2 b3) (fun k t wr=>∃top s0 s1 s2 s3,t=.int .u64 (top:Nat)∧top<18446744073709551616∧cF s0 s1 s2 s3∧Hid (TI (aC b0 b1 b2 b3) ((aC r0 r1 r2 r3*18446744073709551616+x)%aC b0 b1 b2 b3) k top (aC s0 s1 s2 s3))∧TW w wr w2.heap.size b0 b1 b2 b3 s0 s1 s2 s3)
 case atStart=>exact⟨top,s0,s1,s2,s3,rfl,btop,hs,Hti,⟨HH.out,by simp,by omega,B2.alloc hy2 _,O2.alloc hw2 _,Row4.new _ _ _ _ _ _⟩⟩
 case round =>
  obtain⟨top,s0,s1,s2,s3,rfl,btop,hs,ti,tw⟩:=hrel;obtain⟨y0,y1,y2,y3,yf⟩:=tw.rowB;obtain⟨z0,z1,z2,z3,zf⟩:=tw.rowS;obtain⟨o0,o1,o2,o3,of⟩:=tw.rowO;have hsz:=tw.size;have hlo:=tw.lo
  rcases Nat.eq_zero_or_pos gk with rfl|hk
  ·have ht:=ti.out.2.1 rfl;have t0:((top:Int) != 0)=false:=by simp[ht.1]
   have HR:=Lib.hid ht.2;have HB:=Lib.hid tw.below;have HW:=Lib.hid tw;clear ti ht tw;go_wp2_with fail;refine bodyPost_ret (v:=.agg #[.int .u64 s0,.int .u64 s1,.int .u64 s2,.int .u64 s3]) (by simp[results,results190,go_sem, *]) rfl ?_;exact⟨s0,s1,s2,s3,rfl,hs,HR.out,aZ HB.out (by omega) _ _ _ _⟩
  ·obtain⟨k,rfl⟩:∃k,gk=k+1:=⟨gk-1,by omega⟩
   have hp:=YG ti.out hk;have t0:((top:Int) != 0)=true:=by simp; omega
   have HW:=Lib.hid tw;clear tw;go_wp2_with fail;refine (BE s0 s1 s2 s3 b0 b1 b2 b3 hs hb _).mono ?_
   rintro e w3 ⟨n0,n1,n2,n3,c,rfl,hn,hc,en,hbl⟩
   have hz3:wr.heap.size≤w3.heap.size:=hbl.size;obtain⟨top',et,bt,ti'⟩:=FA (bT hb) (Nat.mod_lt _ (by have:=bT hb; omega)) ti.out btop (bT hs) (bT hn) hc en;have S3:=HW.out.rowS.below hbl hsz;have T3:TW w (set4 w3 w2.heap.size n0 n1 n2 n3) w2.heap.size b0 b1 b2 b3 n0 n1 n2 n3 :=
    ⟨aZ (HW.out.below.trans (hbl.mono HW.out.below.size)) (by omega) _ _ _ _,by unfold set4; simp only[World.size_setCell]; omega,hlo,
     (HW.out.rowB.below hbl (by omega)).set4_other (by omega) _ _ _ _,(HW.out.rowO.below hbl (by omega)).set4_other (by omega) _ _ _ _,S3.set4 _ _ _ _⟩
   have HT:=Lib.hid T3;have Hti:=Lib.hid ti';obtain⟨v0,v1,v2,v3,vf⟩:=S3;clear hbl en T3 ti' ti;go_wp2_with fail
   go_roundg k
   case rel=>exact⟨top',n0,n1,n2,n3,rfl,bt,hn,Hti,HT.out⟩
   case measure=>omega
theorem wD (r0 r1 r2 r3 x b0 b1 b2 b3:Nat) (hr:cF r0 r1 r2 r3) (hx:x<18446744073709551616) (hb:cF b0 b1 b2 b3) (h3:9223372036854775808≤b3) (hlt:aC r0 r1 r2 r3<aC b0 b1 b2 b3) (w:World) :
  Calls prog 190 #[.agg #[.int .u64 r0,.int .u64 r1,.int .u64 r2,.int .u64 r3],.int .u64 x,.agg #[.int .u64 b0,.int .u64 b1,.int .u64 b2,.int .u64 b3]] w (cZ (fun n=>n=(aC r0 r1 r2 r3*18446744073709551616+x)%aC b0 b1 b2 b3) w):=by
 by_cases hg:r3<b3
 ·exact FE r0 r1 r2 r3 x b0 b1 b2 b3 hr hx hb h3 hlt hg w
 ·exact FF r0 r1 r2 r3 x b0 b1 b2 b3 hr hx hb h3 hlt hg w
def Mem (w wr:World) (rs:List (Nat×Nat×Nat×Nat×Nat)):Prop :=
 Below w.heap.size w wr∧∀r,r∈rs→r.1<wr.heap.size∧Row4 wr r.1 r.2.1 r.2.2.1 r.2.2.2.1 r.2.2.2.2
theorem Mem.nil (w:World):Mem w w []:=⟨Below.refl _ _,fun _ h=>by cases h⟩
theorem Mem.on {w wr w':World} {rs:List (Nat×Nat×Nat×Nat×Nat)} (h:Mem w wr rs) (hb:Below wr.heap.size wr w'):Mem w w' rs :=
 ⟨h.1.trans (hb.mono h.1.size),fun r hr=>⟨Nat.lt_of_lt_of_le (h.2 r hr).1 hb.size,(h.2 r hr).2.below hb (h.2 r hr).1⟩⟩
theorem Mem.drewN {w wr:World} {rs:List (Nat×Nat×Nat×Nat×Nat)} (h:Mem w wr rs) (n:Nat):Mem w (wr.drewN n) rs:=h.on (bW _ _ n)
theorem Mem.new {w wr:World} {rs:List (Nat×Nat×Nat×Nat×Nat)} (h:Mem w wr rs) (b c0 c1 c2 c3:Nat) (t:TypeId) (hb:b=wr.heap.size) :
  Mem w (wr.alloc (.cells #[.int .u64 c0,.int .u64 c1,.int .u64 c2,.int .u64 c3] t)) ((b,c0,c1,c2,c3)::rs):=by
 subst hb;have hB:Below wr.heap.size wr (wr.alloc (.cells #[.int .u64 c0,.int .u64 c1,.int .u64 c2,.int .u64 c3] t)):=(Below.refl _ _).alloc (Nat.le_refl _) _;refine⟨(h.on hB).1,fun r hr => ?_⟩
 rcases List.mem_cons.1 hr with e|hr
 ·rw[e];exact⟨by simp,Row4.new wr c0 c1 c2 c3 t⟩
 ·exact (h.on hB).2 r hr
theorem Mem.sub {w wr:World} {rs rs':List (Nat×Nat×Nat×Nat×Nat)} (h:Mem w wr rs) (hs:∀r,r∈rs'→r∈rs):Mem w wr rs':=⟨h.1,fun r hr=>h.2 r (hs r hr)⟩
theorem Mem.put {w wr:World} {rs:List (Nat×Nat×Nat×Nat×Nat)} {b c0 c1 c2 c3:Nat} (h:Mem w wr ((b,c0,c1,c2,c3)::rs)) (d0 d1 d2 d3:Nat) (hw:w.heap.size≤b) (hne:∀r,r∈rs→r.1≠b) :
  Mem w (set4 wr b d0 d1 d2 d3) ((b,d0,d1,d2,d3)::rs):=by
 refine⟨aZ h.1 hw _ _ _ _,fun r hr => ?_⟩;have hs:(set4 wr b d0 d1 d2 d3).heap.size=wr.heap.size:=by unfold set4; simp only[World.size_setCell]
 rcases List.mem_cons.1 hr with e|hr
 ·rw[e];exact⟨by rw[hs]; exact (h.2 _ List.mem_cons_self).1,(h.2 _ List.mem_cons_self).2.set4 _ _ _ _⟩
 ·exact⟨by rw[hs]; exact (h.2 r (List.mem_cons_of_mem _ hr)).1,(h.2 r (List.mem_cons_of_mem _ hr)).2.set4_other (fun e=>hne r hr e.symm) _ _ _ _⟩
theorem AQ {x c:Nat} (hx:x<18446744073709551616) (hc:c≤1):∃d b:Nat,(∀w,(callFunc 94 #[.int .u64 (x:Int),.int .u64 0,.int .u64 (c:Int)]).run prog w =
   .ok (.value (.tuple #[.int .u64 (d:Int),.int .u64 (b:Int)])) w)∧d<18446744073709551616∧b≤1∧Hid (d+18446744073709551616*b=x+c) :=
 ⟨_,_,tH x 0 c hc,EF _ _ _,EI hx (by omega) hc,Lib.hid (by have:=Gm x 0 c; omega)⟩
set_option maxHeartbeats 1000000 in
theorem uV {a b c d:Nat} (ha:a<18446744073709551616) (hb:b<18446744073709551616) (hc:c<18446744073709551616) (hd:d<18446744073709551616):∃h l:Nat,
  (∀w,Calls prog 210 #[.int .u64 a,.int .u64 b,.int .u64 c,.int .u64 d] w fun e w'=>e=.returned (.tuple #[.int .u64 (h:Nat),.int .u64 (l:Nat)])∧w'=w) ∧
  h<18446744073709551616∧l<18446744073709551616∧Hid (l+18446744073709551616*h=a*b+c+d):=by
 obtain⟨h,l,r,hh,hl,e⟩:=xV ha hb;obtain⟨l1,c1,r1,hl1,hc1,e1⟩:=iS hl hc;obtain⟨h1,z1,r2,hh1,hz1,e2⟩:=AQ (show h<18446744073709551616 by omega) hc1;obtain⟨l2,c2,r3,hl2,hc2,e3⟩:=iS hl1 hd;obtain⟨h2,z2,r4,hh2,hz2,e4⟩:=AQ hh1 hc2;have hab:=nW (show a≤18446744073709551615 by omega) (show b≤18446744073709551615 by omega);refine⟨h2,l2,fun w => ?_,hh2,hl2,Lib.hid (by have:=e.out; have:=e1.out; have:=e2.out; have:=e3.out; have:=e4.out; omega)⟩;clear e e1 e2 e3 e4 hab
 go_enter func210,ntmps210
 go_wp2_with fail;refine (r _).mono ?_
 rintro e w' ⟨rfl,rfl⟩
 go_wp2_with fail
 go_ret2
 exact⟨rfl,rfl⟩
structure KIs (w:World) (b:Nat) (F:FC):Prop where
 k0:w.cell? ⟨b,0,none⟩=some (.int .u64 F.m0)
 k1:w.cell? ⟨b,1,none⟩=some (.int .u64 F.m1)
 k2:w.cell? ⟨b,2,none⟩=some (.int .u64 F.m2)
 k3:w.cell? ⟨b,3,none⟩=some (.int .u64 F.m3)
 k4:w.cell? ⟨b,4,none⟩=some (.int .u64 F.inv)
 k5:w.cell? ⟨b,5,none⟩=some (.int .u64 F.s0)
 k6:w.cell? ⟨b,6,none⟩=some (.int .u64 F.s1)
 k7:w.cell? ⟨b,7,none⟩=some (.int .u64 F.s2)
 k8:w.cell? ⟨b,8,none⟩=some (.int .u64 F.s3)
 lt:b<w.heap.size
theorem KIs.below {w w':World} {b:Nat} {F:FC} (h:KIs w b F) {B:Nat} (hb:Below B w w') (hB:b<B):KIs w' b F :=
 ⟨by rw[hb.cell (p:=⟨b,0,none⟩) hB]; exact h.k0,by rw[hb.cell (p:=⟨b,1,none⟩) hB]; exact h.k1,by rw[hb.cell (p:=⟨b,2,none⟩) hB]; exact h.k2,by rw[hb.cell (p:=⟨b,3,none⟩) hB]; exact h.k3,
  by rw[hb.cell (p:=⟨b,4,none⟩) hB]; exact h.k4,by rw[hb.cell (p:=⟨b,5,none⟩) hB]; exact h.k5,by rw[hb.cell (p:=⟨b,6,none⟩) hB]; exact h.k6,by rw[hb.cell (p:=⟨b,7,none⟩) hB]; exact h.k7,by rw[hb.cell (p:=⟨b,8,none⟩) hB]; exact h.k8,Nat.lt_of_lt_of_le h.lt hb.size⟩
theorem KIs.same {w w':World} {b:Nat} {F:FC} (h:KIs w b F) (hb:Below w.heap.size w w'):KIs w' b F:=h.below hb h.lt
theorem KIs.drewN {w:World} {b:Nat} {F:FC} (h:KIs w b F) (n:Nat):KIs (w.drewN n) b F:=⟨h.k0,h.k1,h.k2,h.k3,h.k4,h.k5,h.k6,h.k7,h.k8,h.lt⟩
theorem KIs.other {w:World} {b d i:Nat} {F:FC} (h:KIs w b F) (hd:d≠b) (v:Value):KIs (w.setCell ⟨d,i,none⟩ v) b F :=
 ⟨by rw[World.cell?_setCell_other (h:=fun he=>hd (by simpa using congrArg Addr.block he)) ..]; exact h.k0,by rw[World.cell?_setCell_other (h:=fun he=>hd (by simpa using congrArg Addr.block he)) ..]; exact h.k1,
  by rw[World.cell?_setCell_other (h:=fun he=>hd (by simpa using congrArg Addr.block he)) ..]; exact h.k2,by rw[World.cell?_setCell_other (h:=fun he=>hd (by simpa using congrArg Addr.block he)) ..]; exact h.k3,
  by rw[World.cell?_setCell_other (h:=fun he=>hd (by simpa using congrArg Addr.block he)) ..]; exact h.k4,by rw[World.cell?_setCell_other (h:=fun he=>hd (by simpa using congrArg Addr.block he)) ..]; exact h.k5,
  by rw[World.cell?_setCell_other (h:=fun he=>hd (by simpa using congrArg Addr.block he)) ..]; exact h.k6,by rw[World.cell?_setCell_other (h:=fun he=>hd (by simpa using congrArg Addr.block he)) ..]; exact h.k7,
  by rw[World.cell?_setCell_other (h:=fun he=>hd (by simpa using congrArg Addr.block he)) ..]; exact h.k8,by rw[World.size_setCell]; exact h.lt⟩
theorem DP {a0 a1 a2 a3 b0 b1 b2 b3:Nat} (ha:cF a0 a1 a2 a3) (hb:cF b0 b1 b2 b3):∃d0 c0 d1 c1 d2 c2 d3 c3:Nat,
  (∀w,(callFunc 150 #[.int .u64 (a0:Int),.int .u64 (b0:Int),.int .u64 0]).run prog w=.ok (.value (.tuple #[.int .u64 (d0:Int),.int .u64 (c0:Int)])) w) ∧
  (∀w,(callFunc 150 #[.int .u64 (a1:Int),.int .u64 (b1:Int),.int .u64 (c0:Int)]).run prog w=.ok (.value (.tuple #[.int .u64 (d1:Int),.int .u64 (c1:Int)])) w) ∧
  (∀w,(callFunc 150 #[.int .u64 (a2:Int),.int .u64 (b2:Int),.int .u64 (c1:Int)]).run prog w=.ok (.value (.tuple #[.int .u64 (d2:Int),.int .u64 (c2:Int)])) w) ∧
  (∀w,(callFunc 150 #[.int .u64 (a3:Int),.int .u64 (b3:Int),.int .u64 (c2:Int)]).run prog w=.ok (.value (.tuple #[.int .u64 (d3:Int),.int .u64 (c3:Int)])) w) ∧
  cF d0 d1 d2 d3∧c3≤1∧Hid (aC d0 d1 d2 d3+aC b0 b1 b2 b3=aC a0 a1 a2 a3+115792089237316195423570985008687907853269984665640564039457584007913129639936*c3):=by
 obtain⟨d0,c0,r0,h0,k0,e0⟩:=AP ha.1 hb.1;obtain⟨d1,c1,r1,h1,k1,e1⟩:=mA ha.2.1 hb.2.1 k0;obtain⟨d2,c2,r2,h2,k2,e2⟩:=mA ha.2.2.1 hb.2.2.1 k1;obtain⟨d3,c3,r3,h3,k3,e3⟩:=mA ha.2.2.2 hb.2.2.2 k2;exact⟨d0,c0,d1,c1,d2,c2,d3,c3,r0,r1,r2,r3,⟨h0,h1,h2,h3⟩,k3,Lib.hid (by have:=e0.out; have:=e1.out; have:=e2.out; have:=e3.out; unfold aC; omega)⟩
theorem RU {a0 a1 a2 a3 b0 b1 b2 b3:Nat} (ha:cF a0 a1 a2 a3) (hb:cF b0 b1 b2 b3):∃d0 c0 d1 c1 d2 c2 d3 c3:Nat,
  (∀w,(callFunc 94 #[.int .u64 (a0:Int),.int .u64 (b0:Int),.int .u64 0]).run prog w=.ok (.value (.tuple #[.int .u64 (d0:Int),.int .u64 (c0:Int)])) w) ∧
  (∀w,(callFunc 94 #[.int .u64 (a1:Int),.int .u64 (b1:Int),.int .u64 (c0:Int)]).run prog w=.ok (.value (.tuple #[.int .u64 (d1:Int),.int .u64 (c1:Int)])) w) ∧
  (∀w,(callFunc 94 #[.int .u64 (a2:Int),.int .u64 (b2:Int),.int .u64 (c1:Int)]).run prog w=.ok (.value (.tuple #[.int .u64 (d2:Int),.int .u64 (c2:Int)])) w) ∧
  (∀w,(callFunc 94 #[.int .u64 (a3:Int),.int .u64 (b3:Int),.int .u64 (c2:Int)]).run prog w=.ok (.value (.tuple #[.int .u64 (d3:Int),.int .u64 (c3:Int)])) w) ∧
  cF d0 d1 d2 d3∧c3≤1∧Hid (aC d0 d1 d2 d3+115792089237316195423570985008687907853269984665640564039457584007913129639936*c3=aC a0 a1 a2 a3+aC b0 b1 b2 b3):=by
 obtain⟨d0,c0,r0,h0,k0,e0⟩:=iS ha.1 hb.1;obtain⟨d1,c1,r1,h1,k1,e1⟩:=mB ha.2.1 hb.2.1 k0;obtain⟨d2,c2,r2,h2,k2,e2⟩:=mB ha.2.2.1 hb.2.2.1 k1;obtain⟨d3,c3,r3,h3,k3,e3⟩:=mB ha.2.2.2 hb.2.2.2 k2;exact⟨d0,c0,d1,c1,d2,c2,d3,c3,r0,r1,r2,r3,⟨h0,h1,h2,h3⟩,k3,Lib.hid (by have:=e0.out; have:=e1.out; have:=e2.out; have:=e3.out; unfold aC; omega)⟩
def lE (V:Nat) (w:World) (e:Ending) (w':World):Prop :=
 ∃s0 s1 s2 s3:Nat,e=.returned (.agg #[.int .u64 s0,.int .u64 s1,.int .u64 s2,.int .u64 s3])∧cF s0 s1 s2 s3∧aC s0 s1 s2 s3=V∧Below w.heap.size w w'
set_option maxHeartbeats 1000000 in
theorem xA (F:FC) (hF:F.Ok) (b t0 t1 t2 t3:Nat) (ht:cF t0 t1 t2 t3) (hlt:aC t0 t1 t2 t3<2*F.M) (w:World) (hk:KIs w b F) :
  Calls prog 211 #[.pointer (some ⟨b,0,none⟩),.int .u64 t0,.int .u64 t1,.int .u64 t2,.int .u64 t3] w (lE (aC t0 t1 t2 t3%F.M) w):=by
 obtain⟨d0,c0,d1,c1,d2,c2,d3,c3,r0,r1,r2,r3,hd,hc,e⟩:=DP ht hF.okm;have vd:=bT hd;have vt:=bT ht;have HV:=Lib.hid (Ap hlt);have HM:=Lib.hid (show F.M=aC F.m0 F.m1 F.m2 F.m3 from rfl);have hL:=hk.lt;have k0:=hk.k0; have k1:=hk.k1; have k2:=hk.k2; have k3:=hk.k3;clear hk hF hlt;have hc':c3=0∨c3=1:=by omega
 rcases hc' with rfl|rfl
 ·go_enter func211,ntmps211
  go_wp2_with fail;refine bodyPost_ret (v:=.agg #[.int .u64 d0,.int .u64 d1,.int .u64 d2,.int .u64 d3]) (by simp[results,results211,go_sem]) rfl ?_;refine⟨_,_,_,_,rfl,hd,?_,?_⟩
  ·rw[HV.out,if_neg (by have:=e.out; have:=HM.out; omega)]; have:=e.out; have:=HM.out; omega
  ·repeat (first|exact Below.refl _ _|refine Below.drew ?_|refine Below.alloc ?_ (by first|(simp; done)|(simp; omega)) _|refine Below.setCell ?_ (by simp) _)
 ·go_enter func211,ntmps211
  go_wp2_with fail;refine bodyPost_ret (v:=.agg #[.int .u64 t0,.int .u64 t1,.int .u64 t2,.int .u64 t3]) (by simp[results,results211,go_sem]) rfl ?_;refine⟨_,_,_,_,rfl,ht,?_,?_⟩
  ·rw[HV.out,if_pos (by have:=e.out; have:=HM.out; omega)]
  ·repeat (first|exact Below.refl _ _|refine Below.drew ?_|refine Below.alloc ?_ (by first|(simp; done)|(simp; omega)) _|refine Below.setCell ?_ (by simp) _)
theorem Dt (F:FC) (hF:F.Ok) {x y0 y1 y2 y3 t0 t1 t2 t3:Nat} {X:Nat→Nat} {k:Nat} (hk:k<4) (hx:x<18446744073709551616) (hX:X k=x) (hy:cF y0 y1 y2 y3) (hY:aC y0 y1 y2 y3<F.M) (ht:cF t0 t1 t2 t3) (g:PW F.M X (aC y0 y1 y2 y3) k (aC t0 t1 t2 t3)) :
  ∃o0 l0 cl c0 z o1 l1 c1 n0 o2 l2 c2 n1 o3 l3 c3 n2 n3:Nat,
  (∀w,Calls prog 210 #[.int .u64 x,.int .u64 y0,.int .u64 t0,.int .u64 0] w fun e w'=>e=.returned (.tuple #[.int .u64 (o0:Nat),.int .u64 (l0:Nat)])∧w'=w) ∧
  IntKind.u64.wrap ((l0:Int)*(F.inv:Int))=(cl:Int) ∧
  (∀w,Calls prog 210 #[.int .u64 cl,.int .u64 F.m0,.int .u64 l0,.int .u64 0] w fun e w'=>e=.returned (.tuple #[.int .u64 (c0:Nat),.int .u64 (z:Nat)])∧w'=w) ∧
  (∀w,Calls prog 210 #[.int .u64 x,.int .u64 y1,.int .u64 t1,.int .u64 o0] w fun e w'=>e=.returned (.tuple #[.int .u64 (o1:Nat),.int .u64 (l1:Nat)])∧w'=w) ∧
  (∀w,Calls prog 210 #[.int .u64 cl,.int .u64 F.m1,.int .u64 l1,.int .u64 c0] w fun e w'=>e=.returned (.tuple #[.int .u64 (c1:Nat),.int .u64 (n0:Nat)])∧w'=w) ∧
  (∀w,Calls prog 210 #[.int .u64 x,.int .u64 y2,.int .u64 t2,.int .u64 o1] w fun e w'=>e=.returned (.tuple #[.int .u64 (o2:Nat),.int .u64 (l2:Nat)])∧w'=w) ∧
  (∀w,Calls prog 210 #[.int .u64 cl,.int .u64 F.m2,.int .u64 l2,.int .u64 c1] w fun e w'=>e=.returned (.tuple #[.int .u64 (c2:Nat),.int .u64 (n1:Nat)])∧w'=w) ∧
  (∀w,Calls prog 210 #[.int .u64 x,.int .u64 y3,.int .u64 t3,.int .u64 o2] w fun e w'=>e=.returned (.tuple #[.int .u64 (o3:Nat),.int .u64 (l3:Nat)])∧w'=w) ∧
  (∀w,Calls prog 210 #[.int .u64 cl,.int .u64 F.m3,.int .u64 l3,.int .u64 c2] w fun e w'=>e=.returned (.tuple #[.int .u64 (c3:Nat),.int .u64 (n2:Nat)])∧w'=w) ∧
  (o3:Int)+(c3:Int)=(n3:Int)∧o3+c3<18446744073709551616∧cF n0 n1 n2 n3∧Hid (PW F.M X (aC y0 y1 y2 y3) (k+1) (aC n0 n1 n2 n3)):=by
 obtain⟨o0,l0,r0,bo0,bl0,e0⟩:=uV hx hy.1 ht.1 (show 0<18446744073709551616 by omega);obtain⟨cl,hcl⟩:∃cl,cl=l0*F.inv%18446744073709551616:=⟨_,rfl⟩
 have bcl:cl<18446744073709551616:=by omega
 obtain⟨c0,z,s0,bc0,bz,f0⟩:=uV bcl hF.okm.1 bl0 (show 0<18446744073709551616 by omega);obtain⟨o1,l1,r1,bo1,bl1,e1⟩:=uV hx hy.2.1 ht.2.1 bo0;obtain⟨c1,n0,s1,bc1,bn0,f1⟩:=uV bcl hF.okm.2.1 bl1 bc0;obtain⟨o2,l2,r2,bo2,bl2,e2⟩:=uV hx hy.2.2.1 ht.2.2.1 bo1;obtain⟨c2,n1,s2,bc2,bn1,f2⟩:=uV bcl hF.okm.2.2.1 bl2 bc1;obtain⟨o3,l3,r3,bo3,bl3,e3⟩:=uV hx hy.2.2.2 ht.2.2.2 bo2;obtain⟨c3,n2,s3,bc3,bn2,f3⟩:=uV bcl hF.okm.2.2.2 bl3 bc2;have hz:z=0:=by
  have h:=OS (l:=l0) hF.turn;rw[←hcl]at h;have:=f0.out;omega
 subst hz;have ha:=FZ (e0.out) (f0.out) e1.out f1.out e2.out f2.out e3.out f3.out;have hg:=US (X:=X) hk g (by rw[hX]; exact hx) hY bcl (N:=aC n0 n1 n2 (o3+c3)) (by rw[hX]; exact ha);have hn3:o3+c3<18446744073709551616:=XR (B:=0) (Nat.lt_trans hg.1 hF.two);refine⟨o0,l0,cl,c0,0,o1,l1,c1,n0,o2,l2,c2,n1,o3,l3,c3,n2,o3+c3,r0,?_,s0,r1,s1,r2,s2,r3,s3,?_,hn3,⟨bn0,bn1,bn2,hn3⟩,Lib.hid hg⟩
 ·rw[hcl,←Int.natCast_mul]; exact mF _
 ·exact (Int.natCast_add _ _).symm
theorem NQ (x0 x1 x2 x3 k:Nat) (hk:k<4) (w:World):(Instr.index 155 (.agg #[.int .u64 x0,.int .u64 x1,.int .u64 x2,.int .u64 x3]) (.int .i64 k)).run prog w=.ok (.int .u64 (fH [x0,x1,x2,x3] k:Nat)) w:=by
 have h0:∀w,(Instr.index 155 (.agg #[.int .u64 x0,.int .u64 x1,.int .u64 x2,.int .u64 x3]) (.int .i64 0)).run prog w=.ok (.int .u64 x0) w:=fun _=>by kernel_rfl
 have h1:∀w,(Instr.index 155 (.agg #[.int .u64 x0,.int .u64 x1,.int .u64 x2,.int .u64 x3]) (.int .i64 1)).run prog w=.ok (.int .u64 x1) w:=fun _=>by kernel_rfl
 have h2:∀w,(Instr.index 155 (.agg #[.int .u64 x0,.int .u64 x1,.int .u64 x2,.int .u64 x3]) (.int .i64 2)).run prog w=.ok (.int .u64 x2) w:=fun _=>by kernel_rfl
 have h3:∀w,(Instr.index 155 (.agg #[.int .u64 x0,.int .u64 x1,.int .u64 x2,.int .u64 x3]) (.int .i64 3)).run prog w=.ok (.int .u64 x3) w:=fun _=>by kernel_rfl
 have:k=0∨k=1∨k=2∨k=3:=by omega
 rcases this with rfl|rfl|rfl|rfl
 ·exact h0 w
 ·exact h1 w
 ·exact h2 w
 ·exact h3 w
set_option maxHeartbeats 4000000 in
theorem cE (F:FC) (hF:F.Ok) (b x0 x1 x2 x3 y0 y1 y2 y3:Nat) (hx:cF x0 x1 x2 x3) (hy:cF y0 y1 y2 y3) (hY:aC y0 y1 y2 y3<F.M) (w:World) (hk:KIs w b F) :
  Calls prog 192 #[.pointer (some ⟨b,0,none⟩),.agg #[.int .u64 x0,.int .u64 x1,.int .u64 x2,.int .u64 x3],.agg #[.int .u64 y0,.int .u64 y1,.int .u64 y2,.int .u64 y3]] w (lE (aC x0 x1 x2 x3*aC y0 y1 y2 y3*F.Ri%F.M) w):=by
 obtain⟨X,eX⟩:∃X,X=fH [x0,x1,x2,x3]:=⟨_,rfl⟩
 have HX:=Lib.hid eX;have hXlt:=JG hx;have HXlt:=Lib.hid hXlt;have HY:=Lib.hid hY;have HF:=Lib.hid hF;have HK:=Lib.hid hk;have HI:=Lib.hid (NQ x0 x1 x2 x3);have hL:=hk.lt;have hL1:b<w.heap.size+1:=by omega
 have hL2:b<w.heap.size+1+1:=by omega
 have k0:=hk.k0; have k1:=hk.k1; have k2:=hk.k2; have k3:=hk.k3; have k4:=hk.k4;have bi:=hF.inv;have HG:=Lib.hid (UR (Y:=aC y0 y1 y2 y3) X (show 0<F.M by have:=hF.gt; omega));clear eX hXlt hY hF hk
 go_enter func192,ntmps192
 go_wp2_with fail
 go_loop [8,9,10,11,23] (fun v0 v1 v2 v3 i=>∃k t0 t1 t2 t3:Nat,k≤4∧i=.int .i64 k∧v0=.int .u64 t0∧v1=.int .u64 t1∧v2=.int .u64 t2∧v3=.int .u64 t3∧cF t0 t1 t2 t3∧Hid (PW F.M X (aC y0 y1 y2 y3) k (aC t0 t1 t2 t3))) (fun _ _ _ _ i=>4-(intOf i).toNat)
 case atStart=>exact⟨0,0,0,0,0,by omega,rfl,rfl,rfl,rfl,rfl,⟨by omega,by omega,by omega,by omega⟩,HG⟩
 case round =>
  obtain⟨k,t0,t1,t2,t3,hk,rfl,rfl,rfl,rfl,rfl,ht,g⟩:=hrel
  by_cases hlt:k<4
  ·obtain⟨x,ex⟩:∃x,x=fH [x0,x1,x2,x3] k:=⟨_,rfl⟩
   have hi:=HI.out k hlt;rw[←ex]at hi;have bx:x<18446744073709551616:=by rw[ex]; exact HXlt.out k
   obtain⟨o0,l0,cl,c0,z,o1,l1,c1,n0,o2,l2,c2,n1,o3,l3,c3,n2,n3,r0,q,s0,r1,s1,r2,s2,r3,s3,p,hp,hn,hg⟩:=Dt F HF.out hlt bx (by rw[ex,HX.out]) hy HY.out ht g.out;clear ex g;go_wp2_with (first|(with_reducible refine (r0 _).mono ?_; rintro e w' ⟨rfl,rfl⟩)|(with_reducible refine (s0 _).mono ?_; rintro e w' ⟨rfl,rfl⟩)|(with_reducible refine (r1 _).mono ?_; rintro e w' ⟨rfl,rfl⟩)|(with_reducible refine (s1 _).mono ?_; rintro e w' ⟨rfl,rfl⟩)|(with_reducible refine (r2 _).mono ?_; rintro e w' ⟨rfl,rfl⟩)|(with_reducible refine (s2 _).mono ?_; rintro e w' ⟨rfl,rfl⟩)|(with_reducible refine (r3 _).mono ?_; rintro e w' ⟨rfl,rfl⟩)|(with_reducible refine (s3 _).mono ?_; rintro e w' ⟨rfl,rfl⟩))
   go_round
   case rel=>exact⟨k+1,n0,n1,n2,n3,by omega,by go_num,rfl,rfl,rfl,rfl,hn,hg⟩
   case measure=>simp[intOf]; omega
  ·obtain rfl:k=4:=by omega
   obtain⟨ge,gv⟩:=Dg HF.out (x0:=x0) (x1:=x1) (x2:=x2) (x3:=x3) (by rw[HX.out]; rfl) (by rw[HX.out]; rfl) (by rw[HX.out]; rfl) (by rw[HX.out]; rfl) g.out;have HGV:=Lib.hid gv;clear gv g;go_wp2_with fail;refine (xA F HF.out b t0 t1 t2 t3 ht ge _ (HK.out.same ?_)).mono ?_
   ·repeat (first|exact Below.refl _ _|refine Below.drew ?_|refine Below.alloc ?_ (by first|(simp; done)|(simp; omega)) _)
   rintro e w1 ⟨s0,s1,s2,s3,rfl,hs,hv,hbl⟩
   have HV:=Lib.hid hv;obtain⟨hc,hf⟩:=uZ hbl;have hz:w.heap.size+1+1<w1.heap.size:=by have:=hbl.size; simp at this; omega
   have HBL:=Lib.hid hbl;clear hv hbl;go_wp2_with fail;refine bodyPost_ret (v:=.agg #[.int .u64 s0,.int .u64 s1,.int .u64 s2,.int .u64 s3]) (by simp[results,results192,go_sem, *]) rfl ?_;refine⟨_,_,_,_,rfl,hs,HV.out.trans HGV.out,?_⟩;refine aZ (Below.trans ?_ (HBL.out.mono (by simp; omega))) (by omega) _ _ _ _
   repeat (first|exact Below.refl _ _|refine Below.drew ?_|refine Below.alloc ?_ (by first|(simp; done)|(simp; omega)) _)
def yT (V M:Nat):Bool:=decide (V<M)
theorem Yj {V M c D:Nat} (hD:D<115792089237316195423570985008687907853269984665640564039457584007913129639936) (hc:c≤1) (e:D+M=V+115792089237316195423570985008687907853269984665640564039457584007913129639936*c) (hM:M<115792089237316195423570985008687907853269984665640564039457584007913129639936) (hV:V<115792089237316195423570985008687907853269984665640564039457584007913129639936):((c:Int)==1)=yT V M:=by
 have:c=0∨c=1:=by omega
 unfold yT
 rcases this with rfl|rfl
 ·rw[decide_eq_false (by omega)]; rfl
 ·rw[decide_eq_true (by omega)]; rfl
theorem GG {a b:Bool} (h:a=b):Ending.returned (.bool a)=.returned (.bool b):=by rw[h]
set_option maxHeartbeats 1000000 in
theorem cW (F:FC) (hF:F.Ok) (b a0 a1 a2 a3:Nat) (ha:cF a0 a1 a2 a3) (w:World) (hk:KIs w b F) :
  Calls prog 97 #[.pointer (some ⟨b,0,none⟩),.agg #[.int .u64 a0,.int .u64 a1,.int .u64 a2,.int .u64 a3]] w fun e w'=>e=.returned (.bool (yT (aC a0 a1 a2 a3) F.M))∧Below w.heap.size w w':=by
 obtain⟨d0,c0,d1,c1,d2,c2,d3,c3,r0,r1,r2,r3,hd,hc,e⟩:=DP ha hF.okm;have HB:=Lib.hid (Yj (bT hd) hc e.out (bT hF.okm) (bT ha));have hL:=hk.lt;have hL':b≠w.heap.size:=by omega
 have k0:=hk.k0; have k1:=hk.k1; have k2:=hk.k2; have k3:=hk.k3;clear hk hF e
 go_enter func97,ntmps97
 go_wp2_with fail
 go_quiet (fail)
 go_wp2_with fail
 go_quiet (fail)
 go_wp2_with fail
 go_quiet (fail)
 go_wp2_with fail
 go_quiet (fail)
 go_wp2_with fail;go_ret;exact⟨GG HB.out,by repeat (first|exact Below.refl _ _|refine Below.drew ?_|exact bW _ _ _|refine Below.alloc ?_ (by first|(simp; done)|(simp; omega)) _|refine Below.trans ?_ (bW _ _ _))⟩
set_option maxHeartbeats 1000000 in
theorem wV (F:FC) (hF:F.Ok) (b a0 a1 a2 a3 b0 b1 b2 b3:Nat) (ha:cF a0 a1 a2 a3) (hb:cF b0 b1 b2 b3) (la:aC a0 a1 a2 a3<F.M) (lb:aC b0 b1 b2 b3<F.M) (w:World) (hk:KIs w b F) :
  Calls prog 212 #[.pointer (some ⟨b,0,none⟩),.agg #[.int .u64 a0,.int .u64 a1,.int .u64 a2,.int .u64 a3],.agg #[.int .u64 b0,.int .u64 b1,.int .u64 b2,.int .u64 b3]] w (lE ((aC a0 a1 a2 a3+aC b0 b1 b2 b3)%F.M) w):=by
 obtain⟨d0,c0,d1,c1,d2,c2,d3,c3,r0,r1,r2,r3,hd,hc,e⟩:=RU ha hb;have e':aC d0 d1 d2 d3=aC a0 a1 a2 a3+aC b0 b1 b2 b3:=by have:=e.out; have:=hF.two; omega
 rw[←e'];have hlt:aC d0 d1 d2 d3<2*F.M:=by omega
 have HK:=Lib.hid hk;have hL:=hk.lt;clear e e' hk
 go_enter func212,ntmps212
 go_wp2_with fail;refine (xA F hF b d0 d1 d2 d3 hd hlt _ (HK.out.same ?_)).mono ?_
 ·repeat (first|exact Below.refl _ _|refine Below.drew ?_|refine Below.alloc ?_ (by first|(simp; done)|(simp; omega)) _)
 rintro e w1 ⟨s0,s1,s2,s3,rfl,hs,hv,hbl⟩
 have HV:=Lib.hid hv;obtain⟨hc,hf⟩:=uZ hbl;have hz:w.heap.size+1+1<w1.heap.size:=by have:=hbl.size; simp at this; omega
 have HBL:=Lib.hid hbl;clear hv hbl;go_wp2_with fail;refine bodyPost_ret (v:=.agg #[.int .u64 s0,.int .u64 s1,.int .u64 s2,.int .u64 s3]) (by simp[results,results212,go_sem, *]) rfl ?_;refine⟨_,_,_,_,rfl,hs,HV.out,?_⟩;refine aZ (Below.trans ?_ (HBL.out.mono (by simp; omega))) (by omega) _ _ _ _
 repeat (first|exact Below.refl _ _|refine Below.drew ?_|refine Below.alloc ?_ (by first|(simp; done)|(simp; omega)) _)
theorem UF {A B D M c:Nat} (ha:A<M) (hb:B<M) (e:D+B=A+115792089237316195423570985008687907853269984665640564039457584007913129639936*c) (hc:c≤1) (hD:D<115792089237316195423570985008687907853269984665640564039457584007913129639936) (hM:2*M<115792089237316195423570985008687907853269984665640564039457584007913129639936) :
  (c=0→D=(A+M-B)%M)∧(c=1→∀E c',E+115792089237316195423570985008687907853269984665640564039457584007913129639936*c'=D+M→c'≤1→E<115792089237316195423570985008687907853269984665640564039457584007913129639936→E=(A+M-B)%M):=by
 refine⟨fun h => ?_,fun h E c' e' hc' hE => ?_⟩
 ·subst h;rw[show A+M-B=(A-B)+M by omega,Nat.add_mod_right,Nat.mod_eq_of_lt (by omega)]; omega
 ·subst h;have:c'=0∨c'=1:=by omega
  rw[Nat.mod_eq_of_lt (by omega)]; omega
set_option maxHeartbeats 1000000 in
theorem oA (F:FC) (hF:F.Ok) (b a0 a1 a2 a3 b0 b1 b2 b3:Nat) (ha:cF a0 a1 a2 a3) (hb:cF b0 b1 b2 b3) (la:aC a0 a1 a2 a3<F.M) (lb:aC b0 b1 b2 b3<F.M) (w:World) (hk:KIs w b F) :
  Calls prog 156 #[.pointer (some ⟨b,0,none⟩),.agg #[.int .u64 a0,.int .u64 a1,.int .u64 a2,.int .u64 a3],.agg #[.int .u64 b0,.int .u64 b1,.int .u64 b2,.int .u64 b3]] w (lE ((aC a0 a1 a2 a3+F.M-aC b0 b1 b2 b3)%F.M) w):=by
 obtain⟨d0,c0,d1,c1,d2,c2,d3,c3,r0,r1,r2,r3,hd,hc,e⟩:=DP ha hb;have hv:=UF la lb e.out hc (bT hd) hF.two;have hL:=hk.lt;have hL1:b<w.heap.size+1:=by omega
 have hL2:b<w.heap.size+1+1:=by omega
 have k0:=hk.k0; have k1:=hk.k1; have k2:=hk.k2; have k3:=hk.k3;have HM:=Lib.hid (show F.M=aC F.m0 F.m1 F.m2 F.m3 from rfl);clear la lb e hk;have hc':c3=0∨c3=1:=by omega
 rcases hc' with rfl|rfl
 ·have HV:=Lib.hid (hv.1 rfl);clear hv hF
  go_enter func156,ntmps156
  go_wp2_with fail;refine bodyPost_ret (v:=.agg #[.int .u64 d0,.int .u64 d1,.int .u64 d2,.int .u64 d3]) (by simp[results,results156,go_sem]) rfl ?_;refine⟨_,_,_,_,rfl,hd,HV.out,?_⟩
  repeat (first|exact Below.refl _ _|refine Below.drew ?_|refine Below.alloc ?_ (by first|(simp; done)|(simp; omega)) _|refine Below.setCell ?_ (by simp) _)
 ·obtain⟨n0,g0,n1,g1,n2,g2,n3,g3,q0,q1,q2,q3,hn,hg,f⟩:=RU hd hF.okm;have HV:=Lib.hid (hv.2 rfl _ _ (by rw[HM.out]; exact f.out) hg (bT hn));clear hv f hF
  go_enter func156,ntmps156
  go_wp2_with fail;refine bodyPost_ret (v:=.agg #[.int .u64 n0,.int .u64 n1,.int .u64 n2,.int .u64 n3]) (by simp[results,results156,go_sem]) rfl ?_;refine⟨_,_,_,_,rfl,hn,HV.out,?_⟩
  repeat (first|exact Below.refl _ _|refine Below.drew ?_|refine Below.alloc ?_ (by first|(simp; done)|(simp; omega)) _|refine Below.setCell ?_ (by simp) _)
theorem bD:eI 2:=aY 2 1 (by decide) (by decide) (by kernel_rfl)
theorem fU:eI 3:=aY 3 1 (by decide) (by decide) (by kernel_rfl)
theorem wR:eI 13:=aY 13 3 (by decide) (by decide) (by kernel_rfl)
theorem ZX:eI 29:=aY 29 5 (by decide) (by decide) (by kernel_rfl)
theorem Wq:eI 67:=aY 67 8 (by decide) (by decide) (by kernel_rfl)
theorem QP:eI 229:=aY 229 15 (by decide) (by decide) (by kernel_rfl)
theorem La:eI 311:=aY 311 17 (by decide) (by decide) (by kernel_rfl)
theorem QO:eI 983:=aY 983 31 (by decide) (by decide) (by kernel_rfl)
theorem zT:eI 11003:=aY 11003 104 (by decide) (by decide) (by kernel_rfl)
theorem tO:eI 11:=aY 11 3 (by decide) (by decide) (by kernel_rfl)
theorem ZV:eI 3691:=aY 3691 60 (by decide) (by decide) (by kernel_rfl)
theorem ZS:eI 4999:=aY 4999 70 (by decide) (by decide) (by kernel_rfl)
theorem wM:Root 405928799 22:=by
 refine bO (l:=[2,11,3691,4999]) (by kernel_rfl) fun q hq => ?_
 simp only[List.mem_cons,List.not_mem_nil,or_false]at hq
 rcases hq with rfl|rfl|rfl|rfl
 ·exact bD
 ·exact tO
 ·exact ZV
 ·exact ZS
theorem pP:eI 405928799:=wM.prm
theorem jN:eI 5:=aY 5 2 (by decide) (by decide) (by kernel_rfl)
theorem wQ:eI 7:=aY 7 2 (by decide) (by decide) (by kernel_rfl)
theorem tN:eI 19:=aY 19 4 (by decide) (by decide) (by kernel_rfl)
theorem ZU:eI 37:=aY 37 6 (by decide) (by decide) (by kernel_rfl)
theorem Ld:eI 233:=aY 233 15 (by decide) (by decide) (by kernel_rfl)
theorem GC:Root 327599 19:=by
 refine bO (l:=[2,19,37,233]) (by kernel_rfl) fun q hq => ?_
 simp only[List.mem_cons,List.not_mem_nil,or_false]at hq
 rcases hq with rfl|rfl|rfl|rfl
 ·exact bD
 ·exact tN
 ·exact ZU
 ·exact Ld
theorem MJ:eI 327599:=GC.prm
theorem tM:Root 11465965001 3:=by
 refine bO (l:=[2,2,2,5,5,5,5,7,327599]) (by kernel_rfl) fun q hq => ?_
 simp only[List.mem_cons,List.not_mem_nil,or_false]at hq
 rcases hq with rfl|rfl|rfl|rfl|rfl|rfl|rfl|rfl|rfl
 ·exact bD
 ·exact bD
 ·exact bD
 ·exact jN
 ·exact jN
 ·exact jN
 ·exact jN
 ·exact wQ
 ·exact MJ
theorem vG:eI 11465965001:=tM.prm
theorem Lb:eI 271:=aY 271 16 (by decide) (by decide) (by kernel_rfl)
theorem CG:Root 1853641 17:=by
 refine bO (l:=[2,2,2,3,3,5,19,271]) (by kernel_rfl) fun q hq => ?_
 simp only[List.mem_cons,List.not_mem_nil,or_false]at hq
 rcases hq with rfl|rfl|rfl|rfl|rfl|rfl|rfl|rfl
 ·exact bD
 ·exact bD
 ·exact bD
 ·exact fU
 ·exact fU
 ·exact jN
 ·exact tN
 ·exact Lb
theorem GM:eI 1853641:=CG.prm
theorem ZZ:eI 17:=aY 17 4 (by decide) (by decide) (by kernel_rfl)
theorem QQ:eI 109:=aY 109 10 (by decide) (by decide) (by kernel_rfl)
theorem Aa:eI 1231:=aY 1231 35 (by decide) (by decide) (by kernel_rfl)
theorem CF:Root 4562087 5:=by
 refine bO (l:=[2,17,109,1231]) (by kernel_rfl) fun q hq => ?_
 simp only[List.mem_cons,List.not_mem_nil,or_false]at hq
 rcases hq with rfl|rfl|rfl|rfl
 ·exact bD
 ·exact ZZ
 ·exact QQ
 ·exact Aa
theorem GL:eI 4562087:=CF.prm
theorem Wp:eI 73:=aY 73 8 (by decide) (by decide) (by kernel_rfl)
theorem Wn:eI 89:=aY 89 9 (by decide) (by decide) (by kernel_rfl)
theorem TZ:eI 13327:=aY 13327 115 (by decide) (by decide) (by kernel_rfl)
theorem wN:Root 173171039 13:=by
 refine bO (l:=[2,73,89,13327]) (by kernel_rfl) fun q hq => ?_
 simp only[List.mem_cons,List.not_mem_nil,or_false]at hq
 rcases hq with rfl|rfl|rfl|rfl
 ·exact bD
 ·exact Wp
 ·exact Wn
 ·exact TZ
theorem zH:eI 173171039:=wN.prm
theorem Ws:eI 41:=aY 41 6 (by decide) (by decide) (by kernel_rfl)
theorem Ks:eI 911:=aY 911 30 (by decide) (by decide) (by kernel_rfl)
theorem ZW:eI 3557:=aY 3557 59 (by decide) (by decide) (by kernel_rfl)
theorem vB:Root 1263766531 10:=by
 refine bO (l:=[2,3,5,13,911,3557]) (by kernel_rfl) fun q hq => ?_
 simp only[List.mem_cons,List.not_mem_nil,or_false]at hq
 rcases hq with rfl|rfl|rfl|rfl|rfl|rfl
 ·exact bD
 ·exact fU
 ·exact jN
 ·exact wR
 ·exact Ks
 ·exact ZW
theorem wT:eI 1263766531:=vB.prm
theorem tJ:Root 35385462869 2:=by
 refine bO (l:=[2,2,7,1263766531]) (by kernel_rfl) fun q hq => ?_
 simp only[List.mem_cons,List.not_mem_nil,or_false]at hq
 rcases hq with rfl|rfl|rfl|rfl
 ·exact bD
 ·exact bD
 ·exact wQ
 ·exact wT
theorem vD:eI 35385462869:=tJ.prm
theorem nE:Root 2480874801745591 6:=by
 refine bO (l:=[2,3,3,5,19,41,35385462869]) (by kernel_rfl) fun q hq => ?_
 simp only[List.mem_cons,List.not_mem_nil,or_false]at hq
 rcases hq with rfl|rfl|rfl|rfl|rfl|rfl|rfl
 ·exact bD
 ·exact fU
 ·exact fU
 ·exact jN
 ·exact tN
 ·exact Ws
 ·exact vD
theorem nQ:eI 2480874801745591:=nE.prm
theorem eQ:Root 13427688667394608761327070753331941386769 17:=by
 refine bO (l:=[2,2,2,2,3,7,11,1853641,4562087,173171039,2480874801745591]) (by kernel_rfl) fun q hq => ?_
 simp only[List.mem_cons,List.not_mem_nil,or_false]at hq
 rcases hq with rfl|rfl|rfl|rfl|rfl|rfl|rfl|rfl|rfl|rfl|rfl
 ·exact bD
 ·exact bD
 ·exact bD
 ·exact bD
 ·exact fU
 ·exact wQ
 ·exact tO
 ·exact GM
 ·exact GL
 ·exact zH
 ·exact nQ
theorem eW:eI 13427688667394608761327070753331941386769:=eQ.prm
theorem Wc:Root 21888242871839275222246405745257275088696311157297823662689037894645226208583 3:=by
 refine bO (l:=[2,3,3,13,29,67,229,311,983,11003,405928799,11465965001,13427688667394608761327070753331941386769]) (by kernel_rfl) fun q hq => ?_
 simp only[List.mem_cons,List.not_mem_nil,or_false]at hq
 rcases hq with rfl|rfl|rfl|rfl|rfl|rfl|rfl|rfl|rfl|rfl|rfl|rfl|rfl
 ·exact bD
 ·exact fU
 ·exact fU
 ·exact wR
 ·exact ZX
 ·exact Wq
 ·exact QP
 ·exact La
 ·exact QO
 ·exact zT
 ·exact pP
 ·exact vG
 ·exact eW
theorem Kx:eI 449:=aY 449 21 (by decide) (by decide) (by kernel_rfl)
theorem GE:Root 237073 15:=by
 refine bO (l:=[2,2,2,2,3,11,449]) (by kernel_rfl) fun q hq => ?_
 simp only[List.mem_cons,List.not_mem_nil,or_false]at hq
 rcases hq with rfl|rfl|rfl|rfl|rfl|rfl|rfl
 ·exact bD
 ·exact bD
 ·exact bD
 ·exact bD
 ·exact fU
 ·exact tO
 ·exact Kx
theorem ML:eI 237073:=GE.prm
theorem Lf:eI 107:=aY 107 10 (by decide) (by decide) (by kernel_rfl)
theorem Kv:eI 661:=aY 661 25 (by decide) (by decide) (by kernel_rfl)
theorem TS:eI 93001:=aY 93001 304 (by decide) (by decide) (by kernel_rfl)
theorem tL:Root 12048837557 2:=by
 refine bO (l:=[2,2,7,7,661,93001]) (by kernel_rfl) fun q hq => ?_
 simp only[List.mem_cons,List.not_mem_nil,or_false]at hq
 rcases hq with rfl|rfl|rfl|rfl|rfl|rfl
 ·exact bD
 ·exact bD
 ·exact wQ
 ·exact wQ
 ·exact Kv
 ·exact TS
theorem vF:eI 12048837557:=tL.prm
theorem qB:Root 5156902474397 2:=by
 refine bO (l:=[2,2,107,12048837557]) (by kernel_rfl) fun q hq => ?_
 simp only[List.mem_cons,List.not_mem_nil,or_false]at hq
 rcases hq with rfl|rfl|rfl|rfl
 ·exact bD
 ·exact bD
 ·exact Lf
 ·exact vF
theorem sC:eI 5156902474397:=qB.prm
theorem nF:Root 1670836401704629 2:=by
 refine bO (l:=[2,2,3,3,3,3,5156902474397]) (by kernel_rfl) fun q hq => ?_
 simp only[List.mem_cons,List.not_mem_nil,or_false]at hq
 rcases hq with rfl|rfl|rfl|rfl|rfl|rfl|rfl
 ·exact bD
 ·exact bD
 ·exact fU
 ·exact fU
 ·exact fU
 ·exact fU
 ·exact sC
theorem nR:eI 1670836401704629:=nF.prm
theorem Ku:eI 823:=aY 823 28 (by decide) (by decide) (by kernel_rfl)
theorem TU:eI 41927:=aY 41927 204 (by decide) (by decide) (by kernel_rfl)
theorem CH:Root 1593227 2:=by
 refine bO (l:=[2,19,41927]) (by kernel_rfl) fun q hq => ?_
 simp only[List.mem_cons,List.not_mem_nil,or_false]at hq
 rcases hq with rfl|rfl|rfl
 ·exact bD
 ·exact tN
 ·exact TU
theorem GO:eI 1593227:=CH.prm
theorem Wo:eI 83:=aY 83 9 (by decide) (by decide) (by kernel_rfl)
theorem Ky:eI 379:=aY 379 19 (by decide) (by decide) (by kernel_rfl)
theorem GN:eI 1637:=aY 1637 40 (by decide) (by decide) (by kernel_rfl)
theorem Kt:eI 853:=aY 853 29 (by decide) (by decide) (by kernel_rfl)
theorem wK:Root 639533339 2:=by
 refine bO (l:=[2,229,853,1637]) (by kernel_rfl) fun q hq => ?_
 simp only[List.mem_cons,List.not_mem_nil,or_false]at hq
 rcases hq with rfl|rfl|rfl|rfl
 ·exact bD
 ·exact QP
 ·exact Kt
 ·exact GN
theorem zG:eI 639533339:=wK.prm
theorem mK:Root 65865678001877903 5:=by
 refine bO (l:=[2,83,379,1637,639533339]) (by kernel_rfl) fun q hq => ?_
 simp only[List.mem_cons,List.not_mem_nil,or_false]at hq
 rcases hq with rfl|rfl|rfl|rfl|rfl
 ·exact bD
 ·exact Wo
 ·exact Ky
 ·exact GN
 ·exact zG
theorem nG:eI 65865678001877903:=mK.prm
theorem gR:Root 13818364434197438864469338081 3:=by
 refine bO (l:=[2,2,2,2,2,5,823,1593227,65865678001877903]) (by kernel_rfl) fun q hq => ?_
 simp only[List.mem_cons,List.not_mem_nil,or_false]at hq
 rcases hq with rfl|rfl|rfl|rfl|rfl|rfl|rfl|rfl|rfl
 ·exact bD
 ·exact bD
 ·exact bD
 ·exact bD
 ·exact bD
 ·exact jN
 ·exact Ku
 ·exact GO
 ·exact nG
theorem iB:eI 13818364434197438864469338081:=gR.prm
theorem ZK:Root 21888242871839275222246405745257275088548364400416034343698204186575808495617 5:=by
 refine bO (l:=[2,2,2,2,2,2,2,2,2,2,2,2,2,2,2,2,2,2,2,2,2,2,2,2,2,2,2,2,3,3,13,29,983,11003,237073,405928799,1670836401704629,13818364434197438864469338081]) (by kernel_rfl) fun q hq => ?_
 simp only[List.mem_cons,List.not_mem_nil,or_false]at hq
 rcases hq with rfl|rfl|rfl|rfl|rfl|rfl|rfl|rfl|rfl|rfl|rfl|rfl|rfl|rfl|rfl|rfl|rfl|rfl|rfl|rfl|rfl|rfl|rfl|rfl|rfl|rfl|rfl|rfl|rfl|rfl|rfl|rfl|rfl|rfl|rfl|rfl|rfl|rfl
 ·exact bD
 ·exact bD
 ·exact bD
 ·exact bD
 ·exact bD
 ·exact bD
 ·exact bD
 ·exact bD
 ·exact bD
 ·exact bD
 ·exact bD
 ·exact bD
 ·exact bD
 ·exact bD
 ·exact bD
 ·exact bD
 ·exact bD
 ·exact bD
 ·exact bD
 ·exact bD
 ·exact bD
 ·exact bD
 ·exact bD
 ·exact bD
 ·exact bD
 ·exact bD
 ·exact bD
 ·exact bD
 ·exact fU
 ·exact fU
 ·exact wR
 ·exact ZX
 ·exact QO
 ·exact zT
 ·exact ML
 ·exact pP
 ·exact nR
 ·exact iB
section
variable {M g:Nat}
theorem GW (a n:Nat):(a%M)^n%M=a^n%M:=(Nat.pow_mod a n M).symm
theorem oY (a b:Nat):a%M*b%M=a*b%M:=by rw[Nat.mul_mod,Nat.mod_mod,←Nat.mul_mod]
theorem oX (a b:Nat):a*(b%M)%M=a*b%M:=by rw[Nat.mul_mod,Nat.mod_mod,←Nat.mul_mod]
theorem Ds (hr:Root M g) {a:Nat} (h0:0<a) (h:a<M):a^(M-1)%M=1:=by
 obtain⟨h1,hg,_,hs⟩:=hr;obtain⟨k,hk,rfl⟩:=hs a h0 h;rw[GW,←Nat.pow_mul,Nat.mul_comm,nS h1 hg]
theorem vO (hr:Root M g) {a:Nat} (h2:2≤M) (h0:0<a) (h:a<M):a*(a^(M-2)%M)%M=1:=by
 rw[oX,←Nat.pow_succ',show (M-2).succ=M-1 by omega,Ds hr h0 h]
theorem KD (hr:Root M g) {a b c:Nat} (h2:2≤M) (h0:0<a) (h:a<M) (e:a*b%M=a*c%M):b%M=c%M:=by
 have hi:=vO hr h2 h0 h;have key:∀x,a^(M-2)%M*(a*x%M)%M=x%M:=fun x=>by
  rw[oX,←Nat.mul_assoc,Nat.mul_mod,Nat.mul_comm _ a,hi,Nat.one_mul,Nat.mod_mod]
 rw[←key b,e,key c]
theorem ER (hr:Root M g) {a b:Nat} (h2:2≤M) (h0:0<a) (h:a<M) (e:a*b%M=0):b%M=0:=by
 have:=KD hr (c:=0) h2 h0 h (by rw[e,Nat.mul_zero,Nat.zero_mod]);rw[this,Nat.zero_mod]
theorem OK {x y:Nat} (hxy:y≤x) (e:x*x%M=y*y%M):(x-y)*(x+y)%M=0:=by
 have h:(x-y)*(x+y)=x*x-y*y:=by
  obtain⟨d,rfl⟩:∃d,x=y+d:=⟨x-y,by omega⟩
  rw[show y+d-y=d by omega];have:(y+d)*(y+d)=y*y+d*(y+d+y):=by
   simp only[Nat.add_mul,Nat.mul_add,Nat.mul_comm d y]; omega
  omega
 rw[h];exact Nat.sub_mod_eq_zero_of_mod_eq e
theorem Sb (hr:Root M g) {x y:Nat} (h2:2≤M) (hx:x<M) (hxy:y≤x) (e:x*x%M=y*y%M):x=y∨x+y=M:=by
 have hd:=OK hxy e
 by_cases h:x=y
 ·exact Or.inl h
 ·right;have:=ER hr h2 (show 0<x-y by omega) (by omega) hd;obtain⟨k,hk⟩:=Nat.dvd_of_mod_eq_zero this;have hk1:k<2:=by
   rcases Nat.lt_or_ge k 2 with q|q
   ·exact q
   ·have:=Nat.mul_le_mul_left M q; omega
  have:k=0∨k=1:=by omega
  rcases this with rfl|rfl<;>omega
theorem YS (hr:Root M g) {x y:Nat} (h2:2≤M) (hx:x<M) (hy:y<M) (e:x*x%M=y*y%M):x=y∨x+y=M:=by
 rcases Nat.le_total y x with h|h
 ·exact Sb hr h2 hx h e
 ·rcases Sb hr h2 hy h e.symm with q|q
  ·exact Or.inl q.symm
  ·exact Or.inr (by omega)
theorem Wz (hr:Root M g) {x:Nat} (h2:2≤M) (hx:x<M) (e:x*x%M=1):x=1∨x=M-1:=by
 have:=YS hr (y:=1) h2 hx (by omega) (by rw[e,Nat.mod_eq_of_lt (by omega)]);omega
def CZ (M a:Nat):Int:=if a=0 then 0 else if a^(M/2)%M=1 then 1 else -1
theorem Vr {M:Nat} (h:2<M):(M-1)*(M-1)%M=1:=by
 obtain⟨k,rfl⟩:∃k,M=k+1:=⟨M-1,by omega⟩
 rw[show k+1-1=k by omega];have:k*k=1+(k+1)*(k-1):=by
  obtain⟨j,rfl⟩:∃j,k=j+1:=⟨k-1,by omega⟩
  rw[show j+1-1=j by omega];simp only[Nat.add_mul,Nat.mul_add]; omega
 rw[this,Nat.add_mul_mod_self_left,Nat.mod_eq_of_lt (by omega)]
theorem mul_ne (hr:Root M g) {a b:Nat} (h2:2≤M) (ha0:0<a) (ha:a<M) (hb0:0<b) (hb:b<M):0<a*b%M:=by
 rcases Nat.eq_zero_or_pos (a*b%M)with h|h
 ·have:=ER hr h2 ha0 ha h;rw[Nat.mod_eq_of_lt hb]at this; omega
 ·exact h
theorem Ca (hr:Root M g) {a:Nat} (ho:M%2=1) (h0:0<a) (h:a<M):(a*a%M)^(M/2)%M=1:=by
 have h1:=hr.1;rw[GW,←Nat.pow_two,←Nat.pow_mul,show 2*(M/2)=M-1 by omega,Ds hr h0 h]
end
def kp (F:FC) (a:Nat):Nat:=a*F.R%F.M
section
variable {F:FC}
theorem kS (hF:F.Ok) (a:Nat):kp F a<F.M:=Nat.mod_lt _ (by have:=hF.gt; omega)
theorem lM (hF:F.Ok) (x:Nat):x*F.R*F.Ri%F.M=x%F.M:=by
 rw[Nat.mul_assoc,Nat.mul_mod,hF.ri,Nat.mul_one,Nat.mod_mod]
theorem oJ {M a b c d:Nat} (h:a%M=b%M) (h':c%M=d%M):a*c%M=b*d%M:=by rw[Nat.mul_mod,h,h',←Nat.mul_mod]
theorem yH (M a:Nat):a%M%M=a%M:=Nat.mod_mod _ _
theorem eK (hF:F.Ok) (a b:Nat):kp F a*kp F b*F.Ri%F.M=kp F (a*b%F.M):=by
 have h:kp F a*kp F b*F.Ri%F.M=a*F.R*(b*F.R)*F.Ri%F.M:=oJ (oJ (yH _ _) (yH _ _)) rfl;have e:a*F.R*(b*F.R)=a*b*F.R*F.R:=by rw[Nat.mul_mul_mul_comm,Nat.mul_assoc (a*b)]
 rw[h,e,lM hF];unfold kp;rw[oY]
theorem Ml (hF:F.Ok) (a:Nat):a*aC F.s0 F.s1 F.s2 F.s3*F.Ri%F.M=kp F a:=by
 have h:a*aC F.s0 F.s1 F.s2 F.s3*F.Ri%F.M=a*(F.R*F.R)*F.Ri%F.M:=by rw[hF.sq]; exact oJ (oJ rfl (yH _ _)) rfl
 rw[h,←Nat.mul_assoc,lM hF];rfl
theorem DC (hF:F.Ok) (a:Nat) (h:a<F.M):kp F a*1*F.Ri%F.M=a:=by
 have h1:kp F a*1*F.Ri%F.M=a*F.R*F.Ri%F.M:=by rw[Nat.mul_one]; exact oJ (yH _ _) rfl
 rw[h1,lM hF,Nat.mod_eq_of_lt h]
theorem xJ (hF:F.Ok) (a b:Nat):kp F a*b*F.Ri%F.M=a*b%F.M:=by
 have h:kp F a*b*F.Ri%F.M=a*F.R*b*F.Ri%F.M:=oJ (oJ (yH _ _) rfl) rfl;rw[h,Nat.mul_right_comm a,lM hF]
theorem Yd (hF:F.Ok) {a b:Nat} (ha:a<F.M) (hb:b<F.M) (e:kp F a=kp F b):a=b:=by
 rw[←DC hF a ha,e,DC hF b hb]
theorem gK (F:FC) (a:Nat):kp F (a%F.M)=kp F a:=by unfold kp; rw[oY]
theorem uT (F:FC) (a n b:Nat) (h:b=0∨b=1):(b=0→kp F (a^(2*n+b))=kp F (a^n*a^n%F.M))∧(b=1→kp F (a^(2*n+b))=kp F (a^n*a^n%F.M*a%F.M)):=by
 have e:a^(2*n)=a^n*a^n:=by rw[Nat.two_mul,Nat.pow_add]
 refine⟨fun h => ?_,fun h => ?_⟩
 ·subst h; rw[Nat.add_zero,gK,e]
 ·subst h; rw[gK,Nat.pow_succ,e,←gK F (_%_*a),oY,gK]
end
theorem FC.Ok.sqlt {F:FC} (hF:F.Ok):aC F.s0 F.s1 F.s2 F.s3<F.M:=by rw[hF.sq]; exact Nat.mod_lt _ (by have:=hF.gt; omega)
theorem FC.Ok.pos {F:FC} (hF:F.Ok):0<F.M:=by have:=hF.gt; omega
set_option maxHeartbeats 1000000 in
theorem cU (F:FC) (hF:F.Ok) (b a0 a1 a2 a3:Nat) (ha:cF a0 a1 a2 a3) (w:World) (hk:KIs w b F) :
  Calls prog 154 #[.pointer (some ⟨b,0,none⟩),.agg #[.int .u64 a0,.int .u64 a1,.int .u64 a2,.int .u64 a3]] w (lE (kp F (aC a0 a1 a2 a3)) w):=by
 have HK:=Lib.hid hk;have HF:=Lib.hid hF;have hL:=hk.lt;have hL1:b<w.heap.size+1:=by omega
 have hL2:b<w.heap.size+1+1:=by omega
 have k5:=hk.k5; have k6:=hk.k6; have k7:=hk.k7; have k8:=hk.k8;clear hk hF
 go_enter func154,ntmps154
 go_wp2_with fail
 go_region_with (go_at_call 192; refine (cE F HF.out b a0 a1 a2 a3 F.s0 F.s1 F.s2 F.s3 ha HF.out.oks HF.out.sqlt _ (HK.out.same (by repeat (first|exact Below.refl _ _|refine Below.drew ?_|refine Below.trans ?_ (bW _ _ _)|refine Below.alloc ?_ (by first|(simp; done)|(simp; omega)) _)))).mono ?_; rintro e ws ⟨s0,s1,s2,s3,rfl,hs,hv,hbl⟩; have HVs:=Lib.hid hv; obtain⟨hcs,hfs⟩:=uZ hbl; have hzs:w.heap.size+1<ws.heap.size:=by { have:=hbl.size; simp at this; omega }; have HBLs:=Lib.hid hbl; clear hv hbl)
 all_goals (
  go_wp2_with fail;refine bodyPost_ret (v:=.agg #[.int .u64 s0,.int .u64 s1,.int .u64 s2,.int .u64 s3]) (by simp[results,results154,go_sem, *]) rfl ?_;refine⟨_,_,_,_,rfl,hs,HVs.out.trans (Ml HF.out _),?_⟩;refine aZ (Below.trans ?_ (HBLs.out.mono (by first|(simp; done)|(simp; omega)))) (by omega) _ _ _ _
  repeat (first|exact Below.refl _ _|refine Below.drew ?_|refine Below.trans ?_ (bW _ _ _)|refine Below.alloc ?_ (by first|(simp; done)|(simp; omega)) _)
 )
set_option maxHeartbeats 1000000 in
theorem zZ (F:FC) (hF:F.Ok) (b a0 a1 a2 a3:Nat) (ha:cF a0 a1 a2 a3) (w:World) (hk:KIs w b F) :
  Calls prog 155 #[.pointer (some ⟨b,0,none⟩),.agg #[.int .u64 a0,.int .u64 a1,.int .u64 a2,.int .u64 a3]] w (lE (aC a0 a1 a2 a3*1*F.Ri%F.M) w):=by
 have HK:=Lib.hid hk;have HF:=Lib.hid hF;have hL:=hk.lt;have hL1:b<w.heap.size+1:=by omega
 have hL2:b<w.heap.size+1+1:=by omega
 clear hk hF
 go_enter func155,ntmps155
 go_wp2_with fail;refine (cE F HF.out b a0 a1 a2 a3 1 0 0 0 ha ⟨by omega,by omega,by omega,by omega⟩ (by show 1<_; have:=HF.out.gt; omega) _ (HK.out.same (by repeat (first|exact Below.refl _ _|refine Below.drew ?_|refine Below.trans ?_ (bW _ _ _)|refine Below.alloc ?_ (by first|(simp; done)|(simp; omega)) _)))).mono ?_
 rintro e ws ⟨s0,s1,s2,s3,rfl,hs,hv,hbl⟩; have HVs:=Lib.hid hv; obtain⟨hcs,hfs⟩:=uZ hbl; have hzs:w.heap.size+1<ws.heap.size:=by { have:=hbl.size; simp at this; omega }; have HBLs:=Lib.hid hbl; clear hv hbl
 go_wp2_with fail;refine bodyPost_ret (v:=.agg #[.int .u64 s0,.int .u64 s1,.int .u64 s2,.int .u64 s3]) (by simp[results,results155,go_sem, *]) rfl ?_;refine⟨_,_,_,_,rfl,hs,HVs.out,?_⟩;refine aZ (Below.trans ?_ (HBLs.out.mono (by first|(simp; done)|(simp; omega)))) (by omega) _ _ _ _
 repeat (first|exact Below.refl _ _|refine Below.drew ?_|refine Below.trans ?_ (bW _ _ _)|refine Below.alloc ?_ (by first|(simp; done)|(simp; omega)) _)
theorem IH (n:Nat) (hn:n<18446744073709551616) (w:World):Calls prog 106 #[.int .u64 n] w fun e w'=>e=.returned (.agg #[.int .u64 n,.int .u64 0,.int .u64 0,.int .u64 0])∧Below w.heap.size w w':=by
 go_enter func106,ntmps106
 go_wp2_with fail;refine bodyPost_ret (v:=.agg #[.int .u64 n,.int .u64 0,.int .u64 0,.int .u64 0]) (by simp[results,results106,go_sem]) rfl ?_;exact⟨rfl,by repeat (first|exact Below.refl _ _|refine Below.drew ?_|refine Below.alloc ?_ (by first|(simp; done)|(simp; omega)) _|refine Below.setCell ?_ (by simp) _)⟩
set_option maxHeartbeats 1000000 in
theorem tT (F:FC) (hF:F.Ok) (b:Nat)  (w:World) (hk:KIs w b F) :
  Calls prog 208 #[.pointer (some ⟨b,0,none⟩)] w (lE (kp F 1) w):=by
 have HK:=Lib.hid hk;have HF:=Lib.hid hF;have hL:=hk.lt;have hL1:b<w.heap.size+1:=by omega
 have hL2:b<w.heap.size+1+1:=by omega
 clear hk hF
 go_enter func208,ntmps208
 go_wp2_with fail;refine (IH 1 (by omega) _).mono ?_
 rintro e w1 ⟨rfl,hb1⟩
 have hz1:w.heap.size<w1.heap.size:=by have:=hb1.size; simp at this; omega
 obtain⟨hc1,hf1⟩:=uZ hb1;have HB1:=Lib.hid hb1;have HK1:=Lib.hid ((HK.out.same (by repeat (first|exact Below.refl _ _|refine Below.drew ?_|refine Below.trans ?_ (bW _ _ _)|refine Below.alloc ?_ (by first|(simp; done)|(simp; omega)) _)):KIs (w.alloc _) b F).same hb1);clear hb1;go_wp2_with fail;refine (cU F HF.out b 1 0 0 0 ⟨by omega,by omega,by omega,by omega⟩ _ HK1.out).mono ?_
 rintro e ws ⟨s0,s1,s2,s3,rfl,hs,hv,hbl⟩
 have HVs:=Lib.hid hv;obtain⟨hcs,hfs⟩:=uZ hbl;have hzs:w.heap.size<ws.heap.size:=by have:=hbl.size; omega
 have HBLs:=Lib.hid (HB1.out.trans (hbl.mono HB1.out.size));clear hv hbl;go_wp2_with fail;refine bodyPost_ret (v:=.agg #[.int .u64 s0,.int .u64 s1,.int .u64 s2,.int .u64 s3]) (by simp[results,results208,go_sem, *]) rfl ?_;refine⟨_,_,_,_,rfl,hs,HVs.out,?_⟩;refine aZ (Below.trans ?_ (HBLs.out.mono (by first|(simp; done)|(simp; omega)))) (by omega) _ _ _ _
 repeat (first|exact Below.refl _ _|refine Below.drew ?_|refine Below.trans ?_ (bW _ _ _)|refine Below.alloc ?_ (by first|(simp; done)|(simp; omega)) _)
set_option maxHeartbeats 1000000 in
theorem zF (F:FC) (hF:F.Ok) (b a0 a1 a2 a3 b0 b1 b2 b3:Nat) (ha:cF a0 a1 a2 a3) (hb:cF b0 b1 b2 b3) (lb:aC b0 b1 b2 b3<F.M) (w:World) (hk:KIs w b F) :
  Calls prog 204 #[.pointer (some ⟨b,0,none⟩),.agg #[.int .u64 a0,.int .u64 a1,.int .u64 a2,.int .u64 a3],.agg #[.int .u64 b0,.int .u64 b1,.int .u64 b2,.int .u64 b3]] w (lE (aC a0 a1 a2 a3*aC b0 b1 b2 b3%F.M) w):=by
 have HK:=Lib.hid hk;have HF:=Lib.hid hF;have hL:=hk.lt;have hL1:b<w.heap.size+1:=by omega
 have hL2:b<w.heap.size+1+1:=by omega
 have HLB:=Lib.hid lb;clear lb;clear hk hF
 go_enter func204,ntmps204
 go_wp2_with fail
 go_region_with (first|(go_at_call 154; refine (cU F HF.out b a0 a1 a2 a3 ha _ (HK.out.same (by repeat (first|exact Below.refl _ _|refine Below.drew ?_|refine Below.trans ?_ (bW _ _ _)|refine Below.alloc ?_ (by first|(simp; done)|(simp; omega)) _)))).mono ?_; rintro e ws ⟨s0,s1,s2,s3,rfl,hs,hv,hbl⟩; have HVs:=Lib.hid hv; obtain⟨hcs,hfs⟩:=uZ hbl; have hzs:w.heap.size+1+1<ws.heap.size:=by { have:=hbl.size; simp at this; omega }; have HBLs:=Lib.hid hbl; clear hv hbl; have HKs:=Lib.hid (KIs.same (F:=F) (b:=b) (HK.out.same (by repeat (first|exact Below.refl _ _|refine Below.drew ?_|refine Below.trans ?_ (bW _ _ _)|refine Below.alloc ?_ (by first|(simp; done)|(simp; omega)) _))) HBLs.out))|(go_at_call 192; refine (cE F HF.out b s0 s1 s2 s3 b0 b1 b2 b3 hs hb HLB.out _ HKs.out).mono ?_; rintro e wp ⟨p0,p1,p2,p3,rfl,hp,hv,hbl⟩; have HVp:=Lib.hid hv; obtain⟨hcp,hfp⟩:=uZ hbl; have hzp:w.heap.size+1+1<wp.heap.size:=by { have:=hbl.size; omega }; have HBLp:=Lib.hid (HBLs.out.trans (hbl.mono HBLs.out.size)); clear hv hbl))
 all_goals (
  go_wp2_with fail;refine bodyPost_ret (v:=.agg #[.int .u64 p0,.int .u64 p1,.int .u64 p2,.int .u64 p3]) (by simp[results,results204,go_sem, *]) rfl ?_;refine⟨_,_,_,_,rfl,hp,HVp.out.trans (by rw[HVs.out]; exact xJ HF.out _ _),?_⟩;refine aZ (Below.trans ?_ (HBLp.out.mono (by first|(simp; done)|(simp; omega)))) (by omega) _ _ _ _
  repeat (first|exact Below.refl _ _|refine Below.drew ?_|refine Below.trans ?_ (bW _ _ _)|refine Below.alloc ?_ (by first|(simp; done)|(simp; omega)) _)
 )
theorem pS {a p:Nat} (ha:a<18446744073709551616) (hp:p≤63):∃lo hi:Nat,IntKind.u64.wrap ((a:Int)*2^p)=(lo:Int)∧(a:Int)/2^(64-p)=(hi:Int) ∧
  lo<18446744073709551616∧hi<18446744073709551616∧Hid (lo+18446744073709551616*hi=a*2^p)∧Hid (hi<2^p)∧Hid (∃t,lo=2^p*t):=by
 have hps:=tQ p hp;have hpos:0<2^p:=Nat.two_pow_pos p;have hd:a*2^p/18446744073709551616=a/2^(64-p):=by rw[←hps]; exact Nat.mul_div_mul_right _ _ hpos
 have hh:a/2^(64-p)<2^p:=by rw[Nat.div_lt_iff_lt_mul (Nat.two_pow_pos _),Nat.mul_comm,hps]; exact ha
 refine⟨a*2^p%18446744073709551616,a/2^(64-p),?_,?_,by omega,?_,Lib.hid ?_,Lib.hid hh,Lib.hid ?_⟩
 ·rw[gD,mF]
 ·rw[Int.natCast_ediv,Int.natCast_pow]; rfl
 ·exact Nat.lt_of_le_of_lt (Nat.div_le_self _ _) ha
 ·rw[←hd]; omega
 ·refine⟨a%2^(64-p),?_⟩;rw[←hps,Nat.mul_mod_mul_right,Nat.mul_comm]
theorem AO {lo hi p:Nat} (hl:lo<18446744073709551616) (hh:hi<18446744073709551616) (h1:Hid (hi<2^p)) (h2:Hid (∃t,lo=2^p*t)):∃s:Nat,bits .or .u64 (lo:Int) (hi:Int)=(s:Int)∧s<18446744073709551616∧Hid (s=lo+hi):=by
 obtain⟨t,ht⟩:=h2.out;have e:lo ||| hi=lo+hi:=by rw[ht,←Nat.two_pow_add_eq_or_of_lt h1.out]
 refine⟨lo+hi,by rw[bits_or_u64_nat _ _ hl hh,e],?_,Lib.hid rfl⟩;rw[←e]; exact Nat.or_lt_two_pow (n:=64) hl hh
theorem iY {a p:Nat} (ha:a<18446744073709551616) (hp:p≤63):∃lo up:Nat,(a:Int)/2^p=(lo:Int)∧IntKind.u64.wrap ((a:Int)*2^(64-p))=(up:Int) ∧
  lo<18446744073709551616∧up<18446744073709551616∧Hid (∃m,a=lo*2^p+m∧m<2^p∧up*2^p=m*18446744073709551616)∧Hid (lo<2^(64-p))∧Hid (∃t,up=2^(64-p)*t):=by
 have hps:=tQ p hp;have hpos:0<2^p:=Nat.two_pow_pos p;refine⟨a/2^p,a%2^p*2^(64-p),?_,?_,Nat.lt_of_le_of_lt (Nat.div_le_self _ _) ha,?_,Lib.hid ⟨a%2^p,?_,Nat.mod_lt _ hpos,?_⟩,Lib.hid ?_,Lib.hid ⟨a%2^p,Nat.mul_comm _ _⟩⟩
 ·rw[Int.natCast_ediv,Int.natCast_pow]; rfl
 ·rw[gD,mF];congr 1;rw[show 18446744073709551616=2^p*2^(64-p) by rw[Nat.mul_comm,hps],Nat.mul_mod_mul_right]
 ·have:=Nat.mul_lt_mul_of_pos_right (Nat.mod_lt a hpos) (Nat.two_pow_pos (64-p));rw[Nat.mul_comm (2^p),hps]at this;exact this
 ·rw[Nat.mul_comm]; exact (Nat.div_add_mod a (2^p)).symm
 ·rw[Nat.mul_assoc,hps]
 ·rw[Nat.div_lt_iff_lt_mul hpos,hps]; exact ha
theorem oF {lo up k:Nat} (hl:lo<18446744073709551616) (hu:up<18446744073709551616) (h1:Hid (lo<2^k)) (h2:Hid (∃t,up=2^k*t)):∃s:Nat,bits .or .u64 (lo:Int) (up:Int)=(s:Int)∧s<18446744073709551616∧Hid (s=lo+up):=by
 obtain⟨t,ht⟩:=h2.out;have e:lo ||| up=lo+up:=by rw[Nat.or_comm,ht,←Nat.two_pow_add_eq_or_of_lt h1.out,Nat.add_comm]
 refine⟨lo+up,by rw[bits_or_u64_nat _ _ hl hu,e],?_,Lib.hid rfl⟩;rw[←e]; exact Nat.or_lt_two_pow (n:=64) hl hu
theorem JJ {n:Int} (h0:0≤n) (q:Int) (h:n/64=q) (h1:0≤q):∃p:Nat,n%64=(p:Int)∧p≤63∧n.toNat=64*q.toNat+p :=
 ⟨(n%64).toNat,by omega,by omega,by omega⟩
theorem sD (q p:Nat):2^(64*q+p)=18446744073709551616^q*2^p:=by rw[Nat.pow_add,Nat.pow_mul]
theorem vS {r x T m:Nat} (h:r*T+m=x) (hm:m<T):r=x/T:=by
 subst h;rw[Nat.mul_comm,Nat.mul_add_div (by omega),Nat.div_eq_of_lt hm,Nat.add_zero]
theorem or2 {a b A B:Nat} (ha:a<18446744073709551616) (hb:b<18446744073709551616):(a ||| b)+18446744073709551616*(A ||| B)=(a+18446744073709551616*A) ||| (b+18446744073709551616*B):=by
 have h1:a+18446744073709551616*A=2^64*A ||| a:=by rw[←Nat.two_pow_add_eq_or_of_lt (show a<2^64 from ha)]; omega
 have h2:b+18446744073709551616*B=2^64*B ||| b:=by rw[←Nat.two_pow_add_eq_or_of_lt (show b<2^64 from hb)]; omega
 have h3:(a ||| b)+18446744073709551616*(A ||| B)=2^64*(A ||| B) ||| (a ||| b):=by rw[←Nat.two_pow_add_eq_or_of_lt (Nat.or_lt_two_pow (n:=64) ha hb)]; omega
 have h4:2^64*(A ||| B)=2^64*A ||| 2^64*B:=by
  rw[Nat.mul_comm _ (A ||| B),Nat.mul_comm _ A,Nat.mul_comm _ B,←Nat.shiftLeft_eq,←Nat.shiftLeft_eq,←Nat.shiftLeft_eq,Nat.shiftLeft_or_distrib]
 rw[h1,h2,h3,h4];simp only[Nat.or_assoc];congr 1;rw[←Nat.or_assoc,←Nat.or_assoc,Nat.or_comm a]
theorem or4 {a0 a1 a2 a3 b0 b1 b2 b3:Nat} (ha:cF a0 a1 a2 a3) (hb:cF b0 b1 b2 b3):aC (a0 ||| b0) (a1 ||| b1) (a2 ||| b2) (a3 ||| b3)=aC a0 a1 a2 a3 ||| aC b0 b1 b2 b3:=by
 unfold aC;rw[or2 ha.2.2.1 hb.2.2.1,or2 ha.2.1 hb.2.1,or2 ha.1 hb.1]
def LenIs (n L:Nat):Prop:=n<2^L∧(0<L→2^(L-1)≤n)
theorem LenIs.uniq {n L M:Nat} (h:LenIs n L) (k:LenIs n M):L=M:=by
 rcases Nat.lt_trichotomy L M with c|c|c
 ·have h1:=k.2 (by omega);have h2:=Nat.pow_le_pow_right (show 0<2 by omega) (show L≤M-1 by omega);have:=h.1; omega
 ·exact c
 ·have h1:=h.2 (by omega);have h2:=Nat.pow_le_pow_right (show 0<2 by omega) (show M≤L-1 by omega);have:=k.1; omega
theorem LenIs.zero:LenIs 0 0:=⟨by simp,fun h=>absurd h (by omega)⟩
theorem LenIs.up {n x L k:Nat} (hn:n<2^k) (hx:0<x) (h:LenIs x L):LenIs (n+x*2^k) (k+L):=by
 have hL:0<L:=by
  rcases Nat.eq_zero_or_pos L with e|e
  ·subst e; have:=h.1; simp at this; omega
  ·exact e
 constructor
 ·have:=Nat.mul_le_mul_right (2^k) (show x+1≤2^L from h.1);rw[Nat.add_mul,Nat.one_mul]at this;rw[Nat.pow_add,Nat.mul_comm (2^k)]; omega
 ·intro _;have:=Nat.mul_le_mul_right (2^k) (h.2 hL);rw[show k+L-1=k+(L-1) by omega,Nat.pow_add,Nat.mul_comm (2^k)]; omega
theorem Du {y:Nat} (h0:0<y) (hy:y<18446744073709551616):∃S:Nat,(∀w,Calls prog 131 #[.int .u64 y] w fun e w'=>e=.returned (.int .i64 S)∧w'=w)∧S≤64∧Hid (LenIs y S):=by
 obtain⟨hl,ha,hb,hk⟩:=Bz h0 hy;refine⟨y.log2+1,fun w => ?_,by omega,Lib.hid ⟨hb,fun _=>ha⟩⟩;have:=Tryz.bits_Len64 (y:Int) w (by omega) (by omega);rw[Int.toNat_natCast,hl]at this;exact this
theorem FU (a0 a1 a2 a3:Nat) (w:World):(Instr.index 24 (.agg #[.int .u64 a0,.int .u64 a1,.int .u64 a2,.int .u64 a3]) (.int .i64 (0:Nat))).run prog w=.ok (.int .u64 (a0:Nat)) w:=by kernel_rfl
theorem FT (a0 a1 a2 a3:Nat) (w:World):(Instr.index 24 (.agg #[.int .u64 a0,.int .u64 a1,.int .u64 a2,.int .u64 a3]) (.int .i64 (1:Nat))).run prog w=.ok (.int .u64 (a1:Nat)) w:=by kernel_rfl
theorem FQ (a0 a1 a2 a3:Nat) (w:World):(Instr.index 24 (.agg #[.int .u64 a0,.int .u64 a1,.int .u64 a2,.int .u64 a3]) (.int .i64 (2:Nat))).run prog w=.ok (.int .u64 (a2:Nat)) w:=by kernel_rfl
theorem FO (a0 a1 a2 a3:Nat) (w:World):(Instr.index 24 (.agg #[.int .u64 a0,.int .u64 a1,.int .u64 a2,.int .u64 a3]) (.int .i64 (3:Nat))).run prog w=.ok (.int .u64 (a3:Nat)) w:=by kernel_rfl
theorem LT (a0 a1 a2 a3 k:Nat) (hk:k<4) (w:World):(Instr.index 24 (.agg #[.int .u64 a0,.int .u64 a1,.int .u64 a2,.int .u64 a3]) (.int .i64 (k:Nat))).run prog w=.ok (.int .u64 (fH [a0,a1,a2,a3] k:Nat)) w:=by
 match k,hk with
 | 0,_=>exact FU a0 a1 a2 a3 w
 | 1,_=>exact FT a0 a1 a2 a3 w
 | 2,_=>exact FQ a0 a1 a2 a3 w
 | 3,_=>exact FO a0 a1 a2 a3 w
def Rp (A:Nat) (w:World) (e:Ending) (w':World):Prop :=
 ∃L:Nat,e=.returned (.int .i64 L)∧L≤256∧LenIs A L∧Below w.heap.size w w'
theorem By {A:Nat→Nat} {k L S:Nat} (hA:∀j,j<k→A j<18446744073709551616) (h0:0<A k) (hS:LenIs (A k) S):LenIs (fE 18446744073709551616 A (k+1)) (64*k+S):=by
 have h1:=wC 18446744073709551616 A (by omega) k hA;rw[show 18446744073709551616^k=2^(64*k) by rw[Nat.pow_mul]]at h1;rw[dI,show 18446744073709551616^k=2^(64*k) by rw[Nat.pow_mul]];exact LenIs.up h1 h0 hS
theorem tY (a0 a1 a2 a3:Nat) (ha:cF a0 a1 a2 a3) (w:World) :
  Calls prog 114 #[.agg #[.int .u64 a0,.int .u64 a1,.int .u64 a2,.int .u64 a3]] w (Rp (aC a0 a1 a2 a3) w):=by
 have lA:∀k,fH [a0,a1,a2,a3] k<18446744073709551616:=fun k=>by
  obtain⟨h0,h1,h2,h3⟩:=ha;unfold fH
  match k with
  | 0=>exact h0
  | 1=>exact h1
  | 2=>exact h2
  | 3=>exact h3
  | k+4=>simp
 obtain⟨A,eA⟩:∃A,A=fH [a0,a1,a2,a3]:=⟨_,rfl⟩
 have hix:=fun k hk w=>LT a0 a1 a2 a3 k hk w
 rw[←eA]at lA;simp only[←eA]at hix;have hv:aC a0 a1 a2 a3=fE 18446744073709551616 A 4:=by rw[←jA,eA]; rfl
 have HV:=Lib.hid hv; have HlA:=Lib.hid lA; have Hix:=Lib.hid hix;clear eA lA hv hix
 go_enter func114,ntmps114
 go_wp2_with fail
 go_loop [3,7] (fun l i=>∃k L:Nat,k≤4∧i=.int .i64 k∧l=.int .i64 L∧L≤64*k∧Hid (LenIs (fE 18446744073709551616 A k) L)) (fun _ i=>4-(intOf i).toNat)
 case atStart=>exact⟨0,0,by omega,rfl,rfl,by omega,Lib.hid LenIs.zero⟩
 case round =>
  obtain⟨k,L,hk,rfl,rfl,hL,hl⟩:=hrel
  by_cases hlt:k<4
  ·obtain⟨x,ex⟩:∃x,x=A k:=⟨_,rfl⟩
   have hx:=Hix.out k hlt;rw[←ex]at hx;have bx:x<18446744073709551616:=by rw[ex]; exact HlA.out k
   rcases Nat.eq_zero_or_pos x with h0|h0
   ·have t0:((x:Int) != 0)=false:=by simp[h0]
    have HN:Hid (LenIs (fE 18446744073709551616 A (k+1)) L):=Lib.hid (by rw[dI,←ex,h0,Nat.zero_mul,Nat.add_zero]; exact hl.out);clear h0 ex;go_wp2_with fail
    go_round
    case rel=>exact⟨k+1,L,by omega,by go_num,rfl,by omega,HN⟩
    case measure=>simp[intOf]; omega
   ·have t0:((x:Int) != 0)=true:=by simp; omega
    obtain⟨S,rS,bS,hS⟩:=Du h0 bx;have HN:Hid (LenIs (fE 18446744073709551616 A (k+1)) (64*k+S)):=Lib.hid (By (L:=L) (fun j _=>HlA.out j) (by omega) (by rw[←ex]; exact hS.out));clear h0 ex;go_wp2_with fail;refine (rS _).mono ?_
    rintro e w' ⟨rfl,rfl⟩
    go_wp2_with fail
    go_round
    case rel=>exact⟨k+1,64*k+S,by omega,by go_num,by go_num,by omega,HN⟩
    case measure=>simp[intOf]; omega
  ·obtain rfl:k=4:=by omega
   go_wp2_with fail;go_ret;exact⟨L,rfl,by omega,by rw[HV.out]; exact hl.out,(Below.refl _ _).alloc (Nat.le_refl _) _⟩
def oL (A i:Nat):Nat:=A/2^i%2
theorem KF (A i:Nat):oL A i=0∨oL A i=1:=by unfold oL; omega
theorem tE (R:Nat) (P:Nat→Nat) (n:Nat):fE R P (n+1)=P 0+R*fE R (fun k=>P (1+k)) n:=by
 have:=iO R P 1 n;rw[Nat.add_comm n 1,this];simp[fE]
theorem XM (P:Nat→Nat) (hP:∀k,P k<18446744073709551616) (n j k:Nat) (hj:j<n) (hk:k<64):oL (fE 18446744073709551616 P n) (64*j+k)=P j/2^k%2:=by
 obtain⟨m,rfl⟩:∃m,n=j+(m+1):=⟨n-j-1,by omega⟩
 have h1:=iO 18446744073709551616 P j (m+1);have h2:=tE 18446744073709551616 (fun k=>P (j+k)) m;have h3:=wC 18446744073709551616 P (by omega) j (fun k _=>hP k);unfold oL;rw[h1,h2,sD,←Nat.div_div_eq_div_mul,Nat.add_mul_div_left _ _ (by exact Nat.pow_pos (by omega)),Nat.div_eq_of_lt h3,Nat.zero_add];have e:18446744073709551616=2^k*(2*2^(63-k)):=by
  rw[←Nat.pow_succ',←Nat.pow_add,show k+(63-k).succ=64 by omega]
 show (P j+18446744073709551616*_)/2^k%2=_;generalize fE 18446744073709551616 (fun k=>P (j+(1+k))) m=H;rw[show 18446744073709551616*H=2^k*(2*2^(63-k))*H by rw[←e],Nat.mul_assoc,Nat.add_mul_div_left _ _ (by exact Nat.pow_pos (by omega)),Nat.mul_assoc,Nat.add_mul_mod_self_left]
theorem VZ {x k:Nat} (h:x/2^k%2=0):∃t l,x=2^(k+1)*t+l∧l<2^k:=by
 refine⟨x/2^k/2,x%2^k,?_,Nat.mod_lt _ (Nat.pow_pos (by omega))⟩;have h1:=Nat.div_add_mod x (2^k);have h2:x/2^k=2*(x/2^k/2):=by omega
 rw[Nat.pow_succ,Nat.mul_assoc,←h2,h1]
theorem Xn {x k:Nat} (h:x/2^k%2=0):x ||| 2^k=x+2^k:=by
 obtain⟨t,l,rfl,hl⟩:=VZ h;have h1:l<2^(k+1):=by rw[Nat.pow_succ]; omega
 have h2:2^k+l<2^(k+1):=by rw[Nat.pow_succ]; omega
 have e1:=Nat.two_pow_add_eq_or_of_lt hl 1;have e2:=Nat.two_pow_add_eq_or_of_lt h1 t;have e3:=Nat.two_pow_add_eq_or_of_lt h2 t;rw[Nat.mul_one]at e1;rw[e2,Nat.or_assoc,Nat.or_comm l,←e1,←e3];omega
theorem PE {x k:Nat} (hx:x<18446744073709551616) (hk:k<64) (h:x/2^k%2=0):x+2^k<18446744073709551616:=by
 have hk':2^k<2^64:=Nat.pow_lt_pow_right (by omega) hk;rw[←Xn h];have:=Nat.or_lt_two_pow (n:=64) (x:=x) (y:=2^k) (by simpa using hx) hk';simpa using this
theorem aFb {i:Nat} (h:i<256):∃j k:Nat,(i:Int)/64=(j:Int)∧(i:Int)%64=(k:Int)∧j<4∧k<64∧Hid (i=64*j+k) :=
 ⟨i/64,i%64,by omega,by omega,by omega,by omega,Lib.hid (by omega)⟩
theorem WJ (x:Nat) (hx:x<18446744073709551616):bits .and .u64 (x:Int) 1=((x%2:Nat):Int):=by
 rw[show (1:Int)=((1:Nat):Int)from rfl,bits_and_u64_nat _ _ hx (by omega),Nat.and_one_is_mod]
theorem Zz {x k b:Nat} (hx:x<18446744073709551616) (hb:x/2^k%2=b):∃s:Nat,(x:Int)/2^k=(s:Int)∧bits .and .u64 (s:Int) 1=(b:Int)∧s<18446744073709551616:=by
 have hs:x/2^k<18446744073709551616:=Nat.lt_of_le_of_lt (Nat.div_le_self _ _) hx;exact⟨x/2^k,by rw[Int.natCast_ediv,Int.natCast_pow]; rfl,by rw[WJ _ hs,hb],hs⟩
theorem Gb (A i:Nat):A/2^i=2*(A/2^(i+1))+oL A i:=by
 unfold oL;rw[Nat.pow_succ,←Nat.div_div_eq_div_mul];omega
def Rt (b:Nat) (w:World) (e:Ending) (w':World):Prop:=e=.returned (.int .i64 b)∧Below w.heap.size w w'
theorem DO {a0 a1 a2 a3:Nat} (ha:cF a0 a1 a2 a3) (k:Nat):fH [a0,a1,a2,a3] k<18446744073709551616:=by
 obtain⟨h0,h1,h2,h3⟩:=ha;unfold fH
 match k with
 | 0=>exact h0
 | 1=>exact h1
 | 2=>exact h2
 | 3=>exact h3
 | k+4=>simp
theorem QB (a0 a1 a2 a3:Nat):aC a0 a1 a2 a3=fE 18446744073709551616 (fH [a0,a1,a2,a3]) 4:=by rw[←jA]; rfl
theorem aAZ {a0 a1 a2 a3 i j k:Nat} (ha:cF a0 a1 a2 a3) (hj:j<4) (hk:k<64) (e:i=64*j+k):fH [a0,a1,a2,a3] j/2^k%2=oL (aC a0 a1 a2 a3) i:=by
 rw[QB,e,XM _ (DO ha) 4 j k hj hk]
theorem Bg (w:World) (t:TypeId) (a0 a1 a2 a3 j:Nat) (hj:j<4):(w.alloc (.cells #[.int .u64 a0,.int .u64 a1,.int .u64 a2,.int .u64 a3] t)).cell? ⟨w.heap.size,j,none⟩=some (.int .u64 (fH [a0,a1,a2,a3] j:Nat)) :=
 (RowIs.mk w t [a0,a1,a2,a3] w.heap.size rfl).cell hj
theorem aAY (a0 a1 a2 a3 i:Nat) (ha:cF a0 a1 a2 a3) (hi:i<256) (w:World) :
  Calls prog 209 #[.agg #[.int .u64 a0,.int .u64 a1,.int .u64 a2,.int .u64 a3],.int .i64 i] w (Rt (oL (aC a0 a1 a2 a3) i) w):=by
 obtain⟨j,k,q,r,hj,hk,e⟩:=aFb hi;have hc:=Bg w 24 a0 a1 a2 a3 j hj;have hx:=DO ha j;obtain⟨s,e1,e2,hs⟩:=Zz hx (aAZ ha hj hk e.out);have hb:=KF (aC a0 a1 a2 a3) i;generalize oL (aC a0 a1 a2 a3) i=b at *;generalize fH [a0,a1,a2,a3] j=x at *;have hb':b≤1:=by omega
 clear hb e;have t0:decide ((i:Int)<0)=false:=decide_eq_false (by omega);have t1:decide ((256:Int)≤(i:Int))=false:=decide_eq_false (by omega)
 go_enter func209,ntmps209
 go_wp2_with fail;go_ret;exact⟨rfl,(Below.refl _ _).alloc (Nat.le_refl _) _⟩
theorem Mem.row {w wr:World} {rs:List (Nat×Nat×Nat×Nat×Nat)} (h:Mem w wr rs) {b c0 c1 c2 c3:Nat} (hm:(b,c0,c1,c2,c3)∈rs):Row4 wr b c0 c1 c2 c3:=(h.2 _ hm).2
theorem Mem.lt {w wr:World} {rs:List (Nat×Nat×Nat×Nat×Nat)} (h:Mem w wr rs) {b c0 c1 c2 c3:Nat} (hm:(b,c0,c1,c2,c3)∈rs):b<wr.heap.size:=(h.2 _ hm).1
theorem GP {N k L:Nat} (hk:k<L):N/2^(L-(k+1))=2*(N/2^(L-k))+oL N (L-1-k):=by
 have:=Gb N (L-1-k);rw[show L-1-k+1=L-k by omega]at this;rw[show L-(k+1)=L-1-k by omega,this]
set_option maxHeartbeats 4000000 in
theorem fV (F:FC) (hF:F.Ok) (A b a0 a1 a2 a3 n0 n1 n2 n3:Nat) (ha:cF a0 a1 a2 a3) (hn:cF n0 n1 n2 n3) (hA:aC a0 a1 a2 a3=kp F A) (w:World) (hk:KIs w b F) :
  Calls prog 191 #[.pointer (some ⟨b,0,none⟩),.agg #[.int .u64 a0,.int .u64 a1,.int .u64 a2,.int .u64 a3],.agg #[.int .u64 n0,.int .u64 n1,.int .u64 n2,.int .u64 n3]] w (lE (kp F (A^aC n0 n1 n2 n3)) w):=by
 have HK:=Lib.hid hk;have HF:=Lib.hid hF;have HA:=Lib.hid hA;have la:aC a0 a1 a2 a3<F.M:=by rw[hA]; exact kS hF _
 have hL:=hk.lt;have HLA:=Lib.hid la;clear hk hF hA la
 go_enter func191,ntmps191
 go_wp2_with fail;have M0:=((((Mem.nil w).new w.heap.size a0 a1 a2 a3 155 rfl).new (w.heap.size+1) n0 n1 n2 n3 24 (by simp)).new (w.heap.size+1+1) 0 0 0 0 155 (by simp));refine (tT F HF.out b _ (HK.out.same M0.1)).mono ?_
 rintro e w1 ⟨s0,s1,s2,s3,rfl,hs,hv,hbl⟩
 have M1:=M0.on hbl;have HV1:=Lib.hid hv;have hz1:w.heap.size+1+1<w1.heap.size:=M1.lt (c0:=0) (c1:=0) (c2:=0) (c3:=0) (by simp);have R1:=M1.row (b:=w.heap.size+1) (c0:=n0) (c1:=n1) (c2:=n2) (c3:=n3) (by simp);have x0:=R1.c0; have x1:=R1.c1; have x2:=R1.c2; have x3:=R1.c3;have lt1:w.heap.size+1<w1.heap.size:=by omega
 have M2:=Lib.hid (M1.new w1.heap.size s0 s1 s2 s3 155 rfl);clear hbl hv R1 M0 M1;go_wp2_with fail;refine (tY n0 n1 n2 n3 hn _).mono ?_
 rintro e w2 ⟨L,rfl,hL256,hLen,hbl⟩
 have HLen:=Lib.hid hLen;have M3:=Lib.hid (M2.out.on hbl);have hz2:w1.heap.size<w2.heap.size:=by have:=hbl.size; simp at this; omega
 clear hbl hLen x0 x1 x2 x3;go_wp2_with fail
 go_loopw [15] (fun i wr=>∃k r0 r1 r2 r3:Nat,k≤L∧i=.int .i64 k∧cF r0 r1 r2 r3∧Hid (aC r0 r1 r2 r3=kp F (A^(aC n0 n1 n2 n3/2^(L-k))))∧Hid (Mem w wr [(w1.heap.size,r0,r1,r2,r3),(w.heap.size+1+1,0,0,0,0),(w.heap.size+1,n0,n1,n2,n3),(w.heap.size,a0,a1,a2,a3)])) (fun i _=>L-(intOf i).toNat)
 case atStart =>
  refine⟨0,s0,s1,s2,s3,Nat.zero_le _,rfl,hs,Lib.hid ?_,M3⟩;rw[HV1.out,Nat.sub_zero,Nat.div_eq_of_lt HLen.out.1,Nat.pow_zero]
 case round =>
  obtain⟨k,r0,r1,r2,r3,hkL,rfl,hr,HV,HM⟩:=hrel;have hrl:aC r0 r1 r2 r3<F.M:=by rw[HV.out]; exact kS HF.out _
  by_cases hlt:k<L
  ·have Rr:=HM.out.row (b:=w1.heap.size) (c0:=r0) (c1:=r1) (c2:=r2) (c3:=r3) (by simp);have x0:=Rr.c0; have x1:=Rr.c1; have x2:=Rr.c2; have x3:=Rr.c3;have ltr:=HM.out.lt (b:=w1.heap.size) (c0:=r0) (c1:=r1) (c2:=r2) (c3:=r3) (by simp);have Hrl:=Lib.hid hrl;clear Rr hrl;go_wp2_with fail;refine (cE F HF.out b r0 r1 r2 r3 r0 r1 r2 r3 hr hr Hrl.out _ (HK.out.same HM.out.1)).mono ?_
   rintro e w3 ⟨p0,p1,p2,p3,rfl,hp,hv,hbl⟩
   have hv':aC p0 p1 p2 p3=kp F (A^(aC n0 n1 n2 n3/2^(L-k))*A^(aC n0 n1 n2 n3/2^(L-k))%F.M):=by rw[hv,HV.out,eK HF.out]
   have HP:=Lib.hid hv';have M4:=HM.out.on hbl;have lt4:=M4.lt (b:=w1.heap.size) (c0:=r0) (c1:=r1) (c2:=r2) (c3:=r3) (by simp);have Rr:=M4.row (b:=w1.heap.size) (c0:=r0) (c1:=r1) (c2:=r2) (c3:=r3) (by simp);have Rn:=M4.row (b:=w.heap.size+1) (c0:=n0) (c1:=n1) (c2:=n2) (c3:=n3) (by simp);have Ra:=M4.row (b:=w.heap.size) (c0:=a0) (c1:=a1) (c2:=a2) (c3:=a3) (by simp);have M5:=Lib.hid (M4.put p0 p1 p2 p3 (by omega) (by intro r hr; simp at hr; rcases hr with rfl|rfl|rfl<;>simp<;>omega));clear x0 x1 x2 x3 hv hv' hbl M4;have x0:=Rr.c0; have x1:=Rr.c1; have x2:=Rr.c2; have x3:=Rr.c3; have xf:=Rr.fr;have y0:=Rn.c0; have y1:=Rn.c1; have y2:=Rn.c2; have y3:=Rn.c3;have ne1:¬w.heap.size+1=w1.heap.size:=by omega
   have ne1':¬w1.heap.size=w.heap.size+1:=by omega
   clear Rr Rn Ra;obtain⟨L1,e1,hL1⟩:∃L1:Nat,(L:Int)-1=(L1:Int)∧L1+1=L:=⟨L-1,by omega,by omega⟩
   obtain⟨j,e2,hj⟩:∃j:Nat,(L1:Int)-(k:Int)=(j:Int)∧j+k=L1:=⟨L1-k,by omega,by omega⟩
   have hj256:j<256:=by omega
   have hjk:j=L-1-k:=by omega
   have HJ:=Lib.hid hjk;clear hjk;go_wp2_with fail;refine (aAY n0 n1 n2 n3 j hn hj256 _).mono ?_
   rintro e w4 ⟨he,hbl⟩
   have M5':=M5.out;unfold set4 at M5';have M6:=M5'.on hbl;clear hbl M5' x0 x1 x2 x3 xf y0 y1 y2 y3;have lt6:=M6.lt (b:=w1.heap.size) (c0:=p0) (c1:=p1) (c2:=p2) (c3:=p3) (by simp)
   rcases KF (aC n0 n1 n2 n3) j with hb|hb
   ·rw[hb]at he;subst he;have HS:=Lib.hid (show aC p0 p1 p2 p3=kp F (A^(aC n0 n1 n2 n3/2^(L-(k+1)))) by
     rw[HP.out,GP hlt,←HJ.out,hb]; exact ((uT F A _ 0 (Or.inl rfl)).1 rfl).symm)
    have M7:=Lib.hid M6;clear hb M6;go_wp2_with fail
    go_roundw
    case rel=>exact⟨k+1,p0,p1,p2,p3,by omega,by go_num,hp,HS,M7⟩
    case measure=>simp[intOf]; omega
   ·rw[hb]at he;subst he;have Rr:=M6.row (b:=w1.heap.size) (c0:=p0) (c1:=p1) (c2:=p2) (c3:=p3) (by simp);have Ra:=M6.row (b:=w.heap.size) (c0:=a0) (c1:=a1) (c2:=a2) (c3:=a3) (by simp);have x0:=Rr.c0; have x1:=Rr.c1; have x2:=Rr.c2; have x3:=Rr.c3;have z0:=Ra.c0; have z1:=Ra.c1; have z2:=Ra.c2; have z3:=Ra.c3;have HB:=Lib.hid hb;have M7:=Lib.hid M6;clear hb M6 Rr Ra;go_wp2_with fail;refine (cE F HF.out b p0 p1 p2 p3 a0 a1 a2 a3 hp ha HLA.out _ (HK.out.same M7.out.1)).mono ?_
    rintro e w5 ⟨q0,q1,q2,q3,rfl,hq,hv,hbl⟩
    have hv':aC q0 q1 q2 q3=kp F (A^(aC n0 n1 n2 n3/2^(L-(k+1)))):=by
     rw[hv,HP.out,HA.out,eK HF.out,GP hlt,←HJ.out,HB.out]; exact ((uT F A _ 1 (Or.inr rfl)).2 rfl).symm
    have HS:=Lib.hid hv';have M8:=M7.out.on hbl;have lt8:=M8.lt (b:=w1.heap.size) (c0:=p0) (c1:=p1) (c2:=p2) (c3:=p3) (by simp);have Rr:=M8.row (b:=w1.heap.size) (c0:=p0) (c1:=p1) (c2:=p2) (c3:=p3) (by simp);have M9:=Lib.hid (M8.put q0 q1 q2 q3 (by omega) (by intro r hr; simp at hr; rcases hr with rfl|rfl|rfl<;>simp<;>omega));clear x0 x1 x2 x3 z0 z1 z2 z3 hv hv' hbl M8;have x0:=Rr.c0; have x1:=Rr.c1; have x2:=Rr.c2; have x3:=Rr.c3; have xf:=Rr.fr;clear Rr;go_wp2_with fail
    go_roundw
    case rel=>exact⟨k+1,q0,q1,q2,q3,by omega,by go_num,hq,HS,M9⟩
    case measure=>simp[intOf]; omega
  ·obtain rfl:k=L:=by omega
   have Rr:=HM.out.row (b:=w1.heap.size) (c0:=r0) (c1:=r1) (c2:=r2) (c3:=r3) (by simp);have x0:=Rr.c0; have x1:=Rr.c1; have x2:=Rr.c2; have x3:=Rr.c3;have Ro:=HM.out.row (b:=w.heap.size+1+1) (c0:=0) (c1:=0) (c2:=0) (c3:=0) (by simp);have o0:=Ro.c0; have o1:=Ro.c1; have o2:=Ro.c2; have o3:=Ro.c3; have of:=Ro.fr;have ltr:=HM.out.lt (b:=w1.heap.size) (c0:=r0) (c1:=r1) (c2:=r2) (c3:=r3) (by simp);have lto:=HM.out.lt (b:=w.heap.size+1+1) (c0:=0) (c1:=0) (c2:=0) (c3:=0) (by simp);clear Rr Ro hrl;go_wp2_with fail;refine bodyPost_ret (v:=.agg #[.int .u64 r0,.int .u64 r1,.int .u64 r2,.int .u64 r3]) (by simp[results,results191,go_sem, *]) rfl ?_;refine⟨_,_,_,_,rfl,hr,by rw[HV.out,Nat.sub_self,Nat.pow_zero,Nat.div_one],?_⟩;exact aZ HM.out.1 (by omega) _ _ _ _
def Qx (M A T R S C:Nat):Prop:=1≤T∧R*R%M=A*S%M∧C^2^(T-1)%M=M-1∧S^2^(T-1)%M=1
theorem jQ (x k:Nat):x^2^(k+1)=x^2^k*x^2^k:=by rw[Nat.pow_succ,Nat.mul_comm,Nat.two_mul,Nat.pow_add]
theorem XW {M g:Nat} (hr:Root M g) (h2:2<M) {A T o R S C:Nat} (h:Qx M A T R S C) (ho:0<o) (hoT:o<T) (h1:S^2^o%M=1) (hmin:S^2^(o-1)%M≠1) :
  Qx M A o (R*C^2^(T-o-1)) (S*(C^2^(T-o-1)*C^2^(T-o-1))) (C^2^(T-o-1)*C^2^(T-o-1)):=by
 obtain⟨hT,hR,hC,hS⟩:=h;have hD:(C^2^(T-o-1)*C^2^(T-o-1))^2^(o-1)%M=M-1:=by
  rw[←jQ,←Nat.pow_mul,←Nat.pow_add,show T-o-1+1+(o-1)=T-1 by omega]; exact hC
 have hx:S^2^(o-1)%M=M-1:=by
  have hlt:=Nat.mod_lt (S^2^(o-1)) (show 0<M by omega);have e:S^2^(o-1)%M*(S^2^(o-1)%M)%M=1:=by
   rw[←Nat.mul_mod,←jQ,show o-1+1=o by omega]; exact h1
  rcases Wz hr (by omega) hlt e with q|q
  ·exact absurd q hmin
  ·exact q
 refine⟨ho,?_,hD,?_⟩
 ·generalize C^2^(T-o-1)=D at *;rw[show R*D*(R*D)=R*R*(D*D) by simp only[Nat.mul_comm,Nat.mul_left_comm,Nat.mul_assoc],←Nat.mul_assoc A S];exact oJ hR rfl
 ·rw[Nat.mul_pow,Nat.mul_mod,hD,hx];exact Vr h2
theorem GQ {M A H T:Nat} (hM:M=2^T*(2*H+1)+1) (hT:1≤T):(A^(2*H+1))^2^(T-1)=A^(M/2):=by
 rw[←Nat.pow_mul];congr 1;obtain⟨t,rfl⟩:∃t,T=t+1:=⟨T-1,by omega⟩
 rw[hM,Nat.pow_succ,show t+1-1=t by omega,Nat.mul_comm (2^t) 2,Nat.mul_assoc,Nat.mul_comm (2*H+1)];omega
theorem TA {M A H T C:Nat} (hM:M=2^T*(2*H+1)+1) (hT:1≤T) (hC:C^2^(T-1)%M=M-1) (hs:A^(M/2)%M=1) :
  Qx M A T (A*A^H) (A*A^H*A^H) C:=by
 have e:A*A^H*A^H=A^(2*H+1):=by rw[Nat.mul_assoc,←Nat.pow_add,←Nat.pow_succ']; congr 1; omega
 refine⟨hT,?_,hC,?_⟩
 ·rw[show A*A^H*(A*A^H)=A*(A*A^H*A^H) by simp only[Nat.mul_comm,Nat.mul_left_comm,Nat.mul_assoc]]
 ·rw[e,GQ hM hT,hs]
theorem wG {M H T:Nat} (hM:M=2^T*(2*H+1)+1) (hT:1≤T):M/2^(T+1)=H:=by
 obtain⟨t,rfl⟩:∃t,T=t+1:=⟨T-1,by omega⟩
 have hp:=Nat.two_pow_pos t;rw[hM,Nat.pow_succ 2 (t+1),Nat.pow_succ 2 t];generalize 2^t=x at *;rw[show x*2*(2*H+1)+1=x*2+1+x*2*2*H by rw[Nat.mul_add,←Nat.mul_assoc]; omega];rw[Nat.add_mul_div_left _ _ (by omega),Nat.div_eq_of_lt (by omega),Nat.zero_add]
theorem Xp {M S i j:Nat} (h1:1<M) (hij:i≤j) (h:S^2^i%M=1):S^2^j%M=1:=by
 obtain⟨d,rfl⟩:∃d,j=i+d:=⟨j-i,by omega⟩
 rw[Nat.pow_add,Nat.pow_mul,Nat.pow_mod,h,Nat.one_pow,Nat.mod_eq_of_lt h1]
theorem Dx (d:Nat) (a0 a1 a2 a3 b0 b1 b2 b3:Nat) (w:World):(Op.equalIn (d+1+1) 155 (.agg #[.int .u64 a0,.int .u64 a1,.int .u64 a2,.int .u64 a3]) (.agg #[.int .u64 b0,.int .u64 b1,.int .u64 b2,.int .u64 b3])).run prog w=.ok (yU a0 a1 a2 a3 b0 b1 b2 b3) w:=by
 have h0:∀(x y:Int) (w:World),(Op.equalIn (d+1) 22 (.int .u64 x) (.int .u64 y)).run prog w=.ok (x==y) w:=fun x y w=>run_equalIn_int w d 22 .u64 .u64 x y underlying22
 rw[Op.equalIn];simp only[Sem.run_bind,run_underlying underlying155,Result.andThen_ok,Tryz.sizeOf22];simp[Std.Legacy.Range.forIn_eq_forIn_range',Std.Legacy.Range.size,List.range',part,h0,Sem.run_bind,Result.andThen_ok];unfold yU
 by_cases q0:a0=b0<;>by_cases q1:a1=b1<;>by_cases q2:a2=b2<;>by_cases q3:a3=b3<;>simp[q0,q1,q2,q3]<;>omega
theorem mC (d:Nat) (a0 a1 a2 a3 b0 b1 b2 b3:Nat) (w:World):(Op.equalIn (d+1+1) 27 (.agg #[.int .u64 a0,.int .u64 a1,.int .u64 a2,.int .u64 a3]) (.agg #[.int .u64 b0,.int .u64 b1,.int .u64 b2,.int .u64 b3])).run prog w=.ok (yU a0 a1 a2 a3 b0 b1 b2 b3) w:=by
 have h0:∀(x y:Int) (w:World),(Op.equalIn (d+1) 22 (.int .u64 x) (.int .u64 y)).run prog w=.ok (x==y) w:=fun x y w=>run_equalIn_int w d 22 .u64 .u64 x y underlying22
 rw[Op.equalIn];simp only[Sem.run_bind,run_underlying underlying27,Result.andThen_ok,Tryz.sizeOf22];simp[Std.Legacy.Range.forIn_eq_forIn_range',Std.Legacy.Range.size,List.range',part,h0,Sem.run_bind,Result.andThen_ok];unfold yU
 by_cases q0:a0=b0<;>by_cases q1:a1=b1<;>by_cases q2:a2=b2<;>by_cases q3:a3=b3<;>simp[q0,q1,q2,q3]<;>omega
theorem Mem.drew {w wr:World} {rs:List (Nat×Nat×Nat×Nat×Nat)} (h:Mem w wr rs):Mem w wr.drew rs :=
 ⟨h.1.drew,fun r hr=>⟨(h.2 r hr).1,⟨(h.2 r hr).2.c0,(h.2 r hr).2.c1,(h.2 r hr).2.c2,(h.2 r hr).2.c3,(h.2 r hr).2.fr⟩⟩⟩
theorem Dz:prog.eqGuardType prog.depth 155=false:=by kernel_rfl
theorem sV:prog.eqGuardType prog.depth 27=false:=by kernel_rfl
set_option maxHeartbeats 1000000 in
theorem oD (F:FC) (hF:F.Ok) (A b a0 a1 a2 a3:Nat) (ha:cF a0 a1 a2 a3) (hA:aC a0 a1 a2 a3=kp F A) (w:World) (hk:KIs w b F) :
  Calls prog 194 #[.pointer (some ⟨b,0,none⟩),.agg #[.int .u64 a0,.int .u64 a1,.int .u64 a2,.int .u64 a3]] w (lE (kp F (A^(F.M-2))) w):=by
 have HK:=Lib.hid hk;have HF:=Lib.hid hF;have HA:=Lib.hid hA;have hL:=hk.lt;have hL1:b<w.heap.size+1:=by omega
 have k0:=hk.k0; have k1:=hk.k1; have k2:=hk.k2; have k3:=hk.k3;clear hk hF hA
 go_enter func194,ntmps194
 go_wp2_with fail;have M0:=(((Mem.nil w).new w.heap.size a0 a1 a2 a3 155 rfl).new (w.heap.size+1) 0 0 0 0 155 (by simp));refine (oR F.m0 F.m1 F.m2 F.m3 2 0 0 0 HF.out.okm ⟨by omega,by omega,by omega,by omega⟩ _).mono ?_
 rintro e w1 ⟨n0,n1,n2,n3,c,rfl,hn,hc,hv,hbl⟩
 have hv':aC n0 n1 n2 n3=F.M-2:=by
  have e2:aC 2 0 0 0=2:=rfl;have:=bT hn; have:=HF.out.gt; have:=HF.out.two;rw[e2,show aC F.m0 F.m1 F.m2 F.m3=F.M from rfl]at hv;omega
 have HV:=Lib.hid hv';have M1:=M0.on hbl;have hz1:w.heap.size+1<w1.heap.size:=M1.lt (c0:=0) (c1:=0) (c2:=0) (c3:=0) (by simp);have R1:=M1.row (b:=w.heap.size) (c0:=a0) (c1:=a1) (c2:=a2) (c3:=a3) (by simp);have x0:=R1.c0; have x1:=R1.c1; have x2:=R1.c2; have x3:=R1.c3;have lt1:w.heap.size<w1.heap.size:=by omega
 have M2:=Lib.hid (M1.new w1.heap.size n0 n1 n2 n3 24 rfl);clear hbl hv hv' R1 M0 M1 k0 k1 k2 k3;go_wp2_with fail;refine (fV F HF.out A b a0 a1 a2 a3 n0 n1 n2 n3 ha hn HA.out _ (HK.out.same M2.out.1)).mono ?_
 rintro e w2 ⟨s0,s1,s2,s3,rfl,hs,hv,hbl⟩
 have HVs:=Lib.hid hv;have M3:=Lib.hid (M2.out.on hbl);have Ro:=M3.out.row (b:=w.heap.size+1) (c0:=0) (c1:=0) (c2:=0) (c3:=0) (by simp);have o0:=Ro.c0; have o1:=Ro.c1; have o2:=Ro.c2; have o3:=Ro.c3; have of:=Ro.fr;have lto:=M3.out.lt (b:=w.heap.size+1) (c0:=0) (c1:=0) (c2:=0) (c3:=0) (by simp);clear hbl hv Ro x0 x1 x2 x3;go_wp2_with fail;refine bodyPost_ret (v:=.agg #[.int .u64 s0,.int .u64 s1,.int .u64 s2,.int .u64 s3]) (by simp[results,results194,go_sem, *]) rfl ?_;refine⟨_,_,_,_,rfl,hs,by rw[HVs.out,HV.out],?_⟩;exact aZ M3.out.1 (by omega) _ _ _ _
def dT (M A:Nat):Bool:=decide (A≤(0+M-A)%M)
theorem Mh (M A:Nat):decide (iL A ((0+M-A)%M)≤0)=dT M A:=by
 unfold dT iL
 by_cases h:A=(0+M-A)%M
 ·rw[if_pos h,decide_eq_true (by omega),decide_eq_true (by omega)]
 ·rw[if_neg h]
  by_cases h2:A<(0+M-A)%M
  ·rw[if_pos h2,decide_eq_true (by omega),decide_eq_true (by omega)]
  ·rw[if_neg h2,decide_eq_false (by omega),decide_eq_false (by omega)]
set_option maxHeartbeats 1000000 in
theorem pQ (F:FC) (hF:F.Ok) (b a0 a1 a2 a3:Nat) (ha:cF a0 a1 a2 a3) (la:aC a0 a1 a2 a3<F.M) (w:World) (hk:KIs w b F) :
  Calls prog 151 #[.pointer (some ⟨b,0,none⟩),.agg #[.int .u64 a0,.int .u64 a1,.int .u64 a2,.int .u64 a3]] w fun e w'=>e=.returned (.bool (dT F.M (aC a0 a1 a2 a3)))∧Below w.heap.size w w':=by
 have HK:=Lib.hid hk;have HF:=Lib.hid hF;have HLA:=Lib.hid la;have hL:=hk.lt;have hL1:b<w.heap.size+1:=by omega
 clear hk hF la
 go_enter func151,ntmps151
 go_wp2_with fail;have M0:=Lib.hid ((Mem.nil w).new w.heap.size a0 a1 a2 a3 27 rfl)
 go_region_with (first
  | (go_at_call 156; (refine (oA F HF.out b 0 0 0 0 a0 a1 a2 a3 ⟨by omega,by omega,by omega,by omega⟩ ha HF.out.pos HLA.out _ (HK.out.same (by repeat (first|exact Below.refl _ _|refine Below.drew ?_|refine Below.alloc ?_ (by first|(simp; done)|(simp; omega)) _)))).mono ?_; rintro e w1 ⟨s0,s1,s2,s3,rfl,hs,hv,hbl⟩; have HV:=Lib.hid hv; have M1:=Lib.hid (M0.out.drew.on hbl); have R1:=M1.out.row (b:=w.heap.size) (c0:=a0) (c1:=a1) (c2:=a2) (c3:=a3) (by simp); have x0:=R1.c0; have x1:=R1.c1; have x2:=R1.c2; have x3:=R1.c3; have lt1:=M1.out.lt (b:=w.heap.size) (c0:=a0) (c1:=a1) (c2:=a2) (c3:=a3) (by simp); clear hv hbl R1))
  | (go_at_call 71; refine (AX a0 a1 a2 a3 s0 s1 s2 s3 ha hs _).mono ?_; rintro e w2 ⟨rfl,hbl⟩; have HB:=Lib.hid (M1.out.on hbl).1; clear hbl))
 all_goals (
  go_wp2_with fail;go_ret;exact⟨GG (by rw[HV.out]; exact Mh _ _),HB.out⟩)
def Rl (M A T:Nat) (w:World) (e:Ending) (w':World):Prop :=
 ∃o:Nat,e=.returned (.int .i64 o)∧o≤T∧(∀j,j<o→A^2^j%M≠1)∧(o<T→A^2^o%M=1)∧Below w.heap.size w w'
theorem aAc {F:FC} (hF:F.Ok) {a0 a1 a2 a3 s0 s1 s2 s3 A:Nat} (ha:cF a0 a1 a2 a3) (hs:cF s0 s1 s2 s3) (hA:aC a0 a1 a2 a3=kp F A) (hS:aC s0 s1 s2 s3=kp F 1):yU a0 a1 a2 a3 s0 s1 s2 s3=true↔A%F.M=1:=by
 have h1:1<F.M:=by have:=hF.gt; omega
 rw[jU ha hs,hA,hS,←gK F A];exact⟨fun h=>Yd hF (Nat.mod_lt _ (by omega)) h1 h,fun h=>by rw[h]⟩
set_option maxHeartbeats 4000000 in
theorem oB (F:FC) (hF:F.Ok) (A b a0 a1 a2 a3 T:Nat) (ha:cF a0 a1 a2 a3) (hA:aC a0 a1 a2 a3=kp F A) (hT:T≤256) (w:World) (hk:KIs w b F) :
  Calls prog 193 #[.pointer (some ⟨b,0,none⟩),.agg #[.int .u64 a0,.int .u64 a1,.int .u64 a2,.int .u64 a3],.int .i64 T] w (Rl F.M A T w):=by
 have HK:=Lib.hid hk;have HF:=Lib.hid hF;have HA:=Lib.hid hA;have hL:=hk.lt;have hG:=Dz;clear hk hF hA
 go_enter func193,ntmps193
 go_wp2_with fail;have M0:=(Mem.nil w).new w.heap.size a0 a1 a2 a3 155 rfl;refine (tT F HF.out b _ (HK.out.same M0.1)).mono ?_
 rintro e w1 ⟨s0,s1,s2,s3,rfl,hs,hv,hbl⟩
 have M1:=M0.on hbl;have HV1:=Lib.hid hv;have hz1:w.heap.size<w1.heap.size:=M1.lt (c0:=a0) (c1:=a1) (c2:=a2) (c3:=a3) (by simp);have M2:=Lib.hid ((M1.new w1.heap.size s0 s1 s2 s3 155 rfl).sub (rs':=[(w.heap.size,a0,a1,a2,a3),(w1.heap.size,s0,s1,s2,s3)]) (by simp));clear hbl hv M0 M1;go_wp2_with fail
 go_loopw [12] (fun i wr=>∃k r0 r1 r2 r3:Nat,k≤T∧i=.int .i64 k∧cF r0 r1 r2 r3∧Hid (aC r0 r1 r2 r3=kp F (A^2^k))∧Hid (∀j,j<k→A^2^j%F.M≠1)∧Hid (Mem w wr [(w.heap.size,r0,r1,r2,r3),(w1.heap.size,s0,s1,s2,s3)])) (fun i _=>T-(intOf i).toNat)
 case atStart =>
  exact⟨0,a0,a1,a2,a3,Nat.zero_le _,rfl,ha,Lib.hid (by rw[HA.out,Nat.pow_zero,Nat.pow_one]),Lib.hid (fun j hj=>absurd hj (by omega)),M2⟩
 case round =>
  obtain⟨k,r0,r1,r2,r3,hkT,rfl,hr,HV,HN,HM⟩:=hrel
  by_cases hlt:k<T
  ·have Rr:=HM.out.row (b:=w.heap.size) (c0:=r0) (c1:=r1) (c2:=r2) (c3:=r3) (by simp);have x0:=Rr.c0; have x1:=Rr.c1; have x2:=Rr.c2; have x3:=Rr.c3;have Ro:=HM.out.row (b:=w1.heap.size) (c0:=s0) (c1:=s1) (c2:=s2) (c3:=s3) (by simp);have o0:=Ro.c0; have o1:=Ro.c1; have o2:=Ro.c2; have o3:=Ro.c3;have ltr:=HM.out.lt (b:=w.heap.size) (c0:=r0) (c1:=r1) (c2:=r2) (c3:=r3) (by simp);have lto:=HM.out.lt (b:=w1.heap.size) (c0:=s0) (c1:=s1) (c2:=s2) (c3:=s3) (by simp);have hE:=fun w=>Dx 9998 r0 r1 r2 r3 s0 s1 s2 s3 w
   have hq:=aAc HF.out hr hs HV.out HV1.out;clear Rr Ro;cases q:yU r0 r1 r2 r3 s0 s1 s2 s3
   ·rw[q]at hE hq;have HN1:=Lib.hid (show ¬A^2^k%F.M=1 from fun h=>by simpa using hq.2 h);have hrl:=Lib.hid (show aC r0 r1 r2 r3<F.M by rw[HV.out]; exact kS HF.out _);clear q hq;go_wp2_with fail;refine (cE F HF.out b r0 r1 r2 r3 r0 r1 r2 r3 hr hr hrl.out _ (HK.out.same HM.out.1)).mono ?_
    rintro e w3 ⟨p0,p1,p2,p3,rfl,hp,hv,hbl⟩
    have HP:=Lib.hid (show aC p0 p1 p2 p3=kp F (A^2^(k+1)) by rw[hv,HV.out,eK HF.out,gK,jQ]);have M4:=HM.out.on hbl;have lt4:=M4.lt (b:=w.heap.size) (c0:=r0) (c1:=r1) (c2:=r2) (c3:=r3) (by simp);have Rr:=M4.row (b:=w.heap.size) (c0:=r0) (c1:=r1) (c2:=r2) (c3:=r3) (by simp);have M5:=Lib.hid (M4.put p0 p1 p2 p3 (by omega) (by intro r hr; simp at hr; rcases hr with rfl; simp; omega));clear x0 x1 x2 x3 o0 o1 o2 o3 hv hbl M4 hE;have x0:=Rr.c0; have x1:=Rr.c1; have x2:=Rr.c2; have x3:=Rr.c3; have xf:=Rr.fr;clear Rr;go_wp2_with fail
    go_roundw
    case rel =>
     exact⟨k+1,p0,p1,p2,p3,by omega,by go_num,hp,HP,Lib.hid (fun j hj=>by
      by_cases h:j=k
      ·subst h; exact HN1.out
      ·exact HN.out j (by omega)),M5⟩
    case measure=>simp[intOf]; omega
   ·rw[q]at hE hq;have HN1:=Lib.hid (hq.1 rfl);clear q hq;go_wp2_with fail;go_ret;exact⟨k,rfl,by omega,HN.out,fun _=>HN1.out,HM.out.1⟩
  ·obtain rfl:k=T:=by omega
   go_wp2_with fail;go_ret;exact⟨k,rfl,Nat.le_refl _,HN.out,fun h=>absurd h (by omega),HM.out.1⟩
end Go.Proofs.YtpjlhhpjpnacmaaGreatDoor
