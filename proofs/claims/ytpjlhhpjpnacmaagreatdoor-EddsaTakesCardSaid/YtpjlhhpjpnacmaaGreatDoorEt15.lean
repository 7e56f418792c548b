/- Et15 -/
import Derived.Deep.RegionWith
import Derived.Deep.DeepCutAuto
import Derived.LoopTactic
import Derived.Deep.LoopGhost
import Derived.RegionTactic
import Derived.Test.YtpjlhhpjpnacmaaGreatDoorEt14
import Derived.Test.YtpjlhhpjpnacmaaGreatDoorEt05
import Derived.Test.YtpjlhhpjpnacmaaGreatDoorEt13
import Derived.Test.YtpjlhhpjpnacmaaGreatDoorEt04
import Derived.Test.YtpjlhhpjpnacmaaGreatDoorEt09
import Derived.Test.YtpjlhhpjpnacmaaGreatDoorEt11
import Derived.Test.YtpjlhhpjpnacmaaGreatDoorEt08
import Derived.Test.YtpjlhhpjpnacmaaGreatDoorProg
set_option maxRecDepth 100000
set_option linter.unusedVariables false
set_option linter.unusedSimpArgs false
set_option linter.unnecessarySimpa false
noncomputable section
namespace Go.Proofs.YtpjlhhpjpnacmaaGreatDoor.R1
open Go.Proofs.Tryz
open Go.RowKit
theorem readyB_at {ops:Array Oper} {got:Nat→Bool} {i:Nat} {o:Oper} {e:Edge} (h:qD .any ops got i=true) (ho:ops[i]?=some o) (he:e∈o.after) (hb:Region.binds .any e=true):got e.on=true:=by
 unfold qD at h;rw[ho]at h;have:=(Array.all_eq_true_iff_forall_mem.1 h) e he;simpa[hb]using this
def HalfV (A:Nat) (t:Value):Prop:=∃x0 x1 x2 x3 x4 x5 x6 x7:Nat,t=.agg #[.int .u64 x0,.int .u64 x1,.int .u64 x2,.int .u64 x3,.int .u64 x4,.int .u64 x5,.int .u64 x6,.int .u64 x7]∧Hi x0 x1 x2 x3 x4 x5 x6 x7∧Hid (pH x0 x1 x2 x3 x4 x5 x6 x7=A)
def FreshZ (wr u:World) (t:Value):Prop:=∃p,t=.pointer (some ⟨p,0,none⟩)∧wr.heap.size≤p∧p<u.heap.size∧RowIs u p 8 (fun _=>0)
theorem FreshZ.grow {wr u u':World} {t:Value} (h:FreshZ wr u t) (hb:Below u.heap.size u u'):FreshZ wr u' t:=by
 obtain⟨p,e,h1,h2,r⟩:=h;exact⟨p,e,h1,Nat.lt_of_lt_of_le h2 hb.size,r.below hb h2⟩
structure RI (got:Nat→Bool) (wr:World) (a0 a1 a2 a3 b0 b1 b2 b3:Nat) (t6 t7 s0 s1 s2 s3:Value) (u:World):Prop where
 below:Below wr.heap.size wr u
 g0:got 0=true→s0=.agg #[.int .u64 a0,.int .u64 a1,.int .u64 a2,.int .u64 a3]
 g1:got 1=true→HalfV (aC a0 a1 a2 a3) s1
 g2:got 2=true→s2=.agg #[.int .u64 b0,.int .u64 b1,.int .u64 b2,.int .u64 b3]
 g3:got 3=true→HalfV (aC b0 b1 b2 b3) s3
 g4:got 4=true→FreshZ wr u t6
 g5:got 5=true→FreshZ wr u t7
 g45:got 4=true→got 5=true→t6≠t7
section
variable {got:Nat→Bool} {wr u u':World} {a0 a1 a2 a3 b0 b1 b2 b3:Nat} {t6 t7 s0 s1 s2 s3:Value}
theorem RI.start (wr:World) (a0 a1 a2 a3 b0 b1 b2 b3:Nat):RI (fun _=>false) wr a0 a1 a2 a3 b0 b1 b2 b3 undef undef undef undef undef undef wr.drew :=
 ⟨(Below.refl _ _).drew,fun h=>Bool.noConfusion h,fun h=>Bool.noConfusion h,fun h=>Bool.noConfusion h,fun h=>Bool.noConfusion h,fun h=>Bool.noConfusion h,fun h=>Bool.noConfusion h,fun h=>Bool.noConfusion h⟩
theorem RI.op0 (h:RI got wr a0 a1 a2 a3 b0 b1 b2 b3 t6 t7 s0 s1 s2 s3 u):RI (fun j=>j==0||got j) wr a0 a1 a2 a3 b0 b1 b2 b3 t6 t7 (.agg #[.int .u64 a0,.int .u64 a1,.int .u64 a2,.int .u64 a3]) s1 s2 s3 u :=
 ⟨h.below,fun _=>rfl,fun e=>h.g1 (by simpa using e),fun e=>h.g2 (by simpa using e),fun e=>h.g3 (by simpa using e),fun e=>h.g4 (by simpa using e),fun e=>h.g5 (by simpa using e),fun e f=>h.g45 (by simpa using e) (by simpa using f)⟩
theorem RI.op2 (h:RI got wr a0 a1 a2 a3 b0 b1 b2 b3 t6 t7 s0 s1 s2 s3 u):RI (fun j=>j==2||got j) wr a0 a1 a2 a3 b0 b1 b2 b3 t6 t7 s0 s1 (.agg #[.int .u64 b0,.int .u64 b1,.int .u64 b2,.int .u64 b3]) s3 u :=
 ⟨h.below,fun e=>h.g0 (by simpa using e),fun e=>h.g1 (by simpa using e),fun _=>rfl,fun e=>h.g3 (by simpa using e),fun e=>h.g4 (by simpa using e),fun e=>h.g5 (by simpa using e),fun e f=>h.g45 (by simpa using e) (by simpa using f)⟩
theorem RI.op1 (h:RI got wr a0 a1 a2 a3 b0 b1 b2 b3 t6 t7 s0 s1 s2 s3 u) {x:Value} (hx:HalfV (aC a0 a1 a2 a3) x):RI (fun j=>j==1||got j) wr a0 a1 a2 a3 b0 b1 b2 b3 t6 t7 s0 x s2 s3 u :=
 ⟨h.below,fun e=>h.g0 (by simpa using e),fun _=>hx,fun e=>h.g2 (by simpa using e),fun e=>h.g3 (by simpa using e),fun e=>h.g4 (by simpa using e),fun e=>h.g5 (by simpa using e),fun e f=>h.g45 (by simpa using e) (by simpa using f)⟩
theorem RI.op3 (h:RI got wr a0 a1 a2 a3 b0 b1 b2 b3 t6 t7 s0 s1 s2 s3 u) {x:Value} (hx:HalfV (aC b0 b1 b2 b3) x):RI (fun j=>j==3||got j) wr a0 a1 a2 a3 b0 b1 b2 b3 t6 t7 s0 s1 s2 x u :=
 ⟨h.below,fun e=>h.g0 (by simpa using e),fun e=>h.g1 (by simpa using e),fun e=>h.g2 (by simpa using e),fun _=>hx,fun e=>h.g4 (by simpa using e),fun e=>h.g5 (by simpa using e),fun e f=>h.g45 (by simpa using e) (by simpa using f)⟩
theorem RI.grow (h:RI got wr a0 a1 a2 a3 b0 b1 b2 b3 t6 t7 s0 s1 s2 s3 u) (hb:Below u.heap.size u u'):RI got wr a0 a1 a2 a3 b0 b1 b2 b3 t6 t7 s0 s1 s2 s3 u' :=
 ⟨h.below.trans (hb.mono h.below.size),h.g0,h.g1,h.g2,h.g3,fun e=>(h.g4 e).grow hb,fun e=>(h.g5 e).grow hb,h.g45⟩
theorem fresh_new (wr u:World) (hs:wr.heap.size≤u.heap.size) (t:TypeId):FreshZ wr (u.alloc (.cells #[.int .u64 0,.int .u64 0,.int .u64 0,.int .u64 0,.int .u64 0,.int .u64 0,.int .u64 0,.int .u64 0] t)) (.pointer (some ⟨u.heap.size,0,none⟩)) :=
 ⟨_,rfl,hs,by simp,by
  intro k hk;refine⟨?_,World.frozen?_alloc_new _ _ _ _⟩;rw[World.cell?_alloc_new]
  match k,hk with
  | 0,_|1,_|2,_|3,_|4,_|5,_|6,_|7,_=>rfl⟩
theorem below_alloc (u:World) (o:Obj):Below u.heap.size u (u.alloc o):=(Below.refl _ _).alloc (Nat.le_refl _) o
theorem fresh_ne {wr u:World} {t:Value} (h:FreshZ wr u t):t ≠ .pointer (some ⟨u.heap.size,0,none⟩):=by
 obtain⟨p,rfl,_,h2,_⟩:=h;intro e;injection e with e;injection e with e;injection e with e;omega
theorem RI.op4 (h:RI got wr a0 a1 a2 a3 b0 b1 b2 b3 t6 t7 s0 s1 s2 s3 u) (t:TypeId):RI (fun j=>j==4||got j) wr a0 a1 a2 a3 b0 b1 b2 b3 (.pointer (some ⟨u.heap.size,0,none⟩)) t7 s0 s1 s2 s3 (u.alloc (.cells #[.int .u64 0,.int .u64 0,.int .u64 0,.int .u64 0,.int .u64 0,.int .u64 0,.int .u64 0,.int .u64 0] t)) :=
 ⟨h.below.alloc h.below.size _,fun e=>h.g0 (by simpa using e),fun e=>h.g1 (by simpa using e),fun e=>h.g2 (by simpa using e),fun e=>h.g3 (by simpa using e),
  fun _=>fresh_new wr u h.below.size t,fun e=>(h.g5 (by simpa using e)).grow (below_alloc _ _),fun _ f=>(fresh_ne (h.g5 (by simpa using f))).symm⟩
theorem RI.op5 (h:RI got wr a0 a1 a2 a3 b0 b1 b2 b3 t6 t7 s0 s1 s2 s3 u) (t:TypeId):RI (fun j=>j==5||got j) wr a0 a1 a2 a3 b0 b1 b2 b3 t6 (.pointer (some ⟨u.heap.size,0,none⟩)) s0 s1 s2 s3 (u.alloc (.cells #[.int .u64 0,.int .u64 0,.int .u64 0,.int .u64 0,.int .u64 0,.int .u64 0,.int .u64 0,.int .u64 0] t)) :=
 ⟨h.below.alloc h.below.size _,fun e=>h.g0 (by simpa using e),fun e=>h.g1 (by simpa using e),fun e=>h.g2 (by simpa using e),fun e=>h.g3 (by simpa using e),
  fun e=>(h.g4 (by simpa using e)).grow (below_alloc _ _),fun _=>fresh_new wr u h.below.size t,fun e _=>fresh_ne (h.g4 (by simpa using e))⟩
theorem RI.all (h:RI got wr a0 a1 a2 a3 b0 b1 b2 b3 t6 t7 s0 s1 s2 s3 u) (hg:∀j,j<6→got j=true) :
  ∃p q x0 x1 x2 x3 x4 x5 x6 x7 y0 y1 y2 y3 y4 y5 y6 y7:Nat,t6=.pointer (some ⟨p,0,none⟩)∧t7=.pointer (some ⟨q,0,none⟩) ∧
   s1=.agg #[.int .u64 x0,.int .u64 x1,.int .u64 x2,.int .u64 x3,.int .u64 x4,.int .u64 x5,.int .u64 x6,.int .u64 x7]∧s3=.agg #[.int .u64 y0,.int .u64 y1,.int .u64 y2,.int .u64 y3,.int .u64 y4,.int .u64 y5,.int .u64 y6,.int .u64 y7] ∧
   Hi x0 x1 x2 x3 x4 x5 x6 x7∧Hi y0 y1 y2 y3 y4 y5 y6 y7∧Hid (pH x0 x1 x2 x3 x4 x5 x6 x7=aC a0 a1 a2 a3)∧Hid (pH y0 y1 y2 y3 y4 y5 y6 y7=aC b0 b1 b2 b3) ∧
   wr.heap.size≤p∧wr.heap.size≤q∧p<u.heap.size∧q<u.heap.size∧¬p=q∧RowIs u p 8 (fun _=>0)∧RowIs u q 8 (fun _=>0)∧Below wr.heap.size wr u:=by
 obtain⟨x0,x1,x2,x3,x4,x5,x6,x7,e1,hx,ex⟩:=h.g1 (hg 1 (by omega));obtain⟨y0,y1,y2,y3,y4,y5,y6,y7,e2,hy,ey⟩:=h.g3 (hg 3 (by omega));obtain⟨p,e3,lp,up,rp⟩:=h.g4 (hg 4 (by omega));obtain⟨q,e4,lq,uq,rq⟩:=h.g5 (hg 5 (by omega));refine⟨p,q,x0,x1,x2,x3,x4,x5,x6,x7,y0,y1,y2,y3,y4,y5,y6,y7,e3,e4,e1,e2,hx,hy,ex,ey,lp,lq,up,uq,fun e => ?_,rp,rq,h.below⟩;subst e;exact h.g45 (hg 4 (by omega)) (hg 5 (by omega)) (e3.trans e4.symm)
end
structure TwoH (wr u:World) (p q:Nat) (X Y:Nat→Nat) (A B:Nat):Prop where
 below:Below wr.heap.size wr u
 lp:wr.heap.size≤p
 lq:wr.heap.size≤q
 up:p<u.heap.size
 uq:q<u.heap.size
 ne:¬p=q
 rowX:RowIs u p 8 X
 rowY:RowIs u q 8 Y
 ltX:∀k,X k<4294967296
 ltY:∀k,Y k<4294967296
 eX:fE 4294967296 X 8=A
 eY:fE 4294967296 Y 8=B
def set8 (w:World) (b:Nat) (d0 d1 d2 d3 d4 d5 d6 d7:Nat):World :=
 (((((((w.setCell ⟨b,0,none⟩ (.int .u64 d0)).setCell ⟨b,1,none⟩ (.int .u64 d1)).setCell ⟨b,2,none⟩ (.int .u64 d2)).setCell ⟨b,3,none⟩ (.int .u64 d3)).setCell ⟨b,4,none⟩ (.int .u64 d4)).setCell ⟨b,5,none⟩ (.int .u64 d5)).setCell ⟨b,6,none⟩ (.int .u64 d6)).setCell ⟨b,7,none⟩ (.int .u64 d7)
theorem RowIs.ext {w:World} {b n:Nat} {P R:Nat→Nat} (h:RowIs w b n P) (e:∀k,k<n→P k=R k):RowIs w b n R:=fun k hk=>⟨by rw[←e k hk]; exact h.cell hk,h.free hk⟩
theorem RowIs.set8 {w:World} {b:Nat} {P:Nat→Nat} (h:RowIs w b 8 P) (d0 d1 d2 d3 d4 d5 d6 d7:Nat):RowIs (Go.Proofs.YtpjlhhpjpnacmaaGreatDoor.set8 w b d0 d1 d2 d3 d4 d5 d6 d7) b 8 (fH [d0,d1,d2,d3,d4,d5,d6,d7]):=by
 have r:=(((((((h.set (show 0<8 by omega) (v:=d0)).set (show 1<8 by omega) (v:=d1)).set (show 2<8 by omega) (v:=d2)).set (show 3<8 by omega) (v:=d3)).set (show 4<8 by omega) (v:=d4)).set (show 5<8 by omega) (v:=d5)).set (show 6<8 by omega) (v:=d6)).set (show 7<8 by omega) (v:=d7);unfold Go.Proofs.YtpjlhhpjpnacmaaGreatDoor.set8;refine r.ext fun k hk => ?_
 match k,hk with
 | 0,_|1,_|2,_|3,_|4,_|5,_|6,_|7,_=>rfl
theorem RowIs.set8_other {w:World} {b c n:Nat} {P:Nat→Nat} (h:RowIs w b n P) (hc:c≠b) (d0 d1 d2 d3 d4 d5 d6 d7:Nat):RowIs (Go.Proofs.YtpjlhhpjpnacmaaGreatDoor.set8 w c d0 d1 d2 d3 d4 d5 d6 d7) b n P :=
 (((((((h.other hc _).other hc _).other hc _).other hc _).other hc _).other hc _).other hc _).other hc _
theorem below_set8 {B:Nat} {w w':World} {b:Nat} (h:Below B w w') (hb:B≤b) (d0 d1 d2 d3 d4 d5 d6 d7:Nat):Below B w (set8 w' b d0 d1 d2 d3 d4 d5 d6 d7) :=
 (((((((h.setCell (p:=⟨b,0,none⟩) hb _).setCell (p:=⟨b,1,none⟩) hb _).setCell (p:=⟨b,2,none⟩) hb _).setCell (p:=⟨b,3,none⟩) hb _).setCell (p:=⟨b,4,none⟩) hb _).setCell (p:=⟨b,5,none⟩) hb _).setCell (p:=⟨b,6,none⟩) hb _).setCell (p:=⟨b,7,none⟩) hb _
theorem size_set8 (w:World) (b d0 d1 d2 d3 d4 d5 d6 d7:Nat):(set8 w b d0 d1 d2 d3 d4 d5 d6 d7).heap.size=w.heap.size:=by
 unfold set8; simp only[World.size_setCell]
theorem fnOf8_lt {x0 x1 x2 x3 x4 x5 x6 x7:Nat} (h:Hi x0 x1 x2 x3 x4 x5 x6 x7) (k:Nat):fH [x0,x1,x2,x3,x4,x5,x6,x7] k<4294967296:=by
 obtain⟨h0,h1,h2,h3,h4,h5,h6,h7⟩:=h;unfold fH
 match k with
 | 0=>exact h0
 | 1=>exact h1
 | 2=>exact h2
 | 3=>exact h3
 | 4=>exact h4
 | 5=>exact h5
 | 6=>exact h6
 | 7=>exact h7
 | k+8=>simp
theorem val8_tot (P:Nat→Nat):pH (P 0) (P 1) (P 2) (P 3) (P 4) (P 5) (P 6) (P 7)=fE 4294967296 P 8:=by
 unfold pH;simp only[fE];omega
theorem TwoH.store {wr u:World} {p q A B x0 x1 x2 x3 x4 x5 x6 x7 y0 y1 y2 y3 y4 y5 y6 y7:Nat} (hx:Hi x0 x1 x2 x3 x4 x5 x6 x7) (hy:Hi y0 y1 y2 y3 y4 y5 y6 y7) (ex:Hid (pH x0 x1 x2 x3 x4 x5 x6 x7=A)) (ey:Hid (pH y0 y1 y2 y3 y4 y5 y6 y7=B))
  (lp:wr.heap.size≤p) (lq:wr.heap.size≤q) (up:p<u.heap.size) (uq:q<u.heap.size) (hpq:¬p=q) (rp:RowIs u p 8 (fun _=>0)) (rq:RowIs u q 8 (fun _=>0)) (hbl:Below wr.heap.size wr u) :
  TwoH wr (set8 (set8 u p x0 x1 x2 x3 x4 x5 x6 x7) q y0 y1 y2 y3 y4 y5 y6 y7) p q (fH [x0,x1,x2,x3,x4,x5,x6,x7]) (fH [y0,y1,y2,y3,y4,y5,y6,y7]) A B :=
 ⟨below_set8 (below_set8 hbl lp _ _ _ _ _ _ _ _) lq _ _ _ _ _ _ _ _,lp,lq,by rw[size_set8,size_set8]; exact up,by rw[size_set8,size_set8]; exact uq,hpq,
  (rp.set8 _ _ _ _ _ _ _ _).set8_other (fun e=>hpq e.symm) _ _ _ _ _ _ _ _,(rq.set8_other hpq _ _ _ _ _ _ _ _).set8 _ _ _ _ _ _ _ _,fnOf8_lt hx,fnOf8_lt hy,
  (val8_tot (fH [x0,x1,x2,x3,x4,x5,x6,x7])).symm.trans ex.out,(val8_tot (fH [y0,y1,y2,y3,y4,y5,y6,y7])).symm.trans ey.out⟩
def halvesOps12 (pos:String):List Oper:=[
  { dst:=some 12,op:=Op.load 24 (Operand.tmp 2),type:=24,pos:=pos,after:=#[],guard:=none },
  { dst:=some 13,op:=Op.call { callee:=Callee.value (Operand.func 184),args:=#[Operand.tmp 12],argTypes:=#[24] },type:=112,pos:=pos,after:=#[{ on:=0,ground:=Ground.data }],guard:=none },
  { dst:=some 14,op:=Op.load 24 (Operand.tmp 3),type:=24,pos:=pos,after:=#[],guard:=none },
  { dst:=some 15,op:=Op.call { callee:=Callee.value (Operand.func 184),args:=#[Operand.tmp 14],argTypes:=#[24] },type:=112,pos:=pos,after:=#[{ on:=2,ground:=Ground.data },{ on:=1,ground:=Ground.chain }],guard:=none },
  { dst:=some 6,op:=Op.alloc 112,type:=0,pos:=pos,after:=#[],guard:=none },
  { dst:=some 7,op:=Op.alloc 112,type:=0,pos:=pos,after:=#[],guard:=none },
  { dst:=none,op:=Op.store 112 (Operand.tmp 6) (Operand.tmp 13),type:=0,pos:=pos,after:=#[{ on:=4,ground:=Ground.data },{ on:=1,ground:=Ground.data },{ on:=3,ground:=Ground.chain },{ on:=0,ground:=Ground.phase },{ on:=1,ground:=Ground.phase },{ on:=2,ground:=Ground.textOnly Departure.lateStores },{ on:=3,ground:=Ground.textOnly Departure.lateStoresUnsure },{ on:=4,ground:=Ground.phase },{ on:=5,ground:=Ground.phase }],guard:=none },
  { dst:=none,op:=Op.store 112 (Operand.tmp 7) (Operand.tmp 15),type:=0,pos:=pos,after:=#[{ on:=5,ground:=Ground.data },{ on:=3,ground:=Ground.data },{ on:=6,ground:=Ground.chain },{ on:=0,ground:=Ground.phase },{ on:=1,ground:=Ground.phase },{ on:=2,ground:=Ground.phase },{ on:=3,ground:=Ground.phase },{ on:=4,ground:=Ground.phase },{ on:=5,ground:=Ground.phase },{ on:=6,ground:=Ground.phase }],guard:=none }]
set_option maxHeartbeats 400000 in
theorem two_halves12 {id:Nat} {pos:String} {Q:Exit→Act→World→Prop} (a0 a1 a2 a3 b0 b1 b2 b3:Nat) (ha:cF a0 a1 a2 a3) (hb:cF b0 b1 b2 b3) (gA gB:Nat) (wr:World) (v0 v1 v4 v5 v8 v9 v10 v11:Value) (rest:List Value) (ds:List Deferred)
  (rA:Row4 wr gA a0 a1 a2 a3) (rB:Row4 wr gB b0 b1 b2 b3) (lA:gA<wr.heap.size) (lB:gB<wr.heap.size)
  (next:∀(p q:Nat) (X Y:Nat→Nat) (s0 s1 s2 s3:Value) (u:World),TwoH wr u p q X Y (aC a0 a1 a2 a3) (aC b0 b1 b2 b3)→Q .normal { tmps:=(v0::v1 :: .pointer (some ⟨gA,0,none⟩) :: .pointer (some ⟨gB,0,none⟩)::v4::v5 :: .pointer (some ⟨p,0,none⟩) :: .pointer (some ⟨q,0,none⟩)::v8::v9::v10::v11::s0::s1::s2::s3::rest).toArray,defers:=ds } u) :
  (Code.region id (halvesOps12 pos).toArray true).wp prog Q { tmps:=(v0::v1 :: .pointer (some ⟨gA,0,none⟩) :: .pointer (some ⟨gB,0,none⟩)::v4::v5::undef::undef::v8::v9::v10::v11::undef::undef::undef::undef::rest).toArray,defers:=ds } wr:=by
 unfold halvesOps12;refine uM 6 (fun got b u=>∃t6 t7 s0 s1 s2 s3:Value,b={ tmps:=(v0::v1 :: .pointer (some ⟨gA,0,none⟩) :: .pointer (some ⟨gB,0,none⟩)::v4::v5::t6::t7::v8::v9::v10::v11::s0::s1::s2::s3::rest).toArray,defers:=ds }∧RI got wr a0 a1 a2 a3 b0 b1 b2 b3 t6 t7 s0 s1 s2 s3 u) (by kernel_rfl) (by simp) (by kernel_rfl) (by kernel_rfl) (by kernel_rfl) (by kernel_rfl) ?_ ?_ ?_
 ·exact⟨undef,undef,undef,undef,undef,undef,rfl,RI.start wr a0 a1 a2 a3 b0 b1 b2 b3⟩
 ·rintro got b u i hi h0 hr ⟨t6,t7,s0,s1,s2,s3,rfl,H⟩
  match i,hi with
  | 0,_ =>
   obtain⟨k0,k1,k2,k3,kf⟩:=rA.below H.below lA;have HH:=Lib.hid H;clear H hr;refine wpOp_step rfl fun K hK => ?_
   go_simp;exact hK _ _ ⟨_,_,_,_,_,_,rfl,HH.out.op0⟩
  | 1,_ =>
   have e:got 0=true:=readyB_at (e:={ on:=0,ground:=Ground.data }) hr rfl (by simp) rfl;obtain rfl:=H.g0 e;have HH:=Lib.hid H;clear H hr;refine wpOp_step rfl fun K hK => ?_
   go_simp;refine (iX a0 a1 a2 a3 ha _).mono ?_
   rintro e u' ⟨x0,x1,x2,x3,x4,x5,x6,x7,rfl,hx,ex,hbl⟩
   exact hK _ _ ⟨_,_,_,_,_,_,rfl,(HH.out.grow hbl).op1 ⟨x0,x1,x2,x3,x4,x5,x6,x7,rfl,hx,ex⟩⟩
  | 2,_ =>
   obtain⟨k0,k1,k2,k3,kf⟩:=rB.below H.below lB;have HH:=Lib.hid H;clear H hr;refine wpOp_step rfl fun K hK => ?_
   go_simp;exact hK _ _ ⟨_,_,_,_,_,_,rfl,HH.out.op2⟩
  | 3,_ =>
   have e:got 2=true:=readyB_at (e:={ on:=2,ground:=Ground.data }) hr rfl (by simp) rfl;obtain rfl:=H.g2 e;have HH:=Lib.hid H;clear H hr;refine wpOp_step rfl fun K hK => ?_
   go_simp;refine (iX b0 b1 b2 b3 hb _).mono ?_
   rintro e u' ⟨x0,x1,x2,x3,x4,x5,x6,x7,rfl,hx,ex,hbl⟩
   exact hK _ _ ⟨_,_,_,_,_,_,rfl,(HH.out.grow hbl).op3 ⟨x0,x1,x2,x3,x4,x5,x6,x7,rfl,hx,ex⟩⟩
  | 4,_ =>
   have HH:=Lib.hid H;clear H hr;refine wpOp_step rfl fun K hK => ?_
   go_simp;exact hK _ _ ⟨_,_,_,_,_,_,rfl,HH.out.op4 _⟩
  | 5,_ =>
   have HH:=Lib.hid H;clear H hr;refine wpOp_step rfl fun K hK => ?_
   go_simp;exact hK _ _ ⟨_,_,_,_,_,_,rfl,HH.out.op5 _⟩
 ·rintro got b u hall ⟨t6,t7,s0,s1,s2,s3,rfl,H⟩
  obtain⟨p,q,x0,x1,x2,x3,x4,x5,x6,x7,y0,y1,y2,y3,y4,y5,y6,y7,rfl,rfl,rfl,rfl,hx,hy,ex,ey,lp,lq,up,uq,hpq,rp,rq,hbl⟩:=H.all hall;have cp0:=rp.cell (show 0<8 by omega); have fp0:=rp.free (show 0<8 by omega);have cp1:=rp.cell (show 1<8 by omega); have fp1:=rp.free (show 1<8 by omega);have cp2:=rp.cell (show 2<8 by omega); have fp2:=rp.free (show 2<8 by omega);have cp3:=rp.cell (show 3<8 by omega); have fp3:=rp.free (show 3<8 by omega);have cp4:=rp.cell (show 4<8 by omega); have fp4:=rp.free (show 4<8 by omega);have cp5:=rp.cell (show 5<8 by omega); have fp5:=rp.free (show 5<8 by omega);have cp6:=rp.cell (show 6<8 by omega); have fp6:=rp.free (show 6<8 by omega);have cp7:=rp.cell (show 7<8 by omega); have fp7:=rp.free (show 7<8 by omega);have cq0:=rq.cell (show 0<8 by omega); have fq0:=rq.free (show 0<8 by omega);have cq1:=rq.cell (show 1<8 by omega); have fq1:=rq.free (show 1<8 by omega);have cq2:=rq.cell (show 2<8 by omega); have fq2:=rq.free (show 2<8 by omega);have cq3:=rq.cell (show 3<8 by omega); have fq3:=rq.free (show 3<8 by omega);have cq4:=rq.cell (show 4<8 by omega); have fq4:=rq.free (show 4<8 by omega);have cq5:=rq.cell (show 5<8 by omega); have fq5:=rq.free (show 5<8 by omega);have cq6:=rq.cell (show 6<8 by omega); have fq6:=rq.free (show 6<8 by omega);have cq7:=rq.cell (show 7<8 by omega); have fq7:=rq.free (show 7<8 by omega);have HF:=Lib.hid (TwoH.store hx hy ex ey lp lq up uq hpq rp rq hbl);have hqp:¬q=p:=fun e=>hpq e.symm
  clear H hx hy ex ey lp lq up uq rp rq hbl hall rA rB;refine wpList_step fun K hK => ?_
  go_simp;refine hK _ _ ?_;refine wpList_step fun K2 hK2 => ?_
  go_simp;refine hK2 _ _ ?_;refine wpList_nil ?_;exact next _ _ _ _ _ _ _ _ _ HF.out
def halvesOps13 (pos:String):List Oper:=[
  { dst:=some 13,op:=Op.load 24 (Operand.tmp 2),type:=24,pos:=pos,after:=#[],guard:=none },
  { dst:=some 14,op:=Op.call { callee:=Callee.value (Operand.func 184),args:=#[Operand.tmp 13],argTypes:=#[24] },type:=112,pos:=pos,after:=#[{ on:=0,ground:=Ground.data }],guard:=none },
  { dst:=some 15,op:=Op.load 24 (Operand.tmp 3),type:=24,pos:=pos,after:=#[],guard:=none },
  { dst:=some 16,op:=Op.call { callee:=Callee.value (Operand.func 184),args:=#[Operand.tmp 15],argTypes:=#[24] },type:=112,pos:=pos,after:=#[{ on:=2,ground:=Ground.data },{ on:=1,ground:=Ground.chain }],guard:=none },
  { dst:=some 6,op:=Op.alloc 112,type:=0,pos:=pos,after:=#[],guard:=none },
  { dst:=some 7,op:=Op.alloc 112,type:=0,pos:=pos,after:=#[],guard:=none },
  { dst:=none,op:=Op.store 112 (Operand.tmp 6) (Operand.tmp 14),type:=0,pos:=pos,after:=#[{ on:=4,ground:=Ground.data },{ on:=1,ground:=Ground.data },{ on:=3,ground:=Ground.chain },{ on:=0,ground:=Ground.phase },{ on:=1,ground:=Ground.phase },{ on:=2,ground:=Ground.textOnly Departure.lateStores },{ on:=3,ground:=Ground.textOnly Departure.lateStoresUnsure },{ on:=4,ground:=Ground.phase },{ on:=5,ground:=Ground.phase }],guard:=none },
  { dst:=none,op:=Op.store 112 (Operand.tmp 7) (Operand.tmp 16),type:=0,pos:=pos,after:=#[{ on:=5,ground:=Ground.data },{ on:=3,ground:=Ground.data },{ on:=6,ground:=Ground.chain },{ on:=0,ground:=Ground.phase },{ on:=1,ground:=Ground.phase },{ on:=2,ground:=Ground.phase },{ on:=3,ground:=Ground.phase },{ on:=4,ground:=Ground.phase },{ on:=5,ground:=Ground.phase },{ on:=6,ground:=Ground.phase }],guard:=none }]
set_option maxHeartbeats 400000 in
theorem two_halves13 {id:Nat} {pos:String} {Q:Exit→Act→World→Prop} (a0 a1 a2 a3 b0 b1 b2 b3:Nat) (ha:cF a0 a1 a2 a3) (hb:cF b0 b1 b2 b3) (gA gB:Nat) (wr:World) (v0 v1 v4 v5 v8 v9 v10 v11 v12:Value) (rest:List Value) (ds:List Deferred)
  (rA:Row4 wr gA a0 a1 a2 a3) (rB:Row4 wr gB b0 b1 b2 b3) (lA:gA<wr.heap.size) (lB:gB<wr.heap.size)
  (next:∀(p q:Nat) (X Y:Nat→Nat) (s0 s1 s2 s3:Value) (u:World),TwoH wr u p q X Y (aC a0 a1 a2 a3) (aC b0 b1 b2 b3)→Q .normal { tmps:=(v0::v1 :: .pointer (some ⟨gA,0,none⟩) :: .pointer (some ⟨gB,0,none⟩)::v4::v5 :: .pointer (some ⟨p,0,none⟩) :: .pointer (some ⟨q,0,none⟩)::v8::v9::v10::v11::v12::s0::s1::s2::s3::rest).toArray,defers:=ds } u) :
  (Code.region id (halvesOps13 pos).toArray true).wp prog Q { tmps:=(v0::v1 :: .pointer (some ⟨gA,0,none⟩) :: .pointer (some ⟨gB,0,none⟩)::v4::v5::undef::undef::v8::v9::v10::v11::v12::undef::undef::undef::undef::rest).toArray,defers:=ds } wr:=by
 unfold halvesOps13;refine uM 6 (fun got b u=>∃t6 t7 s0 s1 s2 s3:Value,b={ tmps:=(v0::v1 :: .pointer (some ⟨gA,0,none⟩) :: .pointer (some ⟨gB,0,none⟩)::v4::v5::t6::t7::v8::v9::v10::v11::v12::s0::s1::s2::s3::rest).toArray,defers:=ds }∧RI got wr a0 a1 a2 a3 b0 b1 b2 b3 t6 t7 s0 s1 s2 s3 u) (by kernel_rfl) (by simp) (by kernel_rfl) (by kernel_rfl) (by kernel_rfl) (by kernel_rfl) ?_ ?_ ?_
 ·exact⟨undef,undef,undef,undef,undef,undef,rfl,RI.start wr a0 a1 a2 a3 b0 b1 b2 b3⟩
 ·rintro got b u i hi h0 hr ⟨t6,t7,s0,s1,s2,s3,rfl,H⟩
  match i,hi with
  | 0,_ =>
   obtain⟨k0,k1,k2,k3,kf⟩:=rA.below H.below lA;have HH:=Lib.hid H;clear H hr;refine wpOp_step rfl fun K hK => ?_
   go_simp;exact hK _ _ ⟨_,_,_,_,_,_,rfl,HH.out.op0⟩
  | 1,_ =>
   have e:got 0=true:=readyB_at (e:={ on:=0,ground:=Ground.data }) hr rfl (by simp) rfl;obtain rfl:=H.g0 e;have HH:=Lib.hid H;clear H hr;refine wpOp_step rfl fun K hK => ?_
   go_simp;refine (iX a0 a1 a2 a3 ha _).mono ?_
   rintro e u' ⟨x0,x1,x2,x3,x4,x5,x6,x7,rfl,hx,ex,hbl⟩
   exact hK _ _ ⟨_,_,_,_,_,_,rfl,(HH.out.grow hbl).op1 ⟨x0,x1,x2,x3,x4,x5,x6,x7,rfl,hx,ex⟩⟩
  | 2,_ =>
   obtain⟨k0,k1,k2,k3,kf⟩:=rB.below H.below lB;have HH:=Lib.hid H;clear H hr;refine wpOp_step rfl fun K hK => ?_
   go_simp;exact hK _ _ ⟨_,_,_,_,_,_,rfl,HH.out.op2⟩
  | 3,_ =>
   have e:got 2=true:=readyB_at (e:={ on:=2,ground:=Ground.data }) hr rfl (by simp) rfl;obtain rfl:=H.g2 e;have HH:=Lib.hid H;clear H hr;refine wpOp_step rfl fun K hK => ?_
   go_simp;refine (iX b0 b1 b2 b3 hb _).mono ?_
   rintro e u' ⟨x0,x1,x2,x3,x4,x5,x6,x7,rfl,hx,ex,hbl⟩
   exact hK _ _ ⟨_,_,_,_,_,_,rfl,(HH.out.grow hbl).op3 ⟨x0,x1,x2,x3,x4,x5,x6,x7,rfl,hx,ex⟩⟩
  | 4,_ =>
   have HH:=Lib.hid H;clear H hr;refine wpOp_step rfl fun K hK => ?_
   go_simp;exact hK _ _ ⟨_,_,_,_,_,_,rfl,HH.out.op4 _⟩
  | 5,_ =>
   have HH:=Lib.hid H;clear H hr;refine wpOp_step rfl fun K hK => ?_
   go_simp;exact hK _ _ ⟨_,_,_,_,_,_,rfl,HH.out.op5 _⟩
 ·rintro got b u hall ⟨t6,t7,s0,s1,s2,s3,rfl,H⟩
  obtain⟨p,q,x0,x1,x2,x3,x4,x5,x6,x7,y0,y1,y2,y3,y4,y5,y6,y7,rfl,rfl,rfl,rfl,hx,hy,ex,ey,lp,lq,up,uq,hpq,rp,rq,hbl⟩:=H.all hall;have cp0:=rp.cell (show 0<8 by omega); have fp0:=rp.free (show 0<8 by omega);have cp1:=rp.cell (show 1<8 by omega); have fp1:=rp.free (show 1<8 by omega);have cp2:=rp.cell (show 2<8 by omega); have fp2:=rp.free (show 2<8 by omega);have cp3:=rp.cell (show 3<8 by omega); have fp3:=rp.free (show 3<8 by omega);have cp4:=rp.cell (show 4<8 by omega); have fp4:=rp.free (show 4<8 by omega);have cp5:=rp.cell (show 5<8 by omega); have fp5:=rp.free (show 5<8 by omega);have cp6:=rp.cell (show 6<8 by omega); have fp6:=rp.free (show 6<8 by omega);have cp7:=rp.cell (show 7<8 by omega); have fp7:=rp.free (show 7<8 by omega);have cq0:=rq.cell (show 0<8 by omega); have fq0:=rq.free (show 0<8 by omega);have cq1:=rq.cell (show 1<8 by omega); have fq1:=rq.free (show 1<8 by omega);have cq2:=rq.cell (show 2<8 by omega); have fq2:=rq.free (show 2<8 by omega);have cq3:=rq.cell (show 3<8 by omega); have fq3:=rq.free (show 3<8 by omega);have cq4:=rq.cell (show 4<8 by omega); have fq4:=rq.free (show 4<8 by omega);have cq5:=rq.cell (show 5<8 by omega); have fq5:=rq.free (show 5<8 by omega);have cq6:=rq.cell (show 6<8 by omega); have fq6:=rq.free (show 6<8 by omega);have cq7:=rq.cell (show 7<8 by omega); have fq7:=rq.free (show 7<8 by omega);have HF:=Lib.hid (TwoH.store hx hy ex ey lp lq up uq hpq rp rq hbl);have hqp:¬q=p:=fun e=>hpq e.symm
  clear H hx hy ex ey lp lq up uq rp rq hbl hall rA rB;refine wpList_step fun K hK => ?_
  go_simp;refine hK _ _ ?_;refine wpList_step fun K2 hK2 => ?_
  go_simp;refine hK2 _ _ ?_;refine wpList_nil ?_;exact next _ _ _ _ _ _ _ _ _ HF.out
theorem tot_put (B:Nat) (P:Nat→Nat) (k v:Nat):fE B (jW P k v) (k+1)=fE B P k+v*B^k:=by
 rw[dI,pY B P k v k (Nat.le_refl _)];unfold jW;rw[if_pos rfl]
theorem carry_step {B k s c c' X Y T:Nat} (e:s+B*c'=X+Y+c):s*B^k+c'*B^(k+1)=X*B^k+Y*B^k+c*B^k:=by
 rw[Nat.pow_succ,←Nat.add_mul,←Nat.add_mul,←e,Nat.add_mul];congr 1;rw[Nat.mul_comm (B^k) B,←Nat.mul_assoc,Nat.mul_comm c' B]
theorem add_tot {B k s c c':Nat} {P X Y:Nat→Nat} (h:fE B P k+c*B^k=fE B X k+fE B Y k) (e:s+B*c'=X k+Y k+c) :
  fE B (jW P k s) (k+1)+c'*B^(k+1)=fE B X (k+1)+fE B Y (k+1):=by
 rw[tot_put,dI,dI];have:=carry_step (T:=0) (k:=k) e;omega
theorem ex_and {t:Nat} (h:t<18446744073709551616):∃s c:Nat,bits .and .u64 (t:Int) 4294967295=(s:Int)∧(t:Int)/4294967296=(c:Int)∧s<4294967296∧Hid (c=t/4294967296)∧Hid (s+4294967296*c=t):=by
 obtain⟨l,h',e1,e2,h1,h2,e⟩:=sS h;exact⟨l,h',e1,e2,h1,Lib.hid (by have:=e.out; omega),e⟩
theorem ex_ra {x y c:Nat} (hx:x<4294967296) (hy:y<4294967296) (hc:c≤1):∃e t s c':Nat,(x:Int)+(y:Int)=(e:Int)∧(e:Int)+(c:Int)=(t:Int)∧bits .and .u64 (t:Int) 4294967295=(s:Int)∧(t:Int)/4294967296=(c':Int) ∧
  e<18446744073709551616∧t<18446744073709551616∧s<4294967296∧c'≤1∧Hid (s+4294967296*c'=x+y+c):=by
 obtain⟨s,c',e1,e2,hs,h1,h2⟩:=ex_and (t:=x+y+c) (by omega);have:=h1.out;exact⟨x+y,x+y+c,s,c',by omega,by omega,e1,e2,by omega,by omega,hs,by omega,Lib.hid (by have:=h2.out; omega)⟩
theorem ex_rm {x y p o:Nat} (hx:x<4294967296) (hy:y<4294967296) (hp:p<4294967296) (ho:o<4294967296):∃m e t s c':Nat,(x:Int)*(y:Int)=(m:Int)∧(p:Int)+(m:Int)=(e:Int)∧(e:Int)+(o:Int)=(t:Int)∧bits .and .u64 (t:Int) 4294967295=(s:Int)∧(t:Int)/4294967296=(c':Int) ∧
  m<18446744073709551616∧e<18446744073709551616∧t<18446744073709551616∧s<4294967296∧c'<4294967296∧Hid (s+4294967296*c'=x*y+p+o):=by
 have hm:=nW (show x≤4294967295 by omega) (show y≤4294967295 by omega);obtain⟨s,c',e1,e2,hs,h1,h2⟩:=ex_and (t:=p+x*y+o) (by omega);have:=h1.out;exact⟨x*y,p+x*y,p+x*y+o,s,c',(Int.natCast_mul x y).symm,by omega,by omega,e1,e2,by omega,by omega,by omega,hs,by omega,Lib.hid (by have:=h2.out; omega)⟩
structure RW (w wr:World) (p q o r n:Nat) (X Y P:Nat→Nat):Prop where
 below:Below w.heap.size w wr
 lo:w.heap.size≤o
 uo:o<wr.heap.size
 op:¬o=p
 oq:¬o=q
 or:¬o=r
 rowX:RowIs wr p 8 X
 rowY:RowIs wr q 8 Y
 rowH:∃H,RowIs wr r 4 H
 ur:r<wr.heap.size
 rowP:RowIs wr o n P
 lt:∀k,P k<4294967296
theorem RW.set {w wr:World} {p q o r n:Nat} {X Y P:Nat→Nat} (h:RW w wr p q o r n X Y P) {k d:Nat} (hk:k<n) (hd:d<4294967296) :
  RW w (wr.setCell ⟨o,k,none⟩ (.int .u64 (d:Nat))) p q o r n X Y (jW P k d) :=
 ⟨h.below.setCell (p:=⟨o,k,none⟩) h.lo _,h.lo,by rw[World.size_setCell]; exact h.uo,h.op,h.oq,h.or,h.rowX.other h.op _,h.rowY.other h.oq _,
  h.rowH.elim fun H x=>⟨H,x.other h.or _⟩,by rw[World.size_setCell]; exact h.ur,h.rowP.set hk,fun x=>by unfold jW; split; exact hd; exact h.lt x⟩
theorem RW.drewN {w wr:World} {p q o r n:Nat} {X Y P:Nat→Nat} (h:RW w wr p q o r n X Y P) (m:Nat):RW w (wr.drewN m) p q o r n X Y P :=
 ⟨h.below.trans (bW _ _ _),h.lo,h.uo,h.op,h.oq,h.or,h.rowX,h.rowY,h.rowH,h.ur,h.rowP,h.lt⟩
set_option maxHeartbeats 4000000 in
theorem refAdd_calls (a0 a1 a2 a3 b0 b1 b2 b3:Nat) (ha:cF a0 a1 a2 a3) (hb:cF b0 b1 b2 b3) (w:World) :
  Calls prog 142 #[.agg #[.int .u64 a0,.int .u64 a1,.int .u64 a2,.int .u64 a3],.agg #[.int .u64 b0,.int .u64 b1,.int .u64 b2,.int .u64 b3]] w (SU (aC a0 a1 a2 a3) (aC b0 b1 b2 b3) w):=by
 go_enter func142,ntmps142
 go_wp2_with fail;refine two_halves12 (pos:="ref.go:37") a0 a1 a2 a3 b0 b1 b2 b3 ha hb w.heap.size (w.heap.size+1) _ _ _ _ _ _ _ _ _ _ _ ?_ ?_ (by first|(simp; done)|(simp; omega)) (by first|(simp; done)|(simp; omega)) (fun p q X Y s0 s1 s2 s3 u T => ?_)
 ·exact⟨by simp[go_sem],by simp[go_sem],by simp[go_sem],by simp[go_sem],fun k=>by simp[go_sem]⟩
 ·exact⟨by simp[go_sem],by simp[go_sem],by simp[go_sem],by simp[go_sem],fun k=>by simp[go_sem]⟩
 have r0:∃H,RowIs u (w.heap.size+1+1) 4 H:=⟨fH [0,0,0,0],RowIs.below (RowIs.mk4 (by simp[go_sem]) (by simp[go_sem]) (by simp[go_sem]) (by simp[go_sem]) (fun k=>by simp[go_sem])) T.below (by simp)⟩
 have h0:Below w.heap.size w u:=by
  refine Below.trans ?_ (T.below.mono (by simp; omega))
  repeat (first|exact Below.refl _ _|refine Below.alloc ?_ (by first|(simp; done)|(simp; omega)) _)
 have lp:=T.lp; have lq:=T.lq; have hs:=T.below.size;simp at lp lq hs;have up:=T.up; have uq:=T.uq; have hpq:=T.ne; have rX:=T.rowX; have rY:=T.rowY;have HlX:=Lib.hid T.ltX; have HlY:=Lib.hid T.ltY; have HeX:=Lib.hid T.eX; have HeY:=Lib.hid T.eY;have Hr0:=Lib.hid r0; have Hh0:=Lib.hid h0; have HX:=Lib.hid rX; have HY:=Lib.hid rY;clear T r0 h0 rX rY;go_wp2_with fail
 go_loopw [9,10] (fun cc i wr=>∃(k c:Nat) (P:Nat→Nat),k≤8∧c≤1∧cc=.int .u64 c∧i=.int .i64 k∧RW w wr p q u.heap.size (w.heap.size+1+1) 8 X Y P∧Hid (fE 4294967296 P k+c*4294967296^k=fE 4294967296 X k+fE 4294967296 Y k)) (fun _ i _=>8-(intOf i).toNat)
 case atStart =>
  refine⟨0,0,fun _=>0,by omega,by omega,rfl,rfl,⟨Hh0.out.alloc (by omega) _,by omega,by simp,by omega,by omega,by omega,HX.out.alloc up _,HY.out.alloc uq _,Hr0.out.elim fun H x=>⟨H,x.alloc (by omega) _⟩,by simp; omega,?_,fun _=>by omega⟩,Lib.hid rfl⟩;refine RowIs.mk8z (fun k hk => ?_) (fun k=>by simp[go_sem])
  match k,hk with
  | 0,_|1,_|2,_|3,_|4,_|5,_|6,_|7,_=>simp[go_sem]
 case round =>
  obtain⟨i,c,P,hi,hc,rfl,rfl,m,mo⟩:=hrel
  by_cases hlt:i<8
  ·have cx:=m.rowX.cell hlt;have cy:=m.rowY.cell hlt;have cp:=m.rowP.cell hlt;have fp:=m.rowP.free hlt;have bx:=HlX.out i;have by':=HlY.out i
   obtain⟨e1,t1,s1',c1,q1,q2,q3,q4,l1,l2,l3,l4,e⟩:=ex_ra bx by' hc
   have M:=Lib.hid m;clear m bx by'
   go_wp2_with fail
   go_quiet (fail)
   go_wp2_with fail
   go_roundw
   case rel=>exact⟨i+1,c1,jW P i s1',by omega,by omega,rfl,by go_num,(M.out.drewN _).set hlt l3,Lib.hid (add_tot mo.out e.out)⟩
   case measure=>simp[intOf]; omega
  ·obtain rfl:i=8:=by omega
   have M:=Lib.hid m;have c0:=m.rowP.cell (show 0<8 by omega);clear m;go_wp2_with fail;have m:=M.out;refine (qM (P 0) (P 1) (P 2) (P 3) (P 4) (P 5) (P 6) (P 7) ⟨m.lt 0,m.lt 1,m.lt 2,m.lt 3,m.lt 4,m.lt 5,m.lt 6,m.lt 7⟩ u.heap.size 0 8 _ (m.rowP.cell (by omega)) (m.rowP.cell (by omega)) (m.rowP.cell (by omega)) (m.rowP.cell (by omega)) (m.rowP.cell (by omega)) (m.rowP.cell (by omega)) (m.rowP.cell (by omega)) (m.rowP.cell (by omega)) m.uo).mono ?_
   rintro e w' ⟨j0,j1,j2,j3,rfl,hj,ej,hbl⟩
   obtain⟨H,rH⟩:=m.rowH;have rH:=rH.below hbl m.ur;have p0:=rH.cell (show 0<4 by omega); have q0:=rH.free (show 0<4 by omega);have p1:=rH.cell (show 1<4 by omega); have q1:=rH.free (show 1<4 by omega);have p2:=rH.cell (show 2<4 by omega); have q2:=rH.free (show 2<4 by omega);have p3:=rH.cell (show 3<4 by omega); have q3:=rH.free (show 3<4 by omega);have HB:=Lib.hid (m.below.trans (hbl.mono m.below.size));have Hej:=Lib.hid ej;clear rH hbl m ej;go_wp2_with fail;refine bodyPost_ret (v:=.tuple #[.agg #[.int .u64 j0,.int .u64 j1,.int .u64 j2,.int .u64 j3],.int .u64 c]) (by simp[results,results142,go_sem, *]) rfl ?_;refine⟨j0,j1,j2,j3,c,rfl,hj,hc,?_,?_⟩
   ·have h1:=Hej.out.trans (val8_tot P);have h2:=mo.out;have e8:4294967296^8=115792089237316195423570985008687907853269984665640564039457584007913129639936:=by simp
    rw[HeX.out,HeY.out,←h1,e8]at h2;omega
   ·iterate 4 refine Below.setCell ?_ (by simp; omega) _
    exact HB.out
structure RM (w wr:World) (p q o r n:Nat) (X Y P:Nat→Nat):Prop where
 rw:RW w wr p q o r n X Y P
 rowL:∃L,RowIs wr (r+1) 4 L
 ul:r+1<wr.heap.size
 ol:¬o=r+1
theorem RM.set {w wr:World} {p q o r n:Nat} {X Y P:Nat→Nat} (h:RM w wr p q o r n X Y P) {k d:Nat} (hk:k<n) (hd:d<4294967296) :
  RM w (wr.setCell ⟨o,k,none⟩ (.int .u64 (d:Nat))) p q o r n X Y (jW P k d) :=
 ⟨h.rw.set hk hd,h.rowL.elim fun H x=>⟨H,x.other h.ol _⟩,by rw[World.size_setCell]; exact h.ul,h.ol⟩
theorem RM.drewN {w wr:World} {p q o r n:Nat} {X Y P:Nat→Nat} (h:RM w wr p q o r n X Y P) (m:Nat):RM w (wr.drewN m) p q o r n X Y P :=
 ⟨h.rw.drewN m,h.rowL,h.ul,h.ol⟩
theorem RowIs.mk16z {w:World} {b:Nat} (h:∀k,k<16→w.cell? ⟨b,k,none⟩=some (.int .u64 0)) (hf:∀k,w.frozen? ⟨b,k,none⟩=false):RowIs w b 16 (fun _=>0) :=
 fun k hk=>⟨h k hk,hf k⟩
theorem sixteen {k:Nat} (h:k<16):k=0∨k=1∨k=2∨k=3∨k=4∨k=5∨k=6∨k=7∨k=8∨k=9∨k=10∨k=11∨k=12∨k=13∨k=14∨k=15:=by omega
theorem refmul_fin {X Y P:Nat→Nat} {A B h l:Nat} (eX:fE 4294967296 X 8=A) (eY:fE 4294967296 Y 8=B) (m:MO 4294967296 8 X Y 8 P) (eh:h=pH (P 8) (P 9) (P 10) (P 11) (P 12) (P 13) (P 14) (P 15)) (el:l=pH (P 0) (P 1) (P 2) (P 3) (P 4) (P 5) (P 6) (P 7)) :
  l+115792089237316195423570985008687907853269984665640564039457584007913129639936*h=A*B:=by
 have h1:=m.2;have e8:4294967296^8=115792089237316195423570985008687907853269984665640564039457584007913129639936:=by simp
 rw[iO,eX,eY,e8,←val8_tot P,←val8_tot (fun k=>P (8+k))]at h1;rw[eh,el];exact h1
set_option maxHeartbeats 4000000 in
theorem refMul_calls (a0 a1 a2 a3 b0 b1 b2 b3:Nat) (ha:cF a0 a1 a2 a3) (hb:cF b0 b1 b2 b3) (w:World) :
  Calls prog 141 #[.agg #[.int .u64 a0,.int .u64 a1,.int .u64 a2,.int .u64 a3],.agg #[.int .u64 b0,.int .u64 b1,.int .u64 b2,.int .u64 b3]] w (Rm (aC a0 a1 a2 a3) (aC b0 b1 b2 b3) w):=by
 go_enter func141,ntmps141
 go_wp2_with fail;refine two_halves13 (pos:="ref.go:63") a0 a1 a2 a3 b0 b1 b2 b3 ha hb w.heap.size (w.heap.size+1) _ _ _ _ _ _ _ _ _ _ _ _ ?_ ?_ (by first|(simp; done)|(simp; omega)) (by first|(simp; done)|(simp; omega)) (fun p q X Y s0 s1 s2 s3 u T => ?_)
 ·exact⟨by simp[go_sem],by simp[go_sem],by simp[go_sem],by simp[go_sem],fun k=>by simp[go_sem]⟩
 ·exact⟨by simp[go_sem],by simp[go_sem],by simp[go_sem],by simp[go_sem],fun k=>by simp[go_sem]⟩
 have r0:∃H,RowIs u (w.heap.size+1+1) 4 H:=⟨fH [0,0,0,0],RowIs.below (RowIs.mk4 (by simp[go_sem]) (by simp[go_sem]) (by simp[go_sem]) (by simp[go_sem]) (fun k=>by simp[go_sem])) T.below (by first|(simp; done)|(simp; omega))⟩
 have r1:∃H,RowIs u (w.heap.size+1+1+1) 4 H:=⟨fH [0,0,0,0],RowIs.below (RowIs.mk4 (by simp[go_sem]) (by simp[go_sem]) (by simp[go_sem]) (by simp[go_sem]) (fun k=>by simp[go_sem])) T.below (by simp)⟩
 have h0:Below w.heap.size w u:=by
  refine Below.trans ?_ (T.below.mono (by simp; omega))
  repeat (first|exact Below.refl _ _|refine Below.alloc ?_ (by first|(simp; done)|(simp; omega)) _)
 have lp:=T.lp; have lq:=T.lq; have hs:=T.below.size;simp at lp lq hs;have up:=T.up; have uq:=T.uq; have hpq:=T.ne; have rX:=T.rowX; have rY:=T.rowY;have HlX:=Lib.hid T.ltX; have HlY:=Lib.hid T.ltY; have HeX:=Lib.hid T.eX; have HeY:=Lib.hid T.eY;have Hr0:=Lib.hid r0; have Hr1:=Lib.hid r1; have Hh0:=Lib.hid h0; have HX:=Lib.hid rX; have HY:=Lib.hid rY;clear T r0 r1 h0 rX rY;go_wp2_with fail
 go_loopw [9] (fun i wr=>∃(k:Nat) (P:Nat→Nat),k≤8∧i=.int .i64 k∧RM w wr p q u.heap.size (w.heap.size+1+1) 16 X Y P∧Hid (MO 4294967296 8 X Y k P)) (fun i _=>8-(intOf i).toNat)
 case atStart =>
  refine⟨0,fun _=>0,by omega,rfl,⟨⟨Hh0.out.alloc (by omega) _,by omega,by simp,by omega,by omega,by omega,HX.out.alloc up _,HY.out.alloc uq _,Hr0.out.elim fun H x=>⟨H,x.alloc (by omega) _⟩,by simp; omega,?_,fun _=>by omega⟩,Hr1.out.elim fun H x=>⟨H,x.alloc (by omega) _⟩,by simp; omega,by omega⟩,Lib.hid (Bq fun _=>rfl)⟩;refine RowIs.mk16z (fun k hk => ?_) (fun k=>by simp[go_sem])
  rcases sixteen hk with rfl|rfl|rfl|rfl|rfl|rfl|rfl|rfl|rfl|rfl|rfl|rfl|rfl|rfl|rfl|rfl<;>simp[go_sem]
 case round =>
  obtain⟨i,P,hi,rfl,m,mo⟩:=hrel
  by_cases hlt:i<8
  ·go_wp2_with fail
   go_loopw [10,11] (fun cc jj wr=>∃(j o:Nat) (P:Nat→Nat),j≤8∧o<4294967296∧jj=.int .i64 j∧cc=.int .u64 o∧RM w wr p q u.heap.size (w.heap.size+1+1) 16 X Y P∧Hid (MI 4294967296 8 X Y i j o P)) (fun _ j _=>8-(intOf j).toNat)
   case atStart=>exact⟨0,0,P,by omega,by omega,rfl,rfl,m,Lib.hid (Bs mo.out)⟩
   case round =>
    obtain⟨j,o,P,hj,ho,rfl,rfl,m,mi⟩:=hrel
    by_cases hlt':j<8
    ·have cx:=m.rw.rowX.cell hlt;have cy:=m.rw.rowY.cell hlt';have cp:=m.rw.rowP.cell (show i+j<16 by omega);have fp:=m.rw.rowP.free (show i+j<16 by omega);have bx:=HlX.out i;have by':=HlY.out j
     have bp:=m.rw.lt (i+j);obtain⟨m1,e1,t1,d1,c1,q1,q2,q3,q4,q5,l0,l1,l2,l3,l4,e⟩:=ex_rm bx by' bp ho
     have M:=Lib.hid m;clear m bx by' bp
     go_wp2_with fail
     go_quiet (fail)
     go_wp2_with fail
     go_roundw
     case rel=>exact⟨j+1,c1,jW P (i+j) d1,by omega,l4,by go_num,rfl,(M.out.drewN _).set (by omega) l3,Lib.hid (Mc hlt hlt' mi.out e.out)⟩
     case measure=>simp[intOf]; omega
    ·obtain rfl:j=8:=by omega
     have cp:=m.rw.rowP.cell (show i+8<16 by omega);have fp:=m.rw.rowP.free (show i+8<16 by omega);have M:=Lib.hid m;clear m;go_wp2_with fail
     go_roundw
     case rel=>exact⟨i+1,jW P (i+8) o,by omega,by go_num,M.out.set (by omega) ho,Lib.hid (Ya hlt mi.out)⟩
     case measure=>simp[intOf]; omega
  ·obtain rfl:i=8:=by omega
   have M:=Lib.hid m;have c0:=m.rw.rowP.cell (show 0<16 by omega);clear m;go_wp2_with fail;refine cG (fun _=>True) 5 (by kernel_rfl) ?_;refine aD (i:=0) (v:=.slice (some ⟨u.heap.size,8,none⟩) 8 8) rfl (by kernel_rfl) (by kernel_rfl) (by kernel_rfl) (by kernel_rfl) (fun _ _ _ h=>h) trivial (Or.inl ⟨by rfl,fun wx hx => ?_⟩) ?_
   ·go_simp
   simp only[Act.put,List.setIfInBounds_toArray,List.set_cons_zero,List.set_cons_succ];refine aD (i:=2) (v:=.slice (some ⟨u.heap.size,0,none⟩) 8 16) rfl (by kernel_rfl) (by kernel_rfl) (by kernel_rfl) (by kernel_rfl) (fun _ _ _ h=>h) trivial (Or.inl ⟨by rfl,fun wx hx => ?_⟩) ?_
   ·go_simp
   simp only[Act.put,List.setIfInBounds_toArray,List.set_cons_zero,List.set_cons_succ];obtain⟨H,rH⟩:=M.out.rw.rowH;obtain⟨L,rL⟩:=M.out.rowL;have HH:=Lib.hid rH; have HL:=Lib.hid rL;clear rH rL;have rP:RowIs wr.drew u.heap.size 16 P:=M.out.rw.rowP;have hlt:=M.out.rw.lt;have hul:=M.out.ul;have hur:=M.out.rw.ur;have huo:=M.out.rw.uo;have HP:=Lib.hid rP; have Hlt:=Lib.hid hlt;have HB:=Lib.hid M.out.rw.below;clear rP hlt M c0;refine aF (i:=1) (by kernel_rfl) rfl (fun K hK => ?_);go_simp;refine (qM (P 8) (P 9) (P 10) (P 11) (P 12) (P 13) (P 14) (P 15) ⟨Hlt.out _,Hlt.out _,Hlt.out _,Hlt.out _,Hlt.out _,Hlt.out _,Hlt.out _,Hlt.out _⟩ u.heap.size 8 8 _ (HP.out.cell (by omega)) (HP.out.cell (by omega)) (HP.out.cell (by omega)) (HP.out.cell (by omega)) (HP.out.cell (by omega)) (HP.out.cell (by omega)) (HP.out.cell (by omega)) (HP.out.cell (by omega)) huo).mono ?_
   rintro e w1 ⟨h0,h1,h2,h3,rfl,hh,eh,hbl⟩
   have Heh:=Lib.hid eh;have HP1:=Lib.hid (HP.out.below hbl huo);have HH1:=Lib.hid ((show RowIs wr.drew _ 4 H from HH.out).below hbl hur);have HL1:=Lib.hid ((show RowIs wr.drew _ 4 L from HL.out).below hbl hul);have hsz:=hbl.size;have HB1:=Lib.hid (HB.out.drew.trans (hbl.mono HB.out.size));clear hbl eh HP HH HL HB;refine hK.out _ _ (Or.inr trivial) (fun _ => ?_);clear hK K;refine aF (i:=3) (by kernel_rfl) rfl (fun K hK => ?_);go_simp;refine (qM (P 0) (P 1) (P 2) (P 3) (P 4) (P 5) (P 6) (P 7) ⟨Hlt.out _,Hlt.out _,Hlt.out _,Hlt.out _,Hlt.out _,Hlt.out _,Hlt.out _,Hlt.out _⟩ u.heap.size 0 16 _ (HP1.out.cell (by omega)) (HP1.out.cell (by omega)) (HP1.out.cell (by omega)) (HP1.out.cell (by omega)) (HP1.out.cell (by omega)) (HP1.out.cell (by omega)) (HP1.out.cell (by omega)) (HP1.out.cell (by omega)) (Nat.lt_of_lt_of_le huo hsz)).mono ?_
   rintro e w2 ⟨l0,l1,l2,l3,rfl,hl,el,hbl⟩
   have Hel:=Lib.hid el;have rH:=HH1.out.below hbl (Nat.lt_of_lt_of_le hur hsz);have rL:=HL1.out.below hbl (Nat.lt_of_lt_of_le hul hsz);have HB2:=Lib.hid (HB1.out.trans (hbl.mono HB1.out.size));clear hbl el HP1 HH1 HL1 HB1;refine hK.out _ _ (Or.inr trivial) (fun _ => ?_);clear hK K;have p0:=rH.cell (show 0<4 by omega); have q0:=rH.free (show 0<4 by omega);have p1:=rH.cell (show 1<4 by omega); have q1:=rH.free (show 1<4 by omega);have p2:=rH.cell (show 2<4 by omega); have q2:=rH.free (show 2<4 by omega);have p3:=rH.cell (show 3<4 by omega); have q3:=rH.free (show 3<4 by omega);have g0:=rL.cell (show 0<4 by omega); have f0:=rL.free (show 0<4 by omega);have g1:=rL.cell (show 1<4 by omega); have f1:=rL.free (show 1<4 by omega);have g2:=rL.cell (show 2<4 by omega); have f2:=rL.free (show 2<4 by omega);have g3:=rL.cell (show 3<4 by omega); have f3:=rL.free (show 3<4 by omega);clear rH rL;refine aF (i:=4) (by kernel_rfl) rfl (fun K hK => ?_);go_simp;refine hK.out _ _ (Or.inr trivial) (fun _ => ?_);clear hK K;refine aF (i:=5) (by kernel_rfl) rfl (fun K hK => ?_);go_simp;refine hK.out _ _ (Or.inr trivial) (fun _ => ?_);clear hK K;refine bR (by kernel_rfl) ?_;go_wp2_with fail;refine bodyPost_ret (v:=.tuple #[.agg #[.int .u64 h0,.int .u64 h1,.int .u64 h2,.int .u64 h3],.agg #[.int .u64 l0,.int .u64 l1,.int .u64 l2,.int .u64 l3]]) (by simp[results,results141,go_sem, *]) rfl ?_;refine⟨h0,h1,h2,h3,l0,l1,l2,l3,rfl,hh,hl,refmul_fin HeX.out HeY.out mo.out Heh.out Hel.out,?_⟩
   iterate 8 refine Below.setCell ?_ (by simp; omega) _
   exact HB2.out
theorem refParse_empty (s:ByteArray) (h:s.size=0) (w:World) :
  Calls prog 88 #[.string s] w (kK (fun n c=>(n,c)=eV s.data.toList) w):=by
 have e0:s.toList=[]:=by rw[ByteArray.toList_eq]; exact List.eq_nil_of_length_eq_zero (by simpa using h)
 have HV:=Lib.hid (mN (l:=s.data.toList) (by rw[←ByteArray.toList_eq,e0]; rfl))
 go_enter func88,ntmps88
 go_wp2_with fail;refine bodyPost_ret (v:=.tuple #[.agg #[.int .u64 0,.int .u64 0,.int .u64 0,.int .u64 0],.int .i64 11]) (by simp[results,results88,go_sem]) rfl ?_;refine⟨0,0,0,0,11,rfl,⟨by omega,by omega,by omega,by omega⟩,HV.out.symm,?_⟩
 repeat (first|exact Below.refl _ _|refine Below.drew ?_|refine Below.alloc ?_ (by first|(simp; done)|(simp; omega)) _)
theorem numB_lead {l:List UInt8} (h1:1<l.length) (h:l[0].toNat=48):pJ l=false:=by
 unfold pJ;have e1:RQ l=false:=by rw[AJ l (by omega)]; exact decide_eq_false (by simpa using h)
 have e2:decide (l=[48])=false:=decide_eq_false (fun e=>by rw[e]at h1; simp at h1);rw[e1,e2];simp
theorem refParse_lead (s:ByteArray) (hs:s.size≤maxLen) (h1:1<s.size) (h0:(s[0]'(by omega)).toNat=48) (w:World) :
  Calls prog 88 #[.string s] w (kK (fun n c=>(n,c)=eV s.data.toList) w):=by
 unfold maxLen at hs;have hp:0<s.size:=by omega
 have e0:(s.toList==[])=false:=by
  have:¬s.toList=[]:=by
   intro e;have h5:s.toList.length=s.size:=by rw[ByteArray.toList_eq]; simp
   rw[e]at h5;have h6:0=s.size:=h5;omega
  simpa using this
 have e1:¬s.toList=[]:=by simpa using e0
 have t1:decide ((1:Int)<(s.size:Int))=true:=decide_eq_true (by omega);have HV:=Lib.hid (mN (l:=s.data.toList) (numB_lead (by simpa using h1) h0))
 go_enter func88,ntmps88
 go_wp2_with fail;refine bodyPost_ret (v:=.tuple #[.agg #[.int .u64 0,.int .u64 0,.int .u64 0,.int .u64 0],.int .i64 11]) (by simp[results,results88,go_sem]) rfl ?_;refine⟨0,0,0,0,11,rfl,⟨by omega,by omega,by omega,by omega⟩,HV.out.symm,?_⟩
 repeat (first|exact Below.refl _ _|refine Below.drew ?_|refine Below.alloc ?_ (by first|(simp; done)|(simp; omega)) _)
theorem numB_rest {l:List UInt8} (h0:0<l.length) (h1:1<l.length→l[0].toNat≠48) (h:∀k (hk:k<l.length),oG l[k]=true):pJ l=true:=by
 rw[Az h,AJ l h0]
 by_cases e:1<l.length
 ·rw[decide_eq_true (h1 e),Bool.or_true]
 ·match l,h0,e with
  | [c],_,_ =>
   by_cases hc:c.toNat=48
   ·have:c=48:=UInt8.toNat_inj.1 hc;subst this; rfl
   ·simp[hc]
  | a::b::t,_,e=>exact absurd (by simp) e
set_option maxHeartbeats 8000000 in
theorem refParse_one (s:ByteArray) (hs:s.size≤maxLen) (h1:s.size=1) (w:World) :
  Calls prog 88 #[.string s] w (kK (fun n c=>(n,c)=eV s.data.toList) w):=by
 unfold maxLen at hs;have hp:0<s.size:=by omega
 have t1:decide ((1:Int)<(s.size:Int))=false:=decide_eq_false (by omega);have e0:(s.toList==[])=false:=by
  have:¬s.toList=[]:=by
   intro e;have h5:s.toList.length=s.size:=by rw[ByteArray.toList_eq]; simp
   rw[e]at h5;have h6:0=s.size:=h5;omega
  simpa using this
 have e1:¬s.toList=[]:=by simpa using e0
 obtain⟨l,el⟩:∃l,l=s.data.toList:=⟨_,rfl⟩
 have hll:l.length=s.size:=by rw[el]; simp
 have HG:=Lib.hid (fun (k:Nat) (hk:k<s.size) (hk':k<l.length)=>show s[k]=l[k]from by subst el; rfl);rw[←el];have HR:=Lib.hid (numB_rest (l:=l) (by omega) (fun e=>by rw[←HG.out 0 (by omega) (by omega)]; omega));have Hll:=Lib.hid hll;have HBad:=Lib.hid (fun (h:pJ l=false)=>mN h);have HLong:=Lib.hid (fun h=>uO (l:=l) h);clear el hll;have hle:s.size≤1:=by omega
 clear h1;have hz:cF 0 0 0 0:=⟨by omega,by omega,by omega,by omega⟩
 go_enter func88,ntmps88
 go_wp2_with fail
 go_loop [5] (fun x=>∃k:Nat,k≤s.size∧x=.int .i64 k∧Hid (∀j (hj:j<l.length),j<k→oG l[j]=true)) (fun x=>s.size-(intOf x).toNat)
 case atStart=>exact⟨0,Nat.zero_le _,rfl,Lib.hid (fun j _ h=>absurd h (by omega))⟩
 case round =>
  obtain⟨k,hk,rfl,ha⟩:=hrel
  by_cases hlt:k<s.size
  ·have hl:k<l.length:=by rw[Hll.out]; exact hlt
   obtain⟨c,ec,eq⟩:∃c:UInt8,s[k]'hlt=c∧l[k]=c:=⟨s[k]'hlt,rfl,(HG.out k hlt hl).symm⟩
   by_cases h1:(c.toNat:Int)<48
   ·have HV:=Lib.hid (HBad.out (sJ hl (by rw[eq]; unfold oG; exact decide_eq_false (by omega))));clear eq ha;go_wp2_with fail;refine bodyPost_ret (v:=.tuple #[.agg #[.int .u64 0,.int .u64 0,.int .u64 0,.int .u64 0],.int .i64 11]) (by simp[results,results88,go_sem]) rfl ?_;refine⟨0,0,0,0,11,rfl,hz,HV.out.symm,?_⟩
    repeat (first|exact Below.refl _ _|refine Below.drew ?_|refine Below.alloc ?_ (by first|(simp; done)|(simp; omega)) _)
   ·by_cases h2:(57:Int)<(c.toNat:Int)
    ·have HV:=Lib.hid (HBad.out (sJ hl (by rw[eq]; unfold oG; exact decide_eq_false (by omega))));clear eq ha;go_wp2_with fail;refine bodyPost_ret (v:=.tuple #[.agg #[.int .u64 0,.int .u64 0,.int .u64 0,.int .u64 0],.int .i64 11]) (by simp[results,results88,go_sem]) rfl ?_;refine⟨0,0,0,0,11,rfl,hz,HV.out.symm,?_⟩
     repeat (first|exact Below.refl _ _|refine Below.drew ?_|refine Below.alloc ?_ (by first|(simp; done)|(simp; omega)) _)
    ·have HN:=Lib.hid (show ∀j (hj:j<l.length),j<k+1→oG l[j]=true from fun j hj h=>by
      by_cases e:j=k
      ·subst e; rw[eq]; unfold oG; exact decide_eq_true (by omega)
      ·exact ha.out j hj (by omega))
     clear eq ha;go_wp2_with fail
     go_round
     case rel=>exact⟨k+1,by omega,by go_num,HN⟩
     case measure=>simp[intOf]; omega
  ·obtain rfl:k=s.size:=by omega
   have hnum:=HR.out (fun j hj=>ha.out j hj (by rw[←Hll.out]; exact hj));clear ha
   by_cases h78:78<s.size
   ·have HV:=Lib.hid (HLong.out hnum (by rw[Hll.out]; exact h78));exact absurd h78 (by omega)
   ·have HBig:=Lib.hid (wX hnum (show ¬ 78<l.length by rw[Hll.out]; exact h78));have HOk:=Lib.hid (zW hnum (show ¬ 78<l.length by rw[Hll.out]; exact h78));have HDig:=Lib.hid (fun k hk=>II hnum (k:=k) hk);have hd:decide ((78:Int)<(s.size:Int))=false:=decide_eq_false (by omega);have hs78:s.size≤78:=by omega
    clear hnum;go_wp2_with fail
    go_loopw [6] (fun x wr=>∃k a0 a1 a2 a3:Nat,k≤s.size∧x=.int .i64 k∧cF a0 a1 a2 a3∧Hid (aC a0 a1 a2 a3=cY (l.take k))∧Mem w wr [(w.heap.size+1,a0,a1,a2,a3),(w.heap.size,0,0,0,0)]) (fun x _=>s.size-(intOf x).toNat)
    case atStart=>exact⟨0,0,0,0,0,Nat.zero_le _,rfl,hz,Lib.hid rfl,((Mem.nil w).new w.heap.size 0 0 0 0 24 rfl).new (w.heap.size+1) 0 0 0 0 24 (by simp)⟩
    case round =>
      obtain⟨k,a0,a1,a2,a3,hk,rfl,ha,ev,mm⟩:=hrel;have M:=Lib.hid mm;have r0:=(mm.2 (w.heap.size+1,a0,a1,a2,a3) (by simp)).2;have z0:=(mm.2 (w.heap.size,0,0,0,0) (by simp)).2;have la:=(mm.2 (w.heap.size+1,a0,a1,a2,a3) (by simp)).1;clear mm;obtain⟨c0,c1,c2,c3,cf⟩:=r0;obtain⟨y0,y1,y2,y3,yf⟩:=z0
      by_cases hlt:k<s.size
      ·have hl:k<l.length:=by rw[Hll.out]; exact hlt
       have hdg:=HDig.out k hl;obtain⟨d,hdd,ld,ed⟩:∃d:Nat,((s[k]'hlt).toNat:Int)-48=(d:Int)∧d≤9∧Hid (cY (l.take (k+1))=cY (l.take k)*10+d):=by
        refine⟨l[k].toNat-48,?_,by omega,Lib.hid (uS hl)⟩;rw[HG.out k hlt hl]; omega
       have b1:48≤(s[k]'hlt).toNat:=by rw[HG.out k hlt hl]; exact hdg.1
       have b2:(s[k]'hlt).toNat≤57:=by rw[HG.out k hlt hl]; exact hdg.2
       have okd:cF d 0 0 0:=⟨by omega,by omega,by omega,by omega⟩;have w8:IntKind.u8.wrap (d:Int)=(d:Int):=by simp only[IntKind.wrap,IntKind.bits,IntKind.signed]; simp; omega
       have w64:IntKind.u64.wrap (d:Int)=(d:Int):=lG _ (by omega);clear hdg;go_wp2_with fail;refine (refMul_calls a0 a1 a2 a3 10 0 0 0 ha ⟨by omega,by omega,by omega,by omega⟩ _).mono ?_
       rintro e w2 ⟨o,g1,g2,g3,p0,p1,p2,p3,rfl,hgo,hp,ep,hbl⟩
       have ep':=ep;rw[show aC 10 0 0 0=10 from rfl]at ep';obtain⟨rfl,rfl,rfl,lo⟩:g1=0∧g2=0∧g3=0∧o<10:=by
        have h1:=bT ha;unfold aC at ep' h1;omega
       have Hep:=Lib.hid (show aC p0 p1 p2 p3+115792089237316195423570985008687907853269984665640564039457584007913129639936*o=aC a0 a1 a2 a3*10 by
        rw[←ep']; unfold aC; omega)
       have M2:=Lib.hid (((M.out.on hbl).new w2.heap.size o 0 0 0 24 rfl).new (w2.heap.size+1) p0 p1 p2 p3 24 (by simp));clear hbl M c0 c1 c2 c3 cf la y0 y1 y2 y3 yf ep ep' hgo;go_wp2_with fail;generalize (w2.alloc (.cells #[.int .u64 o,.int .u64 0,.int .u64 0,.int .u64 0] 24)).alloc (.cells #[.int .u64 p0,.int .u64 p1,.int .u64 p2,.int .u64 p3] 24)=W2 at M2 ⊢;have HM:=Lib.hid (M2.out.drewN 1);have HS:=M2.out.drewN 1;clear M2;refine cG (fun wx=>Mem w wx [(w2.heap.size+1,p0,p1,p2,p3),(w2.heap.size,o,0,0,0),(w.heap.size+1,a0,a1,a2,a3),(w.heap.size,0,0,0,0)]) 13 (by kernel_rfl) ?_;refine aD (i:=0) (v:=.agg #[.int .u64 p0,.int .u64 p1,.int .u64 p2,.int .u64 p3]) rfl (by kernel_rfl) (by kernel_rfl) (by kernel_rfl) (by kernel_rfl) (fun _ _ _ h=>h) HS (Or.inl ⟨by kernel_rfl,fun wx hx => ?_⟩) ?_
       ·have kr:=(hx.2 (w2.heap.size+1,p0,p1,p2,p3) (List.Mem.head _)).2;have k0:=kr.c0; have k1:=kr.c1; have k2:=kr.c2; have k3:=kr.c3; have kf:=kr.fr;clear kr HS hx;go_simp
       simp only[Act.put,List.setIfInBounds_toArray,List.set_cons_zero,List.set_cons_succ];refine aD (i:=1) (v:=.string s) rfl (by kernel_rfl) (by kernel_rfl) (by kernel_rfl) (by kernel_rfl) (fun _ _ _ h=>h) HS (Or.inl ⟨by kernel_rfl,fun wx hx => ?_⟩) ?_
       ·clear hx HS;go_simp
       simp only[Act.put,List.setIfInBounds_toArray,List.set_cons_zero,List.set_cons_succ];refine aD (i:=2) (v:=.int .i64 k) rfl (by kernel_rfl) (by kernel_rfl) (by kernel_rfl) (by kernel_rfl) (fun _ _ _ h=>h) HS (Or.inl ⟨by kernel_rfl,fun wx hx => ?_⟩) ?_
       ·clear hx HS;go_simp
       simp only[Act.put,List.setIfInBounds_toArray,List.set_cons_zero,List.set_cons_succ];refine aD (i:=3) (v:=.int .u8 ((s[k]'hlt).toNat:Nat)) rfl (by kernel_rfl) (by kernel_rfl) (by kernel_rfl) (by kernel_rfl) (fun _ _ _ h=>h) HS (Or.inl ⟨by kernel_rfl,fun wx hx => ?_⟩) ?_
       ·clear hx HS;go_simp
       simp only[Act.put,List.setIfInBounds_toArray,List.set_cons_zero,List.set_cons_succ];refine aD (i:=4) (v:=.int .u8 d) rfl (by kernel_rfl) (by kernel_rfl) (by kernel_rfl) (by kernel_rfl) (fun _ _ _ h=>h) HS (Or.inl ⟨by kernel_rfl,fun wx hx => ?_⟩) ?_
       ·clear hx HS;go_simp
       simp only[Act.put,List.setIfInBounds_toArray,List.set_cons_zero,List.set_cons_succ];refine aD (i:=5) (v:=.int .u64 d) rfl (by kernel_rfl) (by kernel_rfl) (by kernel_rfl) (by kernel_rfl) (fun _ _ _ h=>h) HS (Or.inl ⟨by kernel_rfl,fun wx hx => ?_⟩) ?_
       ·clear hx HS;go_simp
       simp only[Act.put,List.setIfInBounds_toArray,List.set_cons_zero,List.set_cons_succ];refine aD (i:=6) (v:=.agg #[.int .u64 d,.int .u64 0,.int .u64 0,.int .u64 0]) rfl (by kernel_rfl) (by kernel_rfl) (by kernel_rfl) (by kernel_rfl) (fun _ _ _ h=>h) HS (Or.inl ⟨by kernel_rfl,fun wx hx => ?_⟩) ?_
       ·clear hx HS;go_simp
       simp only[Act.put,List.setIfInBounds_toArray,List.set_cons_zero,List.set_cons_succ];clear HS;refine fD (i:=7) (j:=11) (by kernel_rfl) rfl rfl (fun K hK => ?_) (fun K hK => ?_)
       ·go_simp;refine (refAdd_calls p0 p1 p2 p3 d 0 0 0 hp okd _).mono ?_
        rintro e w3 ⟨s0,s1,s2,s3,c,rfl,hs',hc,es,hbl⟩
        have HV:=Lib.hid (show aC s0 s1 s2 s3+115792089237316195423570985008687907853269984665640564039457584007913129639936*(c+o)=cY (l.take (k+1)) by
         have h1:=Hep.out; have h2:=ev.out; have h3:=ed.out;have h4:aC d 0 0 0=d:=by unfold aC; omega
         rw[h3,←h2,Nat.mul_add]; omega)
        have HT:=Lib.hid (kR l (k+1));have M3:=Lib.hid (HM.out.on hbl);have HS:=HM.out.on hbl;clear HM hbl es;refine hK.out _ _ (Or.inr HS) (fun _ => ?_);clear hK K;refine aD (i:=8) (v:=.tuple #[.agg #[.int .u64 s0,.int .u64 s1,.int .u64 s2,.int .u64 s3],.int .u64 c]) rfl (by kernel_rfl) (by kernel_rfl) (by kernel_rfl) (by kernel_rfl) (fun _ _ _ h=>h) HS (Or.inl ⟨by kernel_rfl,fun wx hx => ?_⟩) ?_
        ·clear hx HS;go_simp
        simp only[Act.put,List.setIfInBounds_toArray,List.set_cons_zero,List.set_cons_succ];refine aD (i:=9) (v:=.agg #[.int .u64 s0,.int .u64 s1,.int .u64 s2,.int .u64 s3]) rfl (by kernel_rfl) (by kernel_rfl) (by kernel_rfl) (by kernel_rfl) (fun _ _ _ h=>h) HS (Or.inl ⟨by kernel_rfl,fun wx hx => ?_⟩) ?_
        ·clear hx HS;go_simp
        simp only[Act.put,List.setIfInBounds_toArray,List.set_cons_zero,List.set_cons_succ];refine aD (i:=10) (v:=.int .u64 c) rfl (by kernel_rfl) (by kernel_rfl) (by kernel_rfl) (by kernel_rfl) (fun _ _ _ h=>h) HS (Or.inl ⟨by kernel_rfl,fun wx hx => ?_⟩) ?_
        ·clear hx HS;go_simp
        simp only[Act.put,List.setIfInBounds_toArray,List.set_cons_zero,List.set_cons_succ];clear HS;refine aF (i:=11) (by kernel_rfl) rfl (fun K hK => ?_);go_simp;have M4:=Lib.hid (M3.out.new w3.heap.size 0 0 0 0 24 rfl);refine hK.out _ _ (Or.inr (M4.out.sub (fun r h=>List.mem_cons_of_mem _ h))) (fun _ => ?_);clear hK K;refine aF (i:=12) (by kernel_rfl) rfl (fun K hK => ?_);go_simp;have M5:=Lib.hid (M3.out.new w3.heap.size s0 s1 s2 s3 24 rfl);refine hK.out _ _ (Or.inr (M5.out.sub (fun r h=>List.mem_cons_of_mem _ h))) (fun _ => ?_);clear hK K M4;refine aF (i:=13) (by kernel_rfl) rfl (fun K hK => ?_);go_simp;refine hK.out _ _ (Or.inl rfl) (fun _ => ?_);clear hK K;refine bR (by kernel_rfl) ?_;have r3:=M3.out.2 (w.heap.size,0,0,0,0) (by simp);have r4:=M3.out.2 (w.heap.size+1,a0,a1,a2,a3) (by simp);have r6:=(M3.out.2 (w2.heap.size,o,0,0,0) (by simp)).2.c0;have l6:=(M3.out.2 (w2.heap.size,o,0,0,0) (by simp)).1;obtain⟨lz,y0,y1,y2,y3,yf⟩:=r3;obtain⟨la,c0,c1,c2,c3,cf⟩:=r4
        rcases Nat.eq_zero_or_pos o with rfl|h0
        ·rcases (show c=0∨c=1 by omega)with rfl|rfl
         ·have HN:=Lib.hid (show aC s0 s1 s2 s3=cY (l.take (k+1)) by have:=HV.out; omega);have M6:=Lib.hid (((M3.out.sub (rs':=[(w.heap.size+1,a0,a1,a2,a3),(w.heap.size,0,0,0,0)]) (fun r h=>List.mem_cons_of_mem _ (List.mem_cons_of_mem _ h))).put s0 s1 s2 s3 (by omega) (by simp)).on ((Below.refl _ _).alloc (Nat.le_refl _) (.cells #[.int .u64 s0,.int .u64 s1,.int .u64 s2,.int .u64 s3] 24)));go_wp2_with fail
          go_roundw
          case rel=>exact⟨k+1,s0,s1,s2,s3,by omega,by go_num,hs',HN,M6.out⟩
          case measure=>first|(simp[intOf]; done)|(simp[intOf]; omega)
         ·have HF:=Lib.hid (HBig.out (by have h1:=HV.out; have h2:=HT.out; omega));go_wp2_with fail;refine bodyPost_ret (v:=.tuple #[.agg #[.int .u64 0,.int .u64 0,.int .u64 0,.int .u64 0],.int .i64 4]) (by simp[results,results88,go_sem, *]) rfl ?_;exact⟨0,0,0,0,4,rfl,hz,HF.out.symm,(aZ M3.out.1 (by omega) _ _ _ _).alloc (by simp only[World.size_setCell,set4]; omega) _⟩
        ·have t1:((o:Int) != 0)=true:=by simp; omega
         have HF:=Lib.hid (HBig.out (by have h1:=HV.out; have h2:=HT.out; omega));clear h0;go_wp2_with fail;refine bodyPost_ret (v:=.tuple #[.agg #[.int .u64 0,.int .u64 0,.int .u64 0,.int .u64 0],.int .i64 4]) (by simp[results,results88,go_sem, *]) rfl ?_;exact⟨0,0,0,0,4,rfl,hz,HF.out.symm,(aZ M3.out.1 (by omega) _ _ _ _).alloc (by simp only[World.size_setCell,set4]; omega) _⟩
       ·go_simp;have M3:=Lib.hid (HM.out.new W2.heap.size 0 0 0 0 24 rfl);have lW:=(HM.out.2 (w.heap.size+1,a0,a1,a2,a3) (by simp)).1;have lW2:=(HM.out.2 (w2.heap.size+1,p0,p1,p2,p3) (by simp)).1;have gW:w.heap.size+1<W2.heap.size:=lW;have gW2:w2.heap.size+1<W2.heap.size:=lW2;clear HM lW lW2;refine hK.out _ _ (Or.inr (M3.out.sub (fun r h=>List.mem_cons_of_mem _ h))) (fun _ => ?_);clear hK K;refine aF (i:=7) (by kernel_rfl) rfl (fun K hK => ?_);go_simp;refine (refAdd_calls p0 p1 p2 p3 d 0 0 0 hp okd _).mono ?_
        rintro e w3 ⟨s0,s1,s2,s3,c,rfl,hs',hc,es,hbl⟩
        have HV:=Lib.hid (show aC s0 s1 s2 s3+115792089237316195423570985008687907853269984665640564039457584007913129639936*(c+o)=cY (l.take (k+1)) by
         have h1:=Hep.out; have h2:=ev.out; have h3:=ed.out;have h4:aC d 0 0 0=d:=by unfold aC; omega
         rw[h3,←h2,Nat.mul_add]; omega)
        have HT:=Lib.hid (kR l (k+1));have M4:=Lib.hid (M3.out.on hbl);have HS:=(M3.out.on hbl).sub (rs':=[(w2.heap.size+1,p0,p1,p2,p3),(w2.heap.size,o,0,0,0),(w.heap.size+1,a0,a1,a2,a3),(w.heap.size,0,0,0,0)]) (fun r h=>List.mem_cons_of_mem _ h);clear M3 hbl es;refine hK.out _ _ (Or.inr HS) (fun _ => ?_);clear hK K;refine aD (i:=8) (v:=.tuple #[.agg #[.int .u64 s0,.int .u64 s1,.int .u64 s2,.int .u64 s3],.int .u64 c]) rfl (by kernel_rfl) (by kernel_rfl) (by kernel_rfl) (by kernel_rfl) (fun _ _ _ h=>h) HS (Or.inl ⟨by kernel_rfl,fun wx hx => ?_⟩) ?_
        ·clear hx HS;go_simp
        simp only[Act.put,List.setIfInBounds_toArray,List.set_cons_zero,List.set_cons_succ];refine aD (i:=9) (v:=.agg #[.int .u64 s0,.int .u64 s1,.int .u64 s2,.int .u64 s3]) rfl (by kernel_rfl) (by kernel_rfl) (by kernel_rfl) (by kernel_rfl) (fun _ _ _ h=>h) HS (Or.inl ⟨by kernel_rfl,fun wx hx => ?_⟩) ?_
        ·clear hx HS;go_simp
        simp only[Act.put,List.setIfInBounds_toArray,List.set_cons_zero,List.set_cons_succ];refine aD (i:=10) (v:=.int .u64 c) rfl (by kernel_rfl) (by kernel_rfl) (by kernel_rfl) (by kernel_rfl) (fun _ _ _ h=>h) HS (Or.inl ⟨by kernel_rfl,fun wx hx => ?_⟩) ?_
        ·clear hx HS;go_simp
        simp only[Act.put,List.setIfInBounds_toArray,List.set_cons_zero,List.set_cons_succ];clear HS;have r5:=M4.out.2 (W2.heap.size,0,0,0,0) (by simp);obtain⟨lb,z0,z1,z2,z3,zf⟩:=r5;refine aF (i:=12) (by kernel_rfl) rfl (fun K hK => ?_);go_simp;have M5:=Lib.hid (M4.out.put s0 s1 s2 s3 (by omega) (by simp; omega));refine hK.out _ _ (Or.inr (M5.out.sub (fun r h=>List.mem_cons_of_mem _ h))) (fun _ => ?_);clear hK K z0 z1 z2 z3 zf lb;refine aF (i:=13) (by kernel_rfl) rfl (fun K hK => ?_);go_simp;refine hK.out _ _ (Or.inl rfl) (fun _ => ?_);clear hK K;refine bR (by kernel_rfl) ?_;have r3:=M4.out.2 (w.heap.size,0,0,0,0) (by simp);have r4:=M4.out.2 (w.heap.size+1,a0,a1,a2,a3) (by simp);have r5:=M4.out.2 (W2.heap.size,0,0,0,0) (by simp);obtain⟨lz,y0,y1,y2,y3,yf⟩:=r3;obtain⟨la,c0,c1,c2,c3,cf⟩:=r4;obtain⟨lb,z0,z1,z2,z3,zf⟩:=r5;have r6:=(M4.out.2 (w2.heap.size,o,0,0,0) (by simp)).2.c0
        rcases Nat.eq_zero_or_pos o with rfl|h0
        ·rcases (show c=0∨c=1 by omega)with rfl|rfl
         ·have HN:=Lib.hid (show aC s0 s1 s2 s3=cY (l.take (k+1)) by have:=HV.out; omega);have M6:=Lib.hid ((M5.out.sub (rs':=[(w.heap.size+1,a0,a1,a2,a3),(w.heap.size,0,0,0,0)]) (fun r h=>List.mem_cons_of_mem _ (List.mem_cons_of_mem _ (List.mem_cons_of_mem _ h)))).put s0 s1 s2 s3 (by omega) (by simp));go_wp2_with fail
          go_roundw
          case rel=>exact⟨k+1,s0,s1,s2,s3,by omega,by go_num,hs',HN,M6.out⟩
          case measure=>first|(simp[intOf]; done)|(simp[intOf]; omega)
         ·have HF:=Lib.hid (HBig.out (by have h1:=HV.out; have h2:=HT.out; omega));go_wp2_with fail;refine bodyPost_ret (v:=.tuple #[.agg #[.int .u64 0,.int .u64 0,.int .u64 0,.int .u64 0],.int .i64 4]) (by simp[results,results88,go_sem, *]) rfl ?_;exact⟨0,0,0,0,4,rfl,hz,HF.out.symm,aZ M5.out.1 (by omega) _ _ _ _⟩
        ·have t1:((o:Int) != 0)=true:=by simp; omega
         have HF:=Lib.hid (HBig.out (by have h1:=HV.out; have h2:=HT.out; omega));clear h0;go_wp2_with fail;refine bodyPost_ret (v:=.tuple #[.agg #[.int .u64 0,.int .u64 0,.int .u64 0,.int .u64 0],.int .i64 4]) (by simp[results,results88,go_sem, *]) rfl ?_;exact⟨0,0,0,0,4,rfl,hz,HF.out.symm,aZ M5.out.1 (by omega) _ _ _ _⟩
      ·obtain rfl:k=s.size:=by omega
       have HF:=Lib.hid (show (aC a0 a1 a2 a3,0)=eV l by
        have e1:cY (l.take s.size)=cY l:=by rw[List.take_of_length_le (by rw[Hll.out]; exact Nat.le_refl _)]
        have e2:=ev.out.trans e1;rw[HOk.out (by rw[←e2]; exact bT ha),e2])
       clear ev;go_wp2_with fail;refine bodyPost_ret (v:=.tuple #[.agg #[.int .u64 a0,.int .u64 a1,.int .u64 a2,.int .u64 a3],.int .i64 0]) (by simp[results,results88,go_sem, *]) rfl ?_;exact⟨a0,a1,a2,a3,0,rfl,ha,HF.out,aZ M.out.1 (by omega) _ _ _ _⟩
set_option maxHeartbeats 8000000 in
theorem refParse_more (s:ByteArray) (hs:s.size≤maxLen) (h1:1<s.size) (h0:(s[0]'(by omega)).toNat≠48) (w:World) :
  Calls prog 88 #[.string s] w (kK (fun n c=>(n,c)=eV s.data.toList) w):=by
 unfold maxLen at hs;have hp:0<s.size:=by omega
 have H0:=Lib.hid h0;obtain⟨c0,ec0,hc0⟩:∃c:Nat,(s[0]'hp).toNat=c∧((c:Int)==48)=false:=⟨_,rfl,by simp; omega⟩
 clear h0;have t1:decide ((1:Int)<(s.size:Int))=true:=decide_eq_true (by omega);have e0:(s.toList==[])=false:=by
  have:¬s.toList=[]:=by
   intro e;have h5:s.toList.length=s.size:=by rw[ByteArray.toList_eq]; simp
   rw[e]at h5;have h6:0=s.size:=h5;omega
  simpa using this
 have e1:¬s.toList=[]:=by simpa using e0
 obtain⟨l,el⟩:∃l,l=s.data.toList:=⟨_,rfl⟩
 have hll:l.length=s.size:=by rw[el]; simp
 have HG:=Lib.hid (fun (k:Nat) (hk:k<s.size) (hk':k<l.length)=>show s[k]=l[k]from by subst el; rfl);rw[←el];have HR:=Lib.hid (numB_rest (l:=l) (by omega) (fun e=>by rw[←HG.out 0 (by omega) (by omega)]; exact H0.out));have Hll:=Lib.hid hll;have HBad:=Lib.hid (fun (h:pJ l=false)=>mN h);have HLong:=Lib.hid (fun h=>uO (l:=l) h);clear el hll;have hz:cF 0 0 0 0:=⟨by omega,by omega,by omega,by omega⟩
 go_enter func88,ntmps88
 go_wp2_with fail
 go_loop [5] (fun x=>∃k:Nat,k≤s.size∧x=.int .i64 k∧Hid (∀j (hj:j<l.length),j<k→oG l[j]=true)) (fun x=>s.size-(intOf x).toNat)
 case atStart=>exact⟨0,Nat.zero_le _,rfl,Lib.hid (fun j _ h=>absurd h (by omega))⟩
 case round =>
  obtain⟨k,hk,rfl,ha⟩:=hrel
  by_cases hlt:k<s.size
  ·have hl:k<l.length:=by rw[Hll.out]; exact hlt
   obtain⟨c,ec,eq⟩:∃c:UInt8,s[k]'hlt=c∧l[k]=c:=⟨s[k]'hlt,rfl,(HG.out k hlt hl).symm⟩
   by_cases h1:(c.toNat:Int)<48
   ·have HV:=Lib.hid (HBad.out (sJ hl (by rw[eq]; unfold oG; exact decide_eq_false (by omega))));clear eq ha;go_wp2_with fail;refine bodyPost_ret (v:=.tuple #[.agg #[.int .u64 0,.int .u64 0,.int .u64 0,.int .u64 0],.int .i64 11]) (by simp[results,results88,go_sem]) rfl ?_;refine⟨0,0,0,0,11,rfl,hz,HV.out.symm,?_⟩
    repeat (first|exact Below.refl _ _|refine Below.drew ?_|refine Below.alloc ?_ (by first|(simp; done)|(simp; omega)) _)
   ·by_cases h2:(57:Int)<(c.toNat:Int)
    ·have HV:=Lib.hid (HBad.out (sJ hl (by rw[eq]; unfold oG; exact decide_eq_false (by omega))));clear eq ha;go_wp2_with fail;refine bodyPost_ret (v:=.tuple #[.agg #[.int .u64 0,.int .u64 0,.int .u64 0,.int .u64 0],.int .i64 11]) (by simp[results,results88,go_sem]) rfl ?_;refine⟨0,0,0,0,11,rfl,hz,HV.out.symm,?_⟩
     repeat (first|exact Below.refl _ _|refine Below.drew ?_|refine Below.alloc ?_ (by first|(simp; done)|(simp; omega)) _)
    ·have HN:=Lib.hid (show ∀j (hj:j<l.length),j<k+1→oG l[j]=true from fun j hj h=>by
      by_cases e:j=k
      ·subst e; rw[eq]; unfold oG; exact decide_eq_true (by omega)
      ·exact ha.out j hj (by omega))
     clear eq ha;go_wp2_with fail
     go_round
     case rel=>exact⟨k+1,by omega,by go_num,HN⟩
     case measure=>simp[intOf]; omega
  ·obtain rfl:k=s.size:=by omega
   have hnum:=HR.out (fun j hj=>ha.out j hj (by rw[←Hll.out]; exact hj));clear ha
   by_cases h78:78<s.size
   ·have HV:=Lib.hid (HLong.out hnum (by rw[Hll.out]; exact h78));clear hnum;go_wp2_with fail;refine bodyPost_ret (v:=.tuple #[.agg #[.int .u64 0,.int .u64 0,.int .u64 0,.int .u64 0],.int .i64 4]) (by simp[results,results88,go_sem]) rfl ?_;refine⟨0,0,0,0,4,rfl,hz,HV.out.symm,?_⟩
    repeat (first|exact Below.refl _ _|refine Below.drew ?_|refine Below.alloc ?_ (by first|(simp; done)|(simp; omega)) _)
   ·have HBig:=Lib.hid (wX hnum (show ¬ 78<l.length by rw[Hll.out]; exact h78));have HOk:=Lib.hid (zW hnum (show ¬ 78<l.length by rw[Hll.out]; exact h78));have HDig:=Lib.hid (fun k hk=>II hnum (k:=k) hk);have hd:decide ((78:Int)<(s.size:Int))=false:=decide_eq_false (by omega);have hs78:s.size≤78:=by omega
    clear hnum;go_wp2_with fail
    go_loopw [6] (fun x wr=>∃k a0 a1 a2 a3:Nat,k≤s.size∧x=.int .i64 k∧cF a0 a1 a2 a3∧Hid (aC a0 a1 a2 a3=cY (l.take k))∧Mem w wr [(w.heap.size+1,a0,a1,a2,a3),(w.heap.size,0,0,0,0)]) (fun x _=>s.size-(intOf x).toNat)
    case atStart=>exact⟨0,0,0,0,0,Nat.zero_le _,rfl,hz,Lib.hid rfl,((Mem.nil w).new w.heap.size 0 0 0 0 24 rfl).new (w.heap.size+1) 0 0 0 0 24 (by simp)⟩
    case round =>
      obtain⟨k,a0,a1,a2,a3,hk,rfl,ha,ev,mm⟩:=hrel;have M:=Lib.hid mm;have r0:=(mm.2 (w.heap.size+1,a0,a1,a2,a3) (by simp)).2;have z0:=(mm.2 (w.heap.size,0,0,0,0) (by simp)).2;have la:=(mm.2 (w.heap.size+1,a0,a1,a2,a3) (by simp)).1;clear mm;obtain⟨c0,c1,c2,c3,cf⟩:=r0;obtain⟨y0,y1,y2,y3,yf⟩:=z0
      by_cases hlt:k<s.size
      ·have hl:k<l.length:=by rw[Hll.out]; exact hlt
       have hdg:=HDig.out k hl;obtain⟨d,hdd,ld,ed⟩:∃d:Nat,((s[k]'hlt).toNat:Int)-48=(d:Int)∧d≤9∧Hid (cY (l.take (k+1))=cY (l.take k)*10+d):=by
        refine⟨l[k].toNat-48,?_,by omega,Lib.hid (uS hl)⟩;rw[HG.out k hlt hl]; omega
       have b1:48≤(s[k]'hlt).toNat:=by rw[HG.out k hlt hl]; exact hdg.1
       have b2:(s[k]'hlt).toNat≤57:=by rw[HG.out k hlt hl]; exact hdg.2
       have okd:cF d 0 0 0:=⟨by omega,by omega,by omega,by omega⟩;have w8:IntKind.u8.wrap (d:Int)=(d:Int):=by simp only[IntKind.wrap,IntKind.bits,IntKind.signed]; simp; omega
       have w64:IntKind.u64.wrap (d:Int)=(d:Int):=lG _ (by omega);clear hdg;go_wp2_with fail;refine (refMul_calls a0 a1 a2 a3 10 0 0 0 ha ⟨by omega,by omega,by omega,by omega⟩ _).mono ?_
       rintro e w2 ⟨o,g1,g2,g3,p0,p1,p2,p3,rfl,hgo,hp,ep,hbl⟩
       have ep':=ep;rw[show aC 10 0 0 0=10 from rfl]at ep';obtain⟨rfl,rfl,rfl,lo⟩:g1=0∧g2=0∧g3=0∧o<10:=by
        have h1:=bT ha;unfold aC at ep' h1;omega
       have Hep:=Lib.hid (show aC p0 p1 p2 p3+115792089237316195423570985008687907853269984665640564039457584007913129639936*o=aC a0 a1 a2 a3*10 by
        rw[←ep']; unfold aC; omega)
       have M2:=Lib.hid (((M.out.on hbl).new w2.heap.size o 0 0 0 24 rfl).new (w2.heap.size+1) p0 p1 p2 p3 24 (by simp));clear hbl M c0 c1 c2 c3 cf la y0 y1 y2 y3 yf ep ep' hgo;go_wp2_with fail;generalize (w2.alloc (.cells #[.int .u64 o,.int .u64 0,.int .u64 0,.int .u64 0] 24)).alloc (.cells #[.int .u64 p0,.int .u64 p1,.int .u64 p2,.int .u64 p3] 24)=W2 at M2 ⊢;have HM:=Lib.hid (M2.out.drewN 1);have HS:=M2.out.drewN 1;clear M2;refine cG (fun wx=>Mem w wx [(w2.heap.size+1,p0,p1,p2,p3),(w2.heap.size,o,0,0,0),(w.heap.size+1,a0,a1,a2,a3),(w.heap.size,0,0,0,0)]) 13 (by kernel_rfl) ?_;refine aD (i:=0) (v:=.agg #[.int .u64 p0,.int .u64 p1,.int .u64 p2,.int .u64 p3]) rfl (by kernel_rfl) (by kernel_rfl) (by kernel_rfl) (by kernel_rfl) (fun _ _ _ h=>h) HS (Or.inl ⟨by kernel_rfl,fun wx hx => ?_⟩) ?_
       ·have kr:=(hx.2 (w2.heap.size+1,p0,p1,p2,p3) (List.Mem.head _)).2;have k0:=kr.c0; have k1:=kr.c1; have k2:=kr.c2; have k3:=kr.c3; have kf:=kr.fr;clear kr HS hx;go_simp
       simp only[Act.put,List.setIfInBounds_toArray,List.set_cons_zero,List.set_cons_succ];refine aD (i:=1) (v:=.string s) rfl (by kernel_rfl) (by kernel_rfl) (by kernel_rfl) (by kernel_rfl) (fun _ _ _ h=>h) HS (Or.inl ⟨by kernel_rfl,fun wx hx => ?_⟩) ?_
       ·clear hx HS;go_simp
       simp only[Act.put,List.setIfInBounds_toArray,List.set_cons_zero,List.set_cons_succ];refine aD (i:=2) (v:=.int .i64 k) rfl (by kernel_rfl) (by kernel_rfl) (by kernel_rfl) (by kernel_rfl) (fun _ _ _ h=>h) HS (Or.inl ⟨by kernel_rfl,fun wx hx => ?_⟩) ?_
       ·clear hx HS;go_simp
       simp only[Act.put,List.setIfInBounds_toArray,List.set_cons_zero,List.set_cons_succ];refine aD (i:=3) (v:=.int .u8 ((s[k]'hlt).toNat:Nat)) rfl (by kernel_rfl) (by kernel_rfl) (by kernel_rfl) (by kernel_rfl) (fun _ _ _ h=>h) HS (Or.inl ⟨by kernel_rfl,fun wx hx => ?_⟩) ?_
       ·clear hx HS;go_simp
       simp only[Act.put,List.setIfInBounds_toArray,List.set_cons_zero,List.set_cons_succ];refine aD (i:=4) (v:=.int .u8 d) rfl (by kernel_rfl) (by kernel_rfl) (by kernel_rfl) (by kernel_rfl) (fun _ _ _ h=>h) HS (Or.inl ⟨by kernel_rfl,fun wx hx => ?_⟩) ?_
       ·clear hx HS;go_simp
       simp only[Act.put,List.setIfInBounds_toArray,List.set_cons_zero,List.set_cons_succ];refine aD (i:=5) (v:=.int .u64 d) rfl (by kernel_rfl) (by kernel_rfl) (by kernel_rfl) (by kernel_rfl) (fun _ _ _ h=>h) HS (Or.inl ⟨by kernel_rfl,fun wx hx => ?_⟩) ?_
       ·clear hx HS;go_simp
       simp only[Act.put,List.setIfInBounds_toArray,List.set_cons_zero,List.set_cons_succ];refine aD (i:=6) (v:=.agg #[.int .u64 d,.int .u64 0,.int .u64 0,.int .u64 0]) rfl (by kernel_rfl) (by kernel_rfl) (by kernel_rfl) (by kernel_rfl) (fun _ _ _ h=>h) HS (Or.inl ⟨by kernel_rfl,fun wx hx => ?_⟩) ?_
       ·clear hx HS;go_simp
       simp only[Act.put,List.setIfInBounds_toArray,List.set_cons_zero,List.set_cons_succ];clear HS;refine fD (i:=7) (j:=11) (by kernel_rfl) rfl rfl (fun K hK => ?_) (fun K hK => ?_)
       ·go_simp;refine (refAdd_calls p0 p1 p2 p3 d 0 0 0 hp okd _).mono ?_
        rintro e w3 ⟨s0,s1,s2,s3,c,rfl,hs',hc,es,hbl⟩
        have HV:=Lib.hid (show aC s0 s1 s2 s3+115792089237316195423570985008687907853269984665640564039457584007913129639936*(c+o)=cY (l.take (k+1)) by
         have h1:=Hep.out; have h2:=ev.out; have h3:=ed.out;have h4:aC d 0 0 0=d:=by unfold aC; omega
         rw[h3,←h2,Nat.mul_add]; omega)
        have HT:=Lib.hid (kR l (k+1));have M3:=Lib.hid (HM.out.on hbl);have HS:=HM.out.on hbl;clear HM hbl es;refine hK.out _ _ (Or.inr HS) (fun _ => ?_);clear hK K;refine aD (i:=8) (v:=.tuple #[.agg #[.int .u64 s0,.int .u64 s1,.int .u64 s2,.int .u64 s3],.int .u64 c]) rfl (by kernel_rfl) (by kernel_rfl) (by kernel_rfl) (by kernel_rfl) (fun _ _ _ h=>h) HS (Or.inl ⟨by kernel_rfl,fun wx hx => ?_⟩) ?_
        ·clear hx HS;go_simp
        simp only[Act.put,List.setIfInBounds_toArray,List.set_cons_zero,List.set_cons_succ];refine aD (i:=9) (v:=.agg #[.int .u64 s0,.int .u64 s1,.int .u64 s2,.int .u64 s3]) rfl (by kernel_rfl) (by kernel_rfl) (by kernel_rfl) (by kernel_rfl) (fun _ _ _ h=>h) HS (Or.inl ⟨by kernel_rfl,fun wx hx => ?_⟩) ?_
        ·clear hx HS;go_simp
        simp only[Act.put,List.setIfInBounds_toArray,List.set_cons_zero,List.set_cons_succ];refine aD (i:=10) (v:=.int .u64 c) rfl (by kernel_rfl) (by kernel_rfl) (by kernel_rfl) (by kernel_rfl) (fun _ _ _ h=>h) HS (Or.inl ⟨by kernel_rfl,fun wx hx => ?_⟩) ?_
        ·clear hx HS;go_simp
        simp only[Act.put,List.setIfInBounds_toArray,List.set_cons_zero,List.set_cons_succ];clear HS;refine aF (i:=11) (by kernel_rfl) rfl (fun K hK => ?_);go_simp;have M4:=Lib.hid (M3.out.new w3.heap.size 0 0 0 0 24 rfl);refine hK.out _ _ (Or.inr (M4.out.sub (fun r h=>List.mem_cons_of_mem _ h))) (fun _ => ?_);clear hK K;refine aF (i:=12) (by kernel_rfl) rfl (fun K hK => ?_);go_simp;have M5:=Lib.hid (M3.out.new w3.heap.size s0 s1 s2 s3 24 rfl);refine hK.out _ _ (Or.inr (M5.out.sub (fun r h=>List.mem_cons_of_mem _ h))) (fun _ => ?_);clear hK K M4;refine aF (i:=13) (by kernel_rfl) rfl (fun K hK => ?_);go_simp;refine hK.out _ _ (Or.inl rfl) (fun _ => ?_);clear hK K;refine bR (by kernel_rfl) ?_;have r3:=M3.out.2 (w.heap.size,0,0,0,0) (by simp);have r4:=M3.out.2 (w.heap.size+1,a0,a1,a2,a3) (by simp);have r6:=(M3.out.2 (w2.heap.size,o,0,0,0) (by simp)).2.c0;have l6:=(M3.out.2 (w2.heap.size,o,0,0,0) (by simp)).1;obtain⟨lz,y0,y1,y2,y3,yf⟩:=r3;obtain⟨la,c0,c1,c2,c3,cf⟩:=r4
        rcases Nat.eq_zero_or_pos o with rfl|h0
        ·rcases (show c=0∨c=1 by omega)with rfl|rfl
         ·have HN:=Lib.hid (show aC s0 s1 s2 s3=cY (l.take (k+1)) by have:=HV.out; omega);have M6:=Lib.hid (((M3.out.sub (rs':=[(w.heap.size+1,a0,a1,a2,a3),(w.heap.size,0,0,0,0)]) (fun r h=>List.mem_cons_of_mem _ (List.mem_cons_of_mem _ h))).put s0 s1 s2 s3 (by omega) (by simp)).on ((Below.refl _ _).alloc (Nat.le_refl _) (.cells #[.int .u64 s0,.int .u64 s1,.int .u64 s2,.int .u64 s3] 24)));go_wp2_with fail
          go_roundw
          case rel=>exact⟨k+1,s0,s1,s2,s3,by omega,by go_num,hs',HN,M6.out⟩
          case measure=>first|(simp[intOf]; done)|(simp[intOf]; omega)
         ·have HF:=Lib.hid (HBig.out (by have h1:=HV.out; have h2:=HT.out; omega));go_wp2_with fail;refine bodyPost_ret (v:=.tuple #[.agg #[.int .u64 0,.int .u64 0,.int .u64 0,.int .u64 0],.int .i64 4]) (by simp[results,results88,go_sem, *]) rfl ?_;exact⟨0,0,0,0,4,rfl,hz,HF.out.symm,(aZ M3.out.1 (by omega) _ _ _ _).alloc (by simp only[World.size_setCell,set4]; omega) _⟩
        ·have t1:((o:Int) != 0)=true:=by simp; omega
         have HF:=Lib.hid (HBig.out (by have h1:=HV.out; have h2:=HT.out; omega));clear h0;go_wp2_with fail;refine bodyPost_ret (v:=.tuple #[.agg #[.int .u64 0,.int .u64 0,.int .u64 0,.int .u64 0],.int .i64 4]) (by simp[results,results88,go_sem, *]) rfl ?_;exact⟨0,0,0,0,4,rfl,hz,HF.out.symm,(aZ M3.out.1 (by omega) _ _ _ _).alloc (by simp only[World.size_setCell,set4]; omega) _⟩
       ·go_simp;have M3:=Lib.hid (HM.out.new W2.heap.size 0 0 0 0 24 rfl);have lW:=(HM.out.2 (w.heap.size+1,a0,a1,a2,a3) (by simp)).1;have lW2:=(HM.out.2 (w2.heap.size+1,p0,p1,p2,p3) (by simp)).1;have gW:w.heap.size+1<W2.heap.size:=lW;have gW2:w2.heap.size+1<W2.heap.size:=lW2;clear HM lW lW2;refine hK.out _ _ (Or.inr (M3.out.sub (fun r h=>List.mem_cons_of_mem _ h))) (fun _ => ?_);clear hK K;refine aF (i:=7) (by kernel_rfl) rfl (fun K hK => ?_);go_simp;refine (refAdd_calls p0 p1 p2 p3 d 0 0 0 hp okd _).mono ?_
        rintro e w3 ⟨s0,s1,s2,s3,c,rfl,hs',hc,es,hbl⟩
        have HV:=Lib.hid (show aC s0 s1 s2 s3+115792089237316195423570985008687907853269984665640564039457584007913129639936*(c+o)=cY (l.take (k+1)) by
         have h1:=Hep.out; have h2:=ev.out; have h3:=ed.out;have h4:aC d 0 0 0=d:=by unfold aC; omega
         rw[h3,←h2,Nat.mul_add]; omega)
        have HT:=Lib.hid (kR l (k+1));have M4:=Lib.hid (M3.out.on hbl);have HS:=(M3.out.on hbl).sub (rs':=[(w2.heap.size+1,p0,p1,p2,p3),(w2.heap.size,o,0,0,0),(w.heap.size+1,a0,a1,a2,a3),(w.heap.size,0,0,0,0)]) (fun r h=>List.mem_cons_of_mem _ h);clear M3 hbl es;refine hK.out _ _ (Or.inr HS) (fun _ => ?_);clear hK K;refine aD (i:=8) (v:=.tuple #[.agg #[.int .u64 s0,.int .u64 s1,.int .u64 s2,.int .u64 s3],.int .u64 c]) rfl (by kernel_rfl) (by kernel_rfl) (by kernel_rfl) (by kernel_rfl) (fun _ _ _ h=>h) HS (Or.inl ⟨by kernel_rfl,fun wx hx => ?_⟩) ?_
        ·clear hx HS;go_simp
        simp only[Act.put,List.setIfInBounds_toArray,List.set_cons_zero,List.set_cons_succ];refine aD (i:=9) (v:=.agg #[.int .u64 s0,.int .u64 s1,.int .u64 s2,.int .u64 s3]) rfl (by kernel_rfl) (by kernel_rfl) (by kernel_rfl) (by kernel_rfl) (fun _ _ _ h=>h) HS (Or.inl ⟨by kernel_rfl,fun wx hx => ?_⟩) ?_
        ·clear hx HS;go_simp
        simp only[Act.put,List.setIfInBounds_toArray,List.set_cons_zero,List.set_cons_succ];refine aD (i:=10) (v:=.int .u64 c) rfl (by kernel_rfl) (by kernel_rfl) (by kernel_rfl) (by kernel_rfl) (fun _ _ _ h=>h) HS (Or.inl ⟨by kernel_rfl,fun wx hx => ?_⟩) ?_
        ·clear hx HS;go_simp
        simp only[Act.put,List.setIfInBounds_toArray,List.set_cons_zero,List.set_cons_succ];clear HS;have r5:=M4.out.2 (W2.heap.size,0,0,0,0) (by simp);obtain⟨lb,z0,z1,z2,z3,zf⟩:=r5;refine aF (i:=12) (by kernel_rfl) rfl (fun K hK => ?_);go_simp;have M5:=Lib.hid (M4.out.put s0 s1 s2 s3 (by omega) (by simp; omega));refine hK.out _ _ (Or.inr (M5.out.sub (fun r h=>List.mem_cons_of_mem _ h))) (fun _ => ?_);clear hK K z0 z1 z2 z3 zf lb;refine aF (i:=13) (by kernel_rfl) rfl (fun K hK => ?_);go_simp;refine hK.out _ _ (Or.inl rfl) (fun _ => ?_);clear hK K;refine bR (by kernel_rfl) ?_;have r3:=M4.out.2 (w.heap.size,0,0,0,0) (by simp);have r4:=M4.out.2 (w.heap.size+1,a0,a1,a2,a3) (by simp);have r5:=M4.out.2 (W2.heap.size,0,0,0,0) (by simp);obtain⟨lz,y0,y1,y2,y3,yf⟩:=r3;obtain⟨la,c0,c1,c2,c3,cf⟩:=r4;obtain⟨lb,z0,z1,z2,z3,zf⟩:=r5;have r6:=(M4.out.2 (w2.heap.size,o,0,0,0) (by simp)).2.c0
        rcases Nat.eq_zero_or_pos o with rfl|h0
        ·rcases (show c=0∨c=1 by omega)with rfl|rfl
         ·have HN:=Lib.hid (show aC s0 s1 s2 s3=cY (l.take (k+1)) by have:=HV.out; omega);have M6:=Lib.hid ((M5.out.sub (rs':=[(w.heap.size+1,a0,a1,a2,a3),(w.heap.size,0,0,0,0)]) (fun r h=>List.mem_cons_of_mem _ (List.mem_cons_of_mem _ (List.mem_cons_of_mem _ h)))).put s0 s1 s2 s3 (by omega) (by simp));go_wp2_with fail
          go_roundw
          case rel=>exact⟨k+1,s0,s1,s2,s3,by omega,by go_num,hs',HN,M6.out⟩
          case measure=>first|(simp[intOf]; done)|(simp[intOf]; omega)
         ·have HF:=Lib.hid (HBig.out (by have h1:=HV.out; have h2:=HT.out; omega));go_wp2_with fail;refine bodyPost_ret (v:=.tuple #[.agg #[.int .u64 0,.int .u64 0,.int .u64 0,.int .u64 0],.int .i64 4]) (by simp[results,results88,go_sem, *]) rfl ?_;exact⟨0,0,0,0,4,rfl,hz,HF.out.symm,aZ M5.out.1 (by omega) _ _ _ _⟩
        ·have t1:((o:Int) != 0)=true:=by simp; omega
         have HF:=Lib.hid (HBig.out (by have h1:=HV.out; have h2:=HT.out; omega));clear h0;go_wp2_with fail;refine bodyPost_ret (v:=.tuple #[.agg #[.int .u64 0,.int .u64 0,.int .u64 0,.int .u64 0],.int .i64 4]) (by simp[results,results88,go_sem, *]) rfl ?_;exact⟨0,0,0,0,4,rfl,hz,HF.out.symm,aZ M5.out.1 (by omega) _ _ _ _⟩
      ·obtain rfl:k=s.size:=by omega
       have HF:=Lib.hid (show (aC a0 a1 a2 a3,0)=eV l by
        have e1:cY (l.take s.size)=cY l:=by rw[List.take_of_length_le (by rw[Hll.out]; exact Nat.le_refl _)]
        have e2:=ev.out.trans e1;rw[HOk.out (by rw[←e2]; exact bT ha),e2])
       clear ev;go_wp2_with fail;refine bodyPost_ret (v:=.tuple #[.agg #[.int .u64 a0,.int .u64 a1,.int .u64 a2,.int .u64 a3],.int .i64 0]) (by simp[results,results88,go_sem, *]) rfl ?_;exact⟨a0,a1,a2,a3,0,rfl,ha,HF.out,aZ M.out.1 (by omega) _ _ _ _⟩
theorem refParse_calls (s:ByteArray) (hs:s.size≤maxLen) (w:World) :
  Calls prog 88 #[.string s] w (kK (fun n c=>(n,c)=eV s.data.toList) w):=by
 rcases Nat.eq_zero_or_pos s.size with h|h
 ·exact refParse_empty s h w
 ·by_cases h1:1<s.size
  ·by_cases h0:(s[0]'(by omega)).toNat=48
   ·exact refParse_lead s hs h1 h0 w
   ·exact refParse_more s hs h1 h0 w
  ·exact refParse_one s hs (by omega) w
end Go.Proofs.YtpjlhhpjpnacmaaGreatDoor.R1
namespace Go.Proofs.YtpjlhhpjpnacmaaGreatDoor.Ex
open Go.Proofs.Tryz
open Go.RowKit
def Dj:gE
 | [.v (.im (.string s))]=>some ([s.size≤maxLen],.one (.fl [.q (eV s.data.toList).1]))
 | _=>none
def Zc:gE
 | [.v (.im (.string s))]=>some ([s.size≤maxLen],.many [.fl [.q (eV s.data.toList).1],.im (.int .i64 ((eV s.data.toList).2:Nat))])
 | _=>none
theorem UA (l:List UInt8):(eV l).1<aG:=by
 unfold eV;split
 ·exact by decide
 ·split
  ·exact by decide
  ·split
   ·exact by decide
   ·rename_i h;exact Nat.lt_of_not_le h
theorem aFt:∀cs pre r,Zc cs=some (pre,r)→bC pre→∀(args:List Value) (w:World),cP w cs args→bG prog 88 r args w:=by
 intro cs pre r hg hp args w ha;unfold Zc at hg;split at hg
 ·rename_i s;cases hg
  match args,ha with
  | [v],ha =>
   have h1:v=.string s:=ha.1;subst h1;refine (R1.refParse_calls s hp.1 w).mono ?_
   rintro e w' ⟨s0,s1,s2,s3,c,rfl,hs,hv,hb⟩
   have h1:=congrArg Prod.fst hv;have h2:=congrArg Prod.snd hv;simp only at h1 h2;obtain⟨rfl,rfl,rfl,rfl⟩:=gY hs (UA _) h1;subst h2;exact⟨rfl,hb⟩
  | [],ha=>exact ha.elim
  | _::_::_,ha=>exact ha.2.elim
 ·cases hg
def aFO:ByteArray:=⟨[53,50,57,57,54,49,57,50,52,48,54,52,49,53,53,49,50,56,49,54,51,52,56,54,53,53,56,51,53,49,56,50,57,55,48,51,48,50,56,50,56,55,52,52,55,50,49,57,48,55,55,50,56,57,52,48,56,54,53,50,49,49,52,52,52,56,50,55,50,49,48,48,49,53,53,51].toArray⟩
def dgY:ByteArray:=⟨[49,54,57,53,48,49,53,48,55,57,56,52,54,48,54,53,55,55,49,55,57,53,56,54,50,53,53,54,55,56,50,49,56,51,52,53,53,48,51,48,49,54,54,51,49,54,49,54,50,52,55,48,55,55,56,55,50,50,50,56,49,53,57,51,54,49,56,50,54,51,56,57,54,56,50,48,51].toArray⟩
theorem aFQ:aFO.size≤maxLen:=Nat.le_of_ble_eq_true (by kernel_rfl)
theorem aFP:dgY.size≤maxLen:=Nat.le_of_ble_eq_true (by kernel_rfl)
theorem vI {x y:Nat} (hx:x<aG) (hy:y<aG):aA [At.q x]=aA [At.q y]↔x=y:=by
 constructor
 ·intro h;have h2:w4 x=w4 y:=by
   have h3:w4 x++[]=w4 y++[]:=h;simpa using h3
  unfold w4 at h2;simp only[List.cons.injEq,Value.int.injEq,true_and,and_true]at h2;obtain⟨e0,e1,e2,e3⟩:=h2;have h3:=fG hx;have h4:=fG hy;have c0:fw x 0=fw y 0:=by omega
  have c1:fw x 1=fw y 1:=by omega
  have c2:fw x 2=fw y 2:=by omega
  have c3:fw x 3=fw y 3:=by omega
  rw[c0,c1,c2,c3,h4]at h3;exact h3.symm
 ·rintro rfl
  rfl
def Tc:gE:=g2 qZ qZ fun x y=>([x<aG,y<aG],.one (.im (.int .i64 (Go.Proofs.YtpjlhhpjpnacmaaGreatDoor.iL x y))))
theorem fwv {x:Nat} (hx:x<aG):aC (fw x 0) (fw x 1) (fw x 2) (fw x 3)=x:=fG hx
theorem aFA:∀cs pre r,Tc cs=some (pre,r)→bC pre→∀(args:List Value) (w:World),cP w cs args→bG prog 71 r args w :=
 JD dP dP fun x y h args w ha=>by
  match args,ha with
  | [u,v],ha =>
   have e1:u=.agg (aA [At.q x]).toArray:=ha.1;have e2:v=.agg (aA [At.q y]).toArray:=ha.2.1;subst e1; subst e2;have:=AX (fw x 0) (fw x 1) (fw x 2) (fw x 3) (fw y 0) (fw y 1) (fw y 2) (fw y 3) (eN x) (eN y) w;rw[fwv h.1,fwv h.2.1]at this;exact this
  | [],ha=>exact ha.elim
  | [_],ha=>exact ha.2.elim
  | _::_::_::_,ha=>exact ha.2.2.elim
def PS:Tab:=(((T0.add 71 Tc).add 72 (g0 (.one (.fl [.q lJ])))).add 62 (g0 (.one (.fl [.q bX,.q bY])))).add 61 (aES true)
theorem AC:TabOk prog PS:=((((bP _).ad func71 aFA).ad func72 (uU qI)).ad func62 (uU KH)).ad func61 (Nw NC true)
theorem aAW (n:Nat) (z:Bool):cH prog (qG prog) (fun _=>⟨fun _=>PS,fun _=>true,assoc [(6,.bool z)]⟩) f40 60 [.v (.fl [.q n])]=some ([n<aG,lJ<aG,aN .lss .i64 (Go.Proofs.YtpjlhhpjpnacmaaGreatDoor.iL n lJ) 0=some (.bool z)],.one (.im (.bool z))):=by kernel_rfl
theorem NE:lJ<aG:=by decide
theorem aAA (n:Nat):aN .lss .i64 (Go.Proofs.YtpjlhhpjpnacmaaGreatDoor.iL n lJ) 0=some (.bool (decide (n<lJ))):=by
 show some (Value.bool (decide (Go.Proofs.YtpjlhhpjpnacmaaGreatDoor.iL n lJ<0)))=_;have e:(Go.Proofs.YtpjlhhpjpnacmaaGreatDoor.iL n lJ<0)↔n<lJ:=by
  unfold Go.Proofs.YtpjlhhpjpnacmaaGreatDoor.iL;generalize lJ=l;split
  ·constructor<;>intro h<;>omega
  ·split<;>constructor<;>intro h<;>omega
 rw[decide_eq_decide.2 e]
def Od (z:Bool):gE:=g1 qZ fun n=>([n<aG,decide (n<lJ)=z],.one (.im (.bool z)))
theorem aAl (z:Bool):∀cs pre r,Od z cs=some (pre,r)→bC pre→∀(args:List Value) (w:World),cP w cs args→bG prog 40 r args w :=
 lY dP fun n h args w ha=>aK aI (fun _ _=>AC) (aV _) func40 (aAW n z) ⟨h.1,NE,by rw[aAA,h.2.1],trivial⟩ ha
def Re (z:Bool):Tab:=PS.add 40 (Od z)
theorem Au (z:Bool):TabOk prog (Re z):=AC.ad func40 (aAl z)
theorem aJA (n:Nat) (z:Bool):cH prog (qG prog) (fun _=>⟨fun _=>Re z,fun _=>false,fun _=>none⟩) f28 60 [.v (.fl [.q n])]=some ([aA [At.q n]≠aA [At.f ⟨0,dB⟩],n<aG,decide (n<lJ)=z],.one (.im (.bool z))):=by cases z<;>kernel_rfl
theorem aJz (n:Nat):cH prog (qG prog) (fun _=>⟨fun _=>Re true,fun _=>true,fun _=>none⟩) f28 60 [.v (.fl [.q n])]=some ([aA [At.q n]=aA [At.f ⟨0,dB⟩]],.one (.im (.bool false))):=by kernel_rfl
def jI (n:Nat):Bool:=decide (n≠0∧n<lJ)
def gSc (z:Bool):gE:=g1 qZ fun n=>([n<aG,jI n=z],.one (.im (.bool z)))
theorem aJZ (z:Bool):∀cs pre r,gSc z cs=some (pre,r)→bC pre→∀(args:List Value) (w:World),cP w cs args→bG prog 28 r args w :=
 lY dP fun n h args w ha=>by
  obtain⟨hn,hz,_⟩:=h;subst hz;unfold jI
  by_cases e:n=0
  ·subst e;rw[decide_eq_false (fun q=>q.1 rfl)];exact aK aI (fun _ _=>Au true) (aV _) func28 (aJz 0) ⟨rfl,trivial⟩ ha
  ·rw[decide_eq_decide.2 (show n≠0∧n<lJ↔n<lJ from⟨fun q=>q.2,fun q=>⟨e,q⟩⟩)];exact aK aI (fun _ _=>Au _) (aV _) func28 (aJA n _) ⟨fun q=>e ((vI hn (by decide)).1 q),hn,rfl,trivial⟩ ha
theorem Yb (p:Option Addr) (n m:Nat) (z:Bool):cH prog (qG prog) (fun _=>⟨fun _=>PS,fun _=>true,assoc [(5,.bool z)]⟩) f29 60 [.v (.im (.slice p n m))]=some ([aN .gtr .i64 (Int.ofNat n) 4096=some (.bool z)],.one (.im (.bool z))):=by kernel_rfl
def gLo (z:Bool):gE
 | [.v (.im (.slice _ n _))]=>some ([decide (4096<n)=z],.one (.im (.bool z)))
 | _=>none
theorem aFx (z:Bool):∀cs pre r,gLo z cs=some (pre,r)→bC pre→∀(args:List Value) (w:World),cP w cs args→bG prog 29 r args w:=by
 intro cs pre r hg hp args w ha;unfold gLo at hg;split at hg
 ·rename_i p n m;cases hg;exact aK aI (fun _ _=>AC) (aV _) func29 (Yb p n m z) ⟨by
   show some (Value.bool (decide ((n:Int)>4096)))=_;rw[←hp.1];congr 2;exact decide_eq_decide.2 ⟨fun h=>by omega,fun h=>by omega⟩,trivial⟩ ha
 ·cases hg
theorem Vl (n:Nat):cH prog (qG prog) (fun _=>⟨fun _=>PS,fun _=>true,fun _=>none⟩) f31 60 [.v (.fl [.q n])]=some ([bX<aG,bY<aG,jR bX bY=true],.one (.fl [.q (pN n).1,.q (pN n).2])):=by kernel_rfl
def gTb:gE:=g1 qZ fun n=>([],.one (.fl [.q (pN n).1,.q (pN n).2]))
theorem aFr:∀cs pre r,gTb cs=some (pre,r)→bC pre→∀(args:List Value) (w:World),cP w cs args→bG prog 31 r args w :=
 lY dP fun n h args w ha=>aK aI (fun _ _=>AC) (aV _) func31 (Vl n) ⟨(OnJ.w zL).1,(OnJ.w zL).2,AB zL,trivial⟩ ha
def Rc (z:Bool):Tab:=((Re true).add 28 (gSc z)).add 31 gTb
theorem As (z:Bool):TabOk prog (Rc z):=((Au true).ad func28 (aJZ z)).ad func31 aFr
theorem aIY (n:Nat):cH prog (qG prog) (fun _=>⟨fun _=>Rc true,fun _=>true,fun _=>none⟩) f10 60 [.v (.fl [.q n])]=some ([n<aG,jI n=true],gP (pN n) 0):=by kernel_rfl
theorem aIZ (n:Nat):cH prog (qG prog) (fun _=>⟨fun _=>Rc false,fun _=>true,fun _=>none⟩) f10 60 [.v (.fl [.q n])]=some ([n<aG,jI n=false],.many [.fl vU,.im (.int .i64 121)]):=by kernel_rfl
def aIJ (z:Bool) (n:Nat):RV:=bif z then gP (pN n) 0 else gP (0,0) 121
def gPu (z:Bool):gE:=g1 qZ fun n=>([n<aG,jI n=z],aIJ z n)
theorem aBT (k:Int):RV.den (.many [.fl vU,.im (.int .i64 k)])=RV.den (gP (0,0) k):=by kernel_rfl
theorem aAi (z:Bool):∀cs pre r,gPu z cs=some (pre,r)→bC pre→∀(args:List Value) (w:World),cP w cs args→bG prog 10 r args w :=
 lY dP fun n h args w ha=>by
  cases z
  ·have:=aK aI (fun _ _=>As false) (aV _) func10 (aIZ n) h ha;unfold bG at this ⊢;rw[aBT]at this;exact this
  ·exact aK aI (fun _ _=>As true) (aV _) func10 (aIY n) h ha
end Go.Proofs.YtpjlhhpjpnacmaaGreatDoor.Ex
