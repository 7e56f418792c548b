/- Po10 -/
import Derived.Deep.DeepCutAuto
import Derived.Test.YtpbljiejmfahcaaDoorPo09
import Derived.Test.YtpbljiejmfahcaaDoorPo03
import Derived.Test.YtpbljiejmfahcaaDoorPo06
import Derived.Test.YtpbljiejmfahcaaDoorPo04
import Derived.Test.YtpbljiejmfahcaaDoorPo08
import Derived.Test.YtpbljiejmfahcaaDoorProg
set_option maxRecDepth 100000
set_option linter.unusedVariables false
set_option linter.unusedSimpArgs false
set_option linter.unnecessarySimpa false
noncomputable section
namespace Go.Proofs.YtpbljiejmfahcaaDoor
open Go.Proofs.Tryd
open Go.RowKit
theorem lP {ops:Array Oper} {got:Nat→Bool} {i:Nat} {o:Oper} {e:Edge} (h:rD .any ops got i=true) (ho:ops[i]?=some o) (he:e∈o.after) (hb:Region.binds .any e=true):got e.on=true:=by
 unfold rD at h;rw[ho]at h;have:=(Array.all_eq_true_iff_forall_mem.1 h) e he;simpa[hb]using this
def vM (A:Nat) (t:Value):Prop:=∃x0 x1 x2 x3 x4 x5 x6 x7:Nat,t=.agg #[.int .u64 x0,.int .u64 x1,.int .u64 x2,.int .u64 x3,.int .u64 x4,.int .u64 x5,.int .u64 x6,.int .u64 x7]∧Li x0 x1 x2 x3 x4 x5 x6 x7∧Hid (yG x0 x1 x2 x3 x4 x5 x6 x7=A)
def FreshZ (wr u:World) (t:Value):Prop:=∃p,t=.pointer (some ⟨p,0,none⟩)∧wr.heap.size≤p∧p<u.heap.size∧RowIs u p 8 (fun _=>0)
theorem FreshZ.grow {wr u u':World} {t:Value} (h:FreshZ wr u t) (hb:Below u.heap.size u u'):FreshZ wr u' t:=by
 obtain⟨p,e,h1,h2,r⟩:=h;exact⟨p,e,h1,Nat.lt_of_lt_of_le h2 hb.size,r.below hb h2⟩
theorem oX (wr u:World) (hs:wr.heap.size≤u.heap.size) (t:TypeId):FreshZ wr (u.alloc (.cells #[.int .u64 0,.int .u64 0,.int .u64 0,.int .u64 0,.int .u64 0,.int .u64 0,.int .u64 0,.int .u64 0] t)) (.pointer (some ⟨u.heap.size,0,none⟩)) :=
 ⟨_,rfl,hs,by simp,by
  intro k hk;refine⟨?_,World.frozen?_alloc_new _ _ _ _⟩;rw[World.cell?_alloc_new]
  match k,hk with
  | 0,_|1,_|2,_|3,_|4,_|5,_|6,_|7,_=>rfl⟩
theorem fF (u:World) (o:Obj):Below u.heap.size u (u.alloc o):=(Below.refl _ _).alloc (Nat.le_refl _) o
theorem iZ {wr u:World} {t:Value} (h:FreshZ wr u t):t ≠ .pointer (some ⟨u.heap.size,0,none⟩):=by
 obtain⟨p,rfl,_,h2,_⟩:=h;intro e;injection e with e;injection e with e;injection e with e;omega
def set8 (w:World) (b:Nat) (d0 d1 d2 d3 d4 d5 d6 d7:Nat):World :=
 (((((((w.setCell ⟨b,0,none⟩ (.int .u64 d0)).setCell ⟨b,1,none⟩ (.int .u64 d1)).setCell ⟨b,2,none⟩ (.int .u64 d2)).setCell ⟨b,3,none⟩ (.int .u64 d3)).setCell ⟨b,4,none⟩ (.int .u64 d4)).setCell ⟨b,5,none⟩ (.int .u64 d5)).setCell ⟨b,6,none⟩ (.int .u64 d6)).setCell ⟨b,7,none⟩ (.int .u64 d7)
theorem RowIs.ext {w:World} {b n:Nat} {P R:Nat→Nat} (h:RowIs w b n P) (e:∀k,k<n→P k=R k):RowIs w b n R:=fun k hk=>⟨by rw[←e k hk]; exact h.cell hk,h.free hk⟩
theorem RowIs.set8 {w:World} {b:Nat} {P:Nat→Nat} (h:RowIs w b 8 P) (d0 d1 d2 d3 d4 d5 d6 d7:Nat):RowIs (Go.Proofs.YtpbljiejmfahcaaDoor.set8 w b d0 d1 d2 d3 d4 d5 d6 d7) b 8 (dX [d0,d1,d2,d3,d4,d5,d6,d7]):=by
 have r:=(((((((h.set (show 0<8 by omega) (v:=d0)).set (show 1<8 by omega) (v:=d1)).set (show 2<8 by omega) (v:=d2)).set (show 3<8 by omega) (v:=d3)).set (show 4<8 by omega) (v:=d4)).set (show 5<8 by omega) (v:=d5)).set (show 6<8 by omega) (v:=d6)).set (show 7<8 by omega) (v:=d7);unfold Go.Proofs.YtpbljiejmfahcaaDoor.set8;refine r.ext fun k hk => ?_
 match k,hk with
 | 0,_|1,_|2,_|3,_|4,_|5,_|6,_|7,_=>rfl
theorem RowIs.set8_other {w:World} {b c n:Nat} {P:Nat→Nat} (h:RowIs w b n P) (hc:c≠b) (d0 d1 d2 d3 d4 d5 d6 d7:Nat):RowIs (Go.Proofs.YtpbljiejmfahcaaDoor.set8 w c d0 d1 d2 d3 d4 d5 d6 d7) b n P :=
 (((((((h.other hc _).other hc _).other hc _).other hc _).other hc _).other hc _).other hc _).other hc _
theorem mX {B:Nat} {w w':World} {b:Nat} (h:Below B w w') (hb:B≤b) (d0 d1 d2 d3 d4 d5 d6 d7:Nat):Below B w (set8 w' b d0 d1 d2 d3 d4 d5 d6 d7) :=
 (((((((h.setCell (p:=⟨b,0,none⟩) hb _).setCell (p:=⟨b,1,none⟩) hb _).setCell (p:=⟨b,2,none⟩) hb _).setCell (p:=⟨b,3,none⟩) hb _).setCell (p:=⟨b,4,none⟩) hb _).setCell (p:=⟨b,5,none⟩) hb _).setCell (p:=⟨b,6,none⟩) hb _).setCell (p:=⟨b,7,none⟩) hb _
theorem eD (w:World) (b d0 d1 d2 d3 d4 d5 d6 d7:Nat):(set8 w b d0 d1 d2 d3 d4 d5 d6 d7).heap.size=w.heap.size:=by
 unfold set8; simp only[World.size_setCell]
theorem sP {x0 x1 x2 x3 x4 x5 x6 x7:Nat} (h:Li x0 x1 x2 x3 x4 x5 x6 x7) (k:Nat):dX [x0,x1,x2,x3,x4,x5,x6,x7] k<4294967296:=by
 obtain⟨h0,h1,h2,h3,h4,h5,h6,h7⟩:=h;unfold dX
 match k with
 | 0=>exact h0
 | 1=>exact h1
 | 2=>exact h2
 | 3=>exact h3
 | 4=>exact h4
 | 5=>exact h5
 | 6=>exact h6
 | 7=>exact h7
 | k+8=>simp
theorem qK (P:Nat→Nat):yG (P 0) (P 1) (P 2) (P 3) (P 4) (P 5) (P 6) (P 7)=cR 4294967296 P 8:=by
 unfold yG;simp only[cR];omega
structure R3 (got:Nat→Bool) (wr:World) (f:Int) (F:FC) (a0 a1 a2 a3 b0 b1 b2 b3:Nat) (t7 t8 t9 s21 s22 s23 s24 s25 s26 s27:Value) (u:World):Prop where
 below:Below wr.heap.size wr u
 g0:got 0=true→s21=.agg #[.int .u64 a0,.int .u64 a1,.int .u64 a2,.int .u64 a3]
 g1:got 1=true→vM (aC a0 a1 a2 a3) s22
 g2:got 2=true→s23=.agg #[.int .u64 b0,.int .u64 b1,.int .u64 b2,.int .u64 b3]
 g3:got 3=true→vM (aC b0 b1 b2 b3) s24
 g4:got 4=true→s25=.int .i64 f
 g5:got 5=true→s26=.agg #[.int .u64 F.m0,.int .u64 F.m1,.int .u64 F.m2,.int .u64 F.m3]
 g6:got 6=true→vM F.M s27
 g7:got 7=true→FreshZ wr u t7
 g8:got 8=true→FreshZ wr u t8
 g9:got 9=true→FreshZ wr u t9
 n78:got 7=true→got 8=true→t7≠t8
 n79:got 7=true→got 9=true→t7≠t9
 n89:got 8=true→got 9=true→t8≠t9
section
variable {got:Nat→Bool} {wr u u':World} {f:Int} {F:FC} {a0 a1 a2 a3 b0 b1 b2 b3:Nat} {t7 t8 t9 s21 s22 s23 s24 s25 s26 s27:Value}
theorem R3.start (wr:World) (f:Int) (F:FC) (a0 a1 a2 a3 b0 b1 b2 b3:Nat):R3 (fun _=>false) wr f F a0 a1 a2 a3 b0 b1 b2 b3 undef undef undef undef undef undef undef undef undef undef wr.drew :=
 ⟨(Below.refl _ _).drew,fun h=>Bool.noConfusion h,fun h=>Bool.noConfusion h,fun h=>Bool.noConfusion h,fun h=>Bool.noConfusion h,fun h=>Bool.noConfusion h,fun h=>Bool.noConfusion h,fun h=>Bool.noConfusion h,fun h=>Bool.noConfusion h,fun h=>Bool.noConfusion h,fun h=>Bool.noConfusion h,fun h=>Bool.noConfusion h,fun h=>Bool.noConfusion h,fun h=>Bool.noConfusion h⟩
theorem R3.op0 (h:R3 got wr f F a0 a1 a2 a3 b0 b1 b2 b3 t7 t8 t9 s21 s22 s23 s24 s25 s26 s27 u):R3 (fun j=>j==0||got j) wr f F a0 a1 a2 a3 b0 b1 b2 b3 t7 t8 t9 (.agg #[.int .u64 a0,.int .u64 a1,.int .u64 a2,.int .u64 a3]) s22 s23 s24 s25 s26 s27 u :=
 ⟨h.below,fun _=>rfl,fun e=>h.g1 (by simpa using e),fun e=>h.g2 (by simpa using e),fun e=>h.g3 (by simpa using e),fun e=>h.g4 (by simpa using e),fun e=>h.g5 (by simpa using e),fun e=>h.g6 (by simpa using e),fun e=>h.g7 (by simpa using e),fun e=>h.g8 (by simpa using e),fun e=>h.g9 (by simpa using e),fun e e'=>h.n78 (by simpa using e) (by simpa using e'),fun e e'=>h.n79 (by simpa using e) (by simpa using e'),fun e e'=>h.n89 (by simpa using e) (by simpa using e')⟩
theorem R3.op1 (h:R3 got wr f F a0 a1 a2 a3 b0 b1 b2 b3 t7 t8 t9 s21 s22 s23 s24 s25 s26 s27 u) {x:Value} (hx:vM (aC a0 a1 a2 a3) x):R3 (fun j=>j==1||got j) wr f F a0 a1 a2 a3 b0 b1 b2 b3 t7 t8 t9 s21 x s23 s24 s25 s26 s27 u :=
 ⟨h.below,fun e=>h.g0 (by simpa using e),fun _=>hx,fun e=>h.g2 (by simpa using e),fun e=>h.g3 (by simpa using e),fun e=>h.g4 (by simpa using e),fun e=>h.g5 (by simpa using e),fun e=>h.g6 (by simpa using e),fun e=>h.g7 (by simpa using e),fun e=>h.g8 (by simpa using e),fun e=>h.g9 (by simpa using e),fun e e'=>h.n78 (by simpa using e) (by simpa using e'),fun e e'=>h.n79 (by simpa using e) (by simpa using e'),fun e e'=>h.n89 (by simpa using e) (by simpa using e')⟩
theorem R3.op2 (h:R3 got wr f F a0 a1 a2 a3 b0 b1 b2 b3 t7 t8 t9 s21 s22 s23 s24 s25 s26 s27 u):R3 (fun j=>j==2||got j) wr f F a0 a1 a2 a3 b0 b1 b2 b3 t7 t8 t9 s21 s22 (.agg #[.int .u64 b0,.int .u64 b1,.int .u64 b2,.int .u64 b3]) s24 s25 s26 s27 u :=
 ⟨h.below,fun e=>h.g0 (by simpa using e),fun e=>h.g1 (by simpa using e),fun _=>rfl,fun e=>h.g3 (by simpa using e),fun e=>h.g4 (by simpa using e),fun e=>h.g5 (by simpa using e),fun e=>h.g6 (by simpa using e),fun e=>h.g7 (by simpa using e),fun e=>h.g8 (by simpa using e),fun e=>h.g9 (by simpa using e),fun e e'=>h.n78 (by simpa using e) (by simpa using e'),fun e e'=>h.n79 (by simpa using e) (by simpa using e'),fun e e'=>h.n89 (by simpa using e) (by simpa using e')⟩
theorem R3.op3 (h:R3 got wr f F a0 a1 a2 a3 b0 b1 b2 b3 t7 t8 t9 s21 s22 s23 s24 s25 s26 s27 u) {x:Value} (hx:vM (aC b0 b1 b2 b3) x):R3 (fun j=>j==3||got j) wr f F a0 a1 a2 a3 b0 b1 b2 b3 t7 t8 t9 s21 s22 s23 x s25 s26 s27 u :=
 ⟨h.below,fun e=>h.g0 (by simpa using e),fun e=>h.g1 (by simpa using e),fun e=>h.g2 (by simpa using e),fun _=>hx,fun e=>h.g4 (by simpa using e),fun e=>h.g5 (by simpa using e),fun e=>h.g6 (by simpa using e),fun e=>h.g7 (by simpa using e),fun e=>h.g8 (by simpa using e),fun e=>h.g9 (by simpa using e),fun e e'=>h.n78 (by simpa using e) (by simpa using e'),fun e e'=>h.n79 (by simpa using e) (by simpa using e'),fun e e'=>h.n89 (by simpa using e) (by simpa using e')⟩
theorem R3.op4 (h:R3 got wr f F a0 a1 a2 a3 b0 b1 b2 b3 t7 t8 t9 s21 s22 s23 s24 s25 s26 s27 u):R3 (fun j=>j==4||got j) wr f F a0 a1 a2 a3 b0 b1 b2 b3 t7 t8 t9 s21 s22 s23 s24 (.int .i64 f) s26 s27 u :=
 ⟨h.below,fun e=>h.g0 (by simpa using e),fun e=>h.g1 (by simpa using e),fun e=>h.g2 (by simpa using e),fun e=>h.g3 (by simpa using e),fun _=>rfl,fun e=>h.g5 (by simpa using e),fun e=>h.g6 (by simpa using e),fun e=>h.g7 (by simpa using e),fun e=>h.g8 (by simpa using e),fun e=>h.g9 (by simpa using e),fun e e'=>h.n78 (by simpa using e) (by simpa using e'),fun e e'=>h.n79 (by simpa using e) (by simpa using e'),fun e e'=>h.n89 (by simpa using e) (by simpa using e')⟩
theorem R3.op5 (h:R3 got wr f F a0 a1 a2 a3 b0 b1 b2 b3 t7 t8 t9 s21 s22 s23 s24 s25 s26 s27 u):R3 (fun j=>j==5||got j) wr f F a0 a1 a2 a3 b0 b1 b2 b3 t7 t8 t9 s21 s22 s23 s24 s25 (.agg #[.int .u64 F.m0,.int .u64 F.m1,.int .u64 F.m2,.int .u64 F.m3]) s27 u :=
 ⟨h.below,fun e=>h.g0 (by simpa using e),fun e=>h.g1 (by simpa using e),fun e=>h.g2 (by simpa using e),fun e=>h.g3 (by simpa using e),fun e=>h.g4 (by simpa using e),fun _=>rfl,fun e=>h.g6 (by simpa using e),fun e=>h.g7 (by simpa using e),fun e=>h.g8 (by simpa using e),fun e=>h.g9 (by simpa using e),fun e e'=>h.n78 (by simpa using e) (by simpa using e'),fun e e'=>h.n79 (by simpa using e) (by simpa using e'),fun e e'=>h.n89 (by simpa using e) (by simpa using e')⟩
theorem R3.op6 (h:R3 got wr f F a0 a1 a2 a3 b0 b1 b2 b3 t7 t8 t9 s21 s22 s23 s24 s25 s26 s27 u) {x:Value} (hx:vM F.M x):R3 (fun j=>j==6||got j) wr f F a0 a1 a2 a3 b0 b1 b2 b3 t7 t8 t9 s21 s22 s23 s24 s25 s26 x u :=
 ⟨h.below,fun e=>h.g0 (by simpa using e),fun e=>h.g1 (by simpa using e),fun e=>h.g2 (by simpa using e),fun e=>h.g3 (by simpa using e),fun e=>h.g4 (by simpa using e),fun e=>h.g5 (by simpa using e),fun _=>hx,fun e=>h.g7 (by simpa using e),fun e=>h.g8 (by simpa using e),fun e=>h.g9 (by simpa using e),fun e e'=>h.n78 (by simpa using e) (by simpa using e'),fun e e'=>h.n79 (by simpa using e) (by simpa using e'),fun e e'=>h.n89 (by simpa using e) (by simpa using e')⟩
theorem R3.grow (h:R3 got wr f F a0 a1 a2 a3 b0 b1 b2 b3 t7 t8 t9 s21 s22 s23 s24 s25 s26 s27 u) (hb:Below u.heap.size u u'):R3 got wr f F a0 a1 a2 a3 b0 b1 b2 b3 t7 t8 t9 s21 s22 s23 s24 s25 s26 s27 u' :=
 ⟨h.below.trans (hb.mono h.below.size),h.g0,h.g1,h.g2,h.g3,h.g4,h.g5,h.g6,fun e=>(h.g7 e).grow hb,fun e=>(h.g8 e).grow hb,fun e=>(h.g9 e).grow hb,h.n78,h.n79,h.n89⟩
theorem R3.op7 (h:R3 got wr f F a0 a1 a2 a3 b0 b1 b2 b3 t7 t8 t9 s21 s22 s23 s24 s25 s26 s27 u) (t:TypeId):R3 (fun j=>j==7||got j) wr f F a0 a1 a2 a3 b0 b1 b2 b3 (.pointer (some ⟨u.heap.size,0,none⟩)) t8 t9 s21 s22 s23 s24 s25 s26 s27 (u.alloc (.cells #[.int .u64 0,.int .u64 0,.int .u64 0,.int .u64 0,.int .u64 0,.int .u64 0,.int .u64 0,.int .u64 0] t)) :=
 ⟨h.below.alloc h.below.size _,fun e=>h.g0 (by simpa using e),fun e=>h.g1 (by simpa using e),fun e=>h.g2 (by simpa using e),fun e=>h.g3 (by simpa using e),fun e=>h.g4 (by simpa using e),fun e=>h.g5 (by simpa using e),fun e=>h.g6 (by simpa using e),fun _=>oX wr u h.below.size t,fun e=>(h.g8 (by simpa using e)).grow (fF _ _),fun e=>(h.g9 (by simpa using e)).grow (fF _ _),fun _ e=>(iZ (h.g8 (by simpa using e))).symm,fun _ e=>(iZ (h.g9 (by simpa using e))).symm,fun e e'=>h.n89 (by simpa using e) (by simpa using e')⟩
theorem R3.op8 (h:R3 got wr f F a0 a1 a2 a3 b0 b1 b2 b3 t7 t8 t9 s21 s22 s23 s24 s25 s26 s27 u) (t:TypeId):R3 (fun j=>j==8||got j) wr f F a0 a1 a2 a3 b0 b1 b2 b3 t7 (.pointer (some ⟨u.heap.size,0,none⟩)) t9 s21 s22 s23 s24 s25 s26 s27 (u.alloc (.cells #[.int .u64 0,.int .u64 0,.int .u64 0,.int .u64 0,.int .u64 0,.int .u64 0,.int .u64 0,.int .u64 0] t)) :=
 ⟨h.below.alloc h.below.size _,fun e=>h.g0 (by simpa using e),fun e=>h.g1 (by simpa using e),fun e=>h.g2 (by simpa using e),fun e=>h.g3 (by simpa using e),fun e=>h.g4 (by simpa using e),fun e=>h.g5 (by simpa using e),fun e=>h.g6 (by simpa using e),fun e=>(h.g7 (by simpa using e)).grow (fF _ _),fun _=>oX wr u h.below.size t,fun e=>(h.g9 (by simpa using e)).grow (fF _ _),fun e _=>iZ (h.g7 (by simpa using e)),fun e e'=>h.n79 (by simpa using e) (by simpa using e'),fun _ e=>(iZ (h.g9 (by simpa using e))).symm⟩
theorem R3.op9 (h:R3 got wr f F a0 a1 a2 a3 b0 b1 b2 b3 t7 t8 t9 s21 s22 s23 s24 s25 s26 s27 u) (t:TypeId):R3 (fun j=>j==9||got j) wr f F a0 a1 a2 a3 b0 b1 b2 b3 t7 t8 (.pointer (some ⟨u.heap.size,0,none⟩)) s21 s22 s23 s24 s25 s26 s27 (u.alloc (.cells #[.int .u64 0,.int .u64 0,.int .u64 0,.int .u64 0,.int .u64 0,.int .u64 0,.int .u64 0,.int .u64 0] t)) :=
 ⟨h.below.alloc h.below.size _,fun e=>h.g0 (by simpa using e),fun e=>h.g1 (by simpa using e),fun e=>h.g2 (by simpa using e),fun e=>h.g3 (by simpa using e),fun e=>h.g4 (by simpa using e),fun e=>h.g5 (by simpa using e),fun e=>h.g6 (by simpa using e),fun e=>(h.g7 (by simpa using e)).grow (fF _ _),fun e=>(h.g8 (by simpa using e)).grow (fF _ _),fun _=>oX wr u h.below.size t,fun e e'=>h.n78 (by simpa using e) (by simpa using e'),fun e _=>iZ (h.g7 (by simpa using e)),fun e _=>iZ (h.g8 (by simpa using e))⟩
end
structure ThreeH (wr u:World) (p q r:Nat) (X Y Z:Nat→Nat) (A B M:Nat):Prop where
 below:Below wr.heap.size wr u
 lp:wr.heap.size≤p
 lq:wr.heap.size≤q
 lr:wr.heap.size≤r
 up:p<u.heap.size
 uq:q<u.heap.size
 ur:r<u.heap.size
 pq:p≠q
 pr:p≠r
 qr:q≠r
 rowX:RowIs u p 8 X
 rowY:RowIs u q 8 Y
 rowZ:RowIs u r 8 Z
 ltX:∀k,X k<4294967296
 ltY:∀k,Y k<4294967296
 ltZ:∀k,Z k<4294967296
 eX:cR 4294967296 X 8=A
 eY:cR 4294967296 Y 8=B
 eZ:cR 4294967296 Z 8=M
theorem DZ {p q:Nat} (h:(Value.pointer (some ⟨p,0,none⟩)) ≠ .pointer (some ⟨q,0,none⟩)):p≠q:=fun e=>h (by rw[e])
theorem ThreeH.store {wr u:World} {p q r A B M x0 x1 x2 x3 x4 x5 x6 x7 y0 y1 y2 y3 y4 y5 y6 y7 z0 z1 z2 z3 z4 z5 z6 z7:Nat} (hx:Li x0 x1 x2 x3 x4 x5 x6 x7) (hy:Li y0 y1 y2 y3 y4 y5 y6 y7) (hz:Li z0 z1 z2 z3 z4 z5 z6 z7) (ex:Hid (yG x0 x1 x2 x3 x4 x5 x6 x7=A)) (ey:Hid (yG y0 y1 y2 y3 y4 y5 y6 y7=B)) (ez:Hid (yG z0 z1 z2 z3 z4 z5 z6 z7=M))
  (lp:wr.heap.size≤p) (lq:wr.heap.size≤q) (lr:wr.heap.size≤r) (up:p<u.heap.size) (uq:q<u.heap.size) (ur:r<u.heap.size) (pq:p≠q) (pr:p≠r) (qr:q≠r) (rp:RowIs u p 8 (fun _=>0)) (rq:RowIs u q 8 (fun _=>0)) (rr:RowIs u r 8 (fun _=>0)) (hbl:Below wr.heap.size wr u) :
  ThreeH wr (set8 (set8 (set8 u p x0 x1 x2 x3 x4 x5 x6 x7) q y0 y1 y2 y3 y4 y5 y6 y7) r z0 z1 z2 z3 z4 z5 z6 z7) p q r (dX [x0,x1,x2,x3,x4,x5,x6,x7]) (dX [y0,y1,y2,y3,y4,y5,y6,y7]) (dX [z0,z1,z2,z3,z4,z5,z6,z7]) A B M :=
 ⟨mX (mX (mX hbl lp _ _ _ _ _ _ _ _) lq _ _ _ _ _ _ _ _) lr _ _ _ _ _ _ _ _,lp,lq,lr,by rw[eD,eD,eD]; exact up,by rw[eD,eD,eD]; exact uq,by rw[eD,eD,eD]; exact ur,pq,pr,qr,
  ((rp.set8 _ _ _ _ _ _ _ _).set8_other (fun e=>pq e.symm) _ _ _ _ _ _ _ _).set8_other (fun e=>pr e.symm) _ _ _ _ _ _ _ _,((rq.set8_other pq _ _ _ _ _ _ _ _).set8 _ _ _ _ _ _ _ _).set8_other (fun e=>qr e.symm) _ _ _ _ _ _ _ _,((rr.set8_other pr _ _ _ _ _ _ _ _).set8_other qr _ _ _ _ _ _ _ _).set8 _ _ _ _ _ _ _ _,sP hx,sP hy,sP hz,
  (qK (dX [x0,x1,x2,x3,x4,x5,x6,x7])).symm.trans ex.out,(qK (dX [y0,y1,y2,y3,y4,y5,y6,y7])).symm.trans ey.out,(qK (dX [z0,z1,z2,z3,z4,z5,z6,z7])).symm.trans ez.out⟩
def EW (f:Int) (a0 a1 a2 a3 b0 b1 b2 b3 g4 g5:Nat) (v6 t7 t8 t9 s21 s22 s23 s24 s25 s26 s27:Value):Act:={ tmps:=#[.int .i64 f,.agg #[.int .u64 a0,.int .u64 a1,.int .u64 a2,.int .u64 a3],.agg #[.int .u64 b0,.int .u64 b1,.int .u64 b2,.int .u64 b3],undef,.pointer (some ⟨g4,0,none⟩),.pointer (some ⟨g5,0,none⟩),v6,t7,t8,t9,undef,undef,undef,undef,undef,undef,undef,undef,undef,undef,undef,s21,s22,s23,s24,s25,s26,s27,undef,undef,undef,undef,undef,undef,undef,undef,undef,undef,undef,undef,undef,undef,undef,undef,undef,undef,undef,undef,undef,undef,undef,undef,undef,undef,undef,undef,undef,undef,undef,undef,undef,undef,undef,undef,undef,undef,undef,undef,undef,undef,undef,undef,undef,undef,undef,undef,undef,undef,undef,undef,undef,undef,undef,undef,undef,undef,undef,undef,undef,undef,undef,undef,undef,undef,undef,undef,undef,undef,undef,undef,undef,undef,undef,undef,undef,undef,undef,undef,undef,undef,undef,undef,undef,undef,undef,undef,undef,undef,undef,undef,undef,undef,undef,undef,undef,undef,undef,undef,undef,undef,undef,undef,undef,undef,undef,undef,undef,undef,undef,undef,undef,undef,undef,undef,undef,undef,undef],defers:=[] }
def IY (pos:String):List Oper:=[
  { dst:=some 21,op:=Op.load 52 (Operand.tmp 4),type:=52,pos:=pos,after:=#[],guard:=none },
  { dst:=some 22,op:=Op.call { callee:=Callee.value (Operand.func 67),args:=#[Operand.tmp 21],argTypes:=#[52] },type:=102,pos:=pos,after:=#[{ on:=0,ground:=Ground.data }],guard:=none },
  { dst:=some 23,op:=Op.load 52 (Operand.tmp 5),type:=52,pos:=pos,after:=#[],guard:=none },
  { dst:=some 24,op:=Op.call { callee:=Callee.value (Operand.func 67),args:=#[Operand.tmp 23],argTypes:=#[52] },type:=102,pos:=pos,after:=#[{ on:=2,ground:=Ground.data },{ on:=1,ground:=Ground.chain }],guard:=none },
  { dst:=some 25,op:=Op.move (Operand.tmp 0),type:=3,pos:=pos,after:=#[],guard:=none },
  { dst:=some 26,op:=Op.call { callee:=Callee.value (Operand.func 23),args:=#[Operand.tmp 25],argTypes:=#[3] },type:=52,pos:=pos,after:=#[{ on:=4,ground:=Ground.data },{ on:=3,ground:=Ground.chain }],guard:=none },
  { dst:=some 27,op:=Op.call { callee:=Callee.value (Operand.func 67),args:=#[Operand.tmp 26],argTypes:=#[52] },type:=102,pos:=pos,after:=#[{ on:=5,ground:=Ground.data },{ on:=5,ground:=Ground.chain }],guard:=none },
  { dst:=some 7,op:=Op.alloc 102,type:=0,pos:=pos,after:=#[],guard:=none },
  { dst:=some 8,op:=Op.alloc 102,type:=0,pos:=pos,after:=#[],guard:=none },
  { dst:=some 9,op:=Op.alloc 102,type:=0,pos:=pos,after:=#[],guard:=none },
  { dst:=none,op:=Op.store 102 (Operand.tmp 7) (Operand.tmp 22),type:=0,pos:=pos,after:=#[{ on:=7,ground:=Ground.data },{ on:=1,ground:=Ground.data },{ on:=6,ground:=Ground.chain },{ on:=0,ground:=Ground.phase },{ on:=1,ground:=Ground.phase },{ on:=2,ground:=Ground.textOnly Departure.lateStores },{ on:=3,ground:=Ground.textOnly Departure.lateStoresUnsure },{ on:=4,ground:=Ground.textOnly Departure.lateStores },{ on:=5,ground:=Ground.textOnly Departure.lateStoresUnsure },{ on:=6,ground:=Ground.textOnly Departure.lateStoresUnsure },{ on:=7,ground:=Ground.phase },{ on:=8,ground:=Ground.phase },{ on:=9,ground:=Ground.phase }],guard:=none },
  { dst:=none,op:=Op.store 102 (Operand.tmp 8) (Operand.tmp 24),type:=0,pos:=pos,after:=#[{ on:=8,ground:=Ground.data },{ on:=3,ground:=Ground.data },{ on:=10,ground:=Ground.chain },{ on:=0,ground:=Ground.phase },{ on:=1,ground:=Ground.phase },{ on:=2,ground:=Ground.phase },{ on:=3,ground:=Ground.phase },{ on:=4,ground:=Ground.textOnly Departure.lateStores },{ on:=5,ground:=Ground.textOnly Departure.lateStoresUnsure },{ on:=6,ground:=Ground.textOnly Departure.lateStoresUnsure },{ on:=7,ground:=Ground.phase },{ on:=8,ground:=Ground.phase },{ on:=9,ground:=Ground.phase },{ on:=10,ground:=Ground.phase }],guard:=none },
  { dst:=none,op:=Op.store 102 (Operand.tmp 9) (Operand.tmp 27),type:=0,pos:=pos,after:=#[{ on:=9,ground:=Ground.data },{ on:=6,ground:=Ground.data },{ on:=11,ground:=Ground.chain },{ on:=0,ground:=Ground.phase },{ on:=1,ground:=Ground.phase },{ on:=2,ground:=Ground.phase },{ on:=3,ground:=Ground.phase },{ on:=4,ground:=Ground.phase },{ on:=5,ground:=Ground.phase },{ on:=6,ground:=Ground.phase },{ on:=7,ground:=Ground.phase },{ on:=8,ground:=Ground.phase },{ on:=9,ground:=Ground.phase },{ on:=10,ground:=Ground.phase },{ on:=11,ground:=Ground.phase }],guard:=none }]
set_option maxHeartbeats 4000000 in
theorem vR (f:Int) (F:FC) (hf:FieldIs f F) (a0 a1 a2 a3 b0 b1 b2 b3:Nat) (ha:bY a0 a1 a2 a3) (hb:bY b0 b1 b2 b3) (g4 g5:Nat) (v6:Value) (wr:World) (rA:Row4 wr g4 a0 a1 a2 a3) (rB:Row4 wr g5 b0 b1 b2 b3) (lA:g4<wr.heap.size) (lB:g5<wr.heap.size) {Q:Exit→Act→World→Prop} {pos:String} {id:Nat}
  (next:∀(p q r:Nat) (X Y Z:Nat→Nat) (s21 s22 s23 s24 s25 s26 s27:Value) (u:World),ThreeH wr u p q r X Y Z (aC a0 a1 a2 a3) (aC b0 b1 b2 b3) F.M→Q .normal (EW f a0 a1 a2 a3 b0 b1 b2 b3 g4 g5 v6 (.pointer (some ⟨p,0,none⟩)) (.pointer (some ⟨q,0,none⟩)) (.pointer (some ⟨r,0,none⟩)) s21 s22 s23 s24 s25 s26 s27) u) :
  (Code.region id (IY pos).toArray true).wp prog Q (EW f a0 a1 a2 a3 b0 b1 b2 b3 g4 g5 v6 undef undef undef undef undef undef undef undef undef undef) wr:=by
 unfold IY;refine zH 10 (fun got b u=>∃t7 t8 t9 s21 s22 s23 s24 s25 s26 s27:Value,b=EW f a0 a1 a2 a3 b0 b1 b2 b3 g4 g5 v6 t7 t8 t9 s21 s22 s23 s24 s25 s26 s27∧R3 got wr f F a0 a1 a2 a3 b0 b1 b2 b3 t7 t8 t9 s21 s22 s23 s24 s25 s26 s27 u) (by kernel_rfl) (by simp) (by kernel_rfl) (by kernel_rfl) (by kernel_rfl) (by kernel_rfl) ?_ ?_ ?_
 ·exact⟨undef,undef,undef,undef,undef,undef,undef,undef,undef,undef,rfl,R3.start wr f F a0 a1 a2 a3 b0 b1 b2 b3⟩
 ·rintro got b u i hi h0 hr ⟨t7,t8,t9,s21,s22,s23,s24,s25,s26,s27,rfl,H⟩
  match i,hi with
  | 0,_ =>
   obtain⟨k0,k1,k2,k3,kf⟩:=rA.below H.below lA;have HH:=Lib.hid H;clear H hr;refine wpOp_step rfl fun K hK => ?_
   unfold EW;go_simp;exact hK _ _ ⟨_,_,_,_,_,_,_,_,_,_,rfl,HH.out.op0⟩
  | 1,_ =>
   have e0:got 0=true:=lP (e:={ on:=0,ground:=Ground.data }) hr rfl (by simp) rfl;obtain rfl:=H.g0 e0;have HH:=Lib.hid H;clear H hr;refine wpOp_step rfl fun K hK => ?_
   unfold EW;go_simp;refine (jK a0 a1 a2 a3 ha _).mono ?_
   rintro e u' ⟨x0,x1,x2,x3,x4,x5,x6,x7,rfl,hx,ex,hbl⟩
   exact hK _ _ ⟨_,_,_,_,_,_,_,_,_,_,rfl,(HH.out.grow hbl).op1 ⟨x0,x1,x2,x3,x4,x5,x6,x7,rfl,hx,ex⟩⟩
  | 2,_ =>
   obtain⟨k0,k1,k2,k3,kf⟩:=rB.below H.below lB;have HH:=Lib.hid H;clear H hr;refine wpOp_step rfl fun K hK => ?_
   unfold EW;go_simp;exact hK _ _ ⟨_,_,_,_,_,_,_,_,_,_,rfl,HH.out.op2⟩
  | 3,_ =>
   have e2:got 2=true:=lP (e:={ on:=2,ground:=Ground.data }) hr rfl (by simp) rfl;obtain rfl:=H.g2 e2;have HH:=Lib.hid H;clear H hr;refine wpOp_step rfl fun K hK => ?_
   unfold EW;go_simp;refine (jK b0 b1 b2 b3 hb _).mono ?_
   rintro e u' ⟨x0,x1,x2,x3,x4,x5,x6,x7,rfl,hx,ex,hbl⟩
   exact hK _ _ ⟨_,_,_,_,_,_,_,_,_,_,rfl,(HH.out.grow hbl).op3 ⟨x0,x1,x2,x3,x4,x5,x6,x7,rfl,hx,ex⟩⟩
  | 4,_ =>
   have HH:=Lib.hid H;clear H hr;refine wpOp_step rfl fun K hK => ?_
   unfold EW;go_simp;exact hK _ _ ⟨_,_,_,_,_,_,_,_,_,_,rfl,HH.out.op4⟩
  | 5,_ =>
   have e4:got 4=true:=lP (e:={ on:=4,ground:=Ground.data }) hr rfl (by simp) rfl;obtain rfl:=H.g4 e4;have HH:=Lib.hid H;clear H hr;refine wpOp_step rfl fun K hK => ?_
   unfold EW;go_simp;refine (lO f F hf _).mono ?_
   rintro e u' ⟨rfl,hbl⟩
   exact hK _ _ ⟨_,_,_,_,_,_,_,_,_,_,rfl,(HH.out.grow hbl).op5⟩
  | 6,_ =>
   have e5:got 5=true:=lP (e:={ on:=5,ground:=Ground.data }) hr rfl (by simp) rfl;obtain rfl:=H.g5 e5;have HH:=Lib.hid H;clear H hr;refine wpOp_step rfl fun K hK => ?_
   unfold EW;go_simp;refine (jK F.m0 F.m1 F.m2 F.m3 hf.ok.okm _).mono ?_
   rintro e u' ⟨x0,x1,x2,x3,x4,x5,x6,x7,rfl,hx,ex,hbl⟩
   exact hK _ _ ⟨_,_,_,_,_,_,_,_,_,_,rfl,(HH.out.grow hbl).op6 ⟨x0,x1,x2,x3,x4,x5,x6,x7,rfl,hx,ex⟩⟩
  | 7,_ =>
   have HH:=Lib.hid H;clear H hr;refine wpOp_step rfl fun K hK => ?_
   unfold EW;go_simp;exact hK _ _ ⟨_,_,_,_,_,_,_,_,_,_,rfl,HH.out.op7 _⟩
  | 8,_ =>
   have HH:=Lib.hid H;clear H hr;refine wpOp_step rfl fun K hK => ?_
   unfold EW;go_simp;exact hK _ _ ⟨_,_,_,_,_,_,_,_,_,_,rfl,HH.out.op8 _⟩
  | 9,_ =>
   have HH:=Lib.hid H;clear H hr;refine wpOp_step rfl fun K hK => ?_
   unfold EW;go_simp;exact hK _ _ ⟨_,_,_,_,_,_,_,_,_,_,rfl,HH.out.op9 _⟩
 ·rintro got b u hall ⟨t7,t8,t9,s21,s22,s23,s24,s25,s26,s27,rfl,H⟩
  obtain⟨x0,x1,x2,x3,x4,x5,x6,x7,rfl,hx,ex⟩:=H.g1 (hall 1 (by omega));obtain⟨y0,y1,y2,y3,y4,y5,y6,y7,rfl,hy,ey⟩:=H.g3 (hall 3 (by omega));obtain⟨z0,z1,z2,z3,z4,z5,z6,z7,rfl,hz,ez⟩:=H.g6 (hall 6 (by omega));obtain⟨p,rfl,lp,up,rp⟩:=H.g7 (hall 7 (by omega));obtain⟨q,rfl,lq,uq,rq⟩:=H.g8 (hall 8 (by omega));obtain⟨r,rfl,lr,ur,rr⟩:=H.g9 (hall 9 (by omega));have pq:=DZ (H.n78 (hall 7 (by omega)) (hall 8 (by omega)));have pr:=DZ (H.n79 (hall 7 (by omega)) (hall 9 (by omega)));have qr:=DZ (H.n89 (hall 8 (by omega)) (hall 9 (by omega)));have HF:=Lib.hid (ThreeH.store hx hy hz ex ey ez lp lq lr up uq ur pq pr qr rp rq rr H.below);have cp0:=rp.cell (show 0<8 by omega); have fp0:=rp.free (show 0<8 by omega); have cp1:=rp.cell (show 1<8 by omega); have fp1:=rp.free (show 1<8 by omega); have cp2:=rp.cell (show 2<8 by omega); have fp2:=rp.free (show 2<8 by omega); have cp3:=rp.cell (show 3<8 by omega); have fp3:=rp.free (show 3<8 by omega); have cp4:=rp.cell (show 4<8 by omega); have fp4:=rp.free (show 4<8 by omega); have cp5:=rp.cell (show 5<8 by omega); have fp5:=rp.free (show 5<8 by omega); have cp6:=rp.cell (show 6<8 by omega); have fp6:=rp.free (show 6<8 by omega); have cp7:=rp.cell (show 7<8 by omega); have fp7:=rp.free (show 7<8 by omega);have cq0:=rq.cell (show 0<8 by omega); have fq0:=rq.free (show 0<8 by omega); have cq1:=rq.cell (show 1<8 by omega); have fq1:=rq.free (show 1<8 by omega); have cq2:=rq.cell (show 2<8 by omega); have fq2:=rq.free (show 2<8 by omega); have cq3:=rq.cell (show 3<8 by omega); have fq3:=rq.free (show 3<8 by omega); have cq4:=rq.cell (show 4<8 by omega); have fq4:=rq.free (show 4<8 by omega); have cq5:=rq.cell (show 5<8 by omega); have fq5:=rq.free (show 5<8 by omega); have cq6:=rq.cell (show 6<8 by omega); have fq6:=rq.free (show 6<8 by omega); have cq7:=rq.cell (show 7<8 by omega); have fq7:=rq.free (show 7<8 by omega);have cr0:=rr.cell (show 0<8 by omega); have fr0:=rr.free (show 0<8 by omega); have cr1:=rr.cell (show 1<8 by omega); have fr1:=rr.free (show 1<8 by omega); have cr2:=rr.cell (show 2<8 by omega); have fr2:=rr.free (show 2<8 by omega); have cr3:=rr.cell (show 3<8 by omega); have fr3:=rr.free (show 3<8 by omega); have cr4:=rr.cell (show 4<8 by omega); have fr4:=rr.free (show 4<8 by omega); have cr5:=rr.cell (show 5<8 by omega); have fr5:=rr.free (show 5<8 by omega); have cr6:=rr.cell (show 6<8 by omega); have fr6:=rr.free (show 6<8 by omega); have cr7:=rr.cell (show 7<8 by omega); have fr7:=rr.free (show 7<8 by omega);have qp:¬q=p:=fun e=>pq e.symm
  have rp':¬r=p:=fun e=>pr e.symm
  have rq':¬r=q:=fun e=>qr e.symm
  have pq':¬p=q:=pq;have pr':¬p=r:=pr;have qr':¬q=r:=qr;clear H hx hy hz ex ey ez lp lq lr up uq ur rp rq rr hall rA rB pq pr qr;unfold EW;refine wpList_step fun K hK => ?_
  go_simp;refine hK _ _ ?_;refine wpList_step fun K2 hK2 => ?_
  go_simp;refine hK2 _ _ ?_;refine wpList_step fun K3 hK3 => ?_
  go_simp;refine hK3 _ _ ?_;refine wpList_nil ?_;exact next _ _ _ _ _ _ _ _ _ _ _ _ _ _ HF.out
def NJ (M A:Nat) (Y P:Nat→Nat) (k:Nat):Prop:=cR 4294967296 P 9<2*M∧∃Q,cR 4294967296 P 9*4294967296^k=A*cR 4294967296 Y k+Q*M
theorem LR (M A:Nat) (Y P:Nat→Nat) (hM:0<M) (hP:∀k,P k=0):NJ M A Y P 0:=by
 have h:cR 4294967296 P 9=0:=yJ _ _ hP 9;exact⟨by rw[h]; omega,0,by rw[h]; simp[cR]⟩
theorem LS {M A:Nat} {Y P N:Nat→Nat} {k q:Nat} (h:NJ M A Y P k) (hA:A<M) (hY:Y k<4294967296) (hq:q<4294967296)
  (e:4294967296*cR 4294967296 N 9=cR 4294967296 P 9+A*Y k+q*M):NJ M A Y N (k+1):=by
 obtain⟨hT,Q,hQ⟩:=h;refine⟨?_,Q+q*4294967296^k,?_⟩
 ·have h1:=Nat.mul_le_mul (show A≤M by omega) (show Y k≤4294967295 by omega);have h2:=Nat.mul_le_mul_right M (show q≤4294967295 by omega);generalize A*Y k=x at *;generalize q*M=y at *;omega
 ·rw[Nat.pow_succ,←Nat.mul_assoc,Nat.mul_right_comm,Nat.mul_comm _ 4294967296,e,Nat.add_mul,Nat.add_mul,hQ,bJ,Nat.mul_add,Nat.add_mul];have e1:A*Y k*4294967296^k=A*(Y k*4294967296^k):=Nat.mul_assoc _ _ _;have e2:q*M*4294967296^k=q*4294967296^k*M:=Nat.mul_right_comm _ _ _;omega
theorem QU {X P:Nat→Nat} {y j c l h T0:Nat} (hj:j<8) (h1:cR 4294967296 P 9+c*4294967296^j=T0+cR 4294967296 X j*y) (e:l+4294967296*h=P j+X j*y+c) :
  cR 4294967296 (dJ P j l) 9+h*4294967296^(j+1)=T0+cR 4294967296 X (j+1)*y:=by
 have:=DJ (B:=4294967296) (P:=P) (n:=9) (k:=j) (x:=X j*y) (o:=c) (d:=l) (o':=h) (T:=T0+cR 4294967296 X j*y) (by omega) (by omega) h1;rw[this,bJ,Nat.add_mul,Nat.mul_right_comm (X j)];omega
theorem ZP {X P:Nat→Nat} {y c l h T0:Nat} (h1:cR 4294967296 P 9+c*4294967296^8=T0+cR 4294967296 X 8*y) (e:l+4294967296*h=P 8+c) :
  cR 4294967296 (dJ (dJ P 8 l) 9 h) 10=T0+cR 4294967296 X 8*y:=by
 have e1:cR 4294967296 (dJ (dJ P 8 l) 9 h) 10=cR 4294967296 P 8+l*4294967296^8+h*4294967296^9:=by
  rw[bJ,dW _ _ 9 h 9 (Nat.le_refl _),bJ,dW _ _ 8 l 8 (Nat.le_refl _)];have u1:dJ P 8 l 8=l:=by unfold dJ; rw[if_pos rfl]
  have u2:dJ (dJ P 8 l) 9 h 9=h:=by unfold dJ; rw[if_pos rfl]
  rw[u1,u2]
 have e2:cR 4294967296 P 9=cR 4294967296 P 8+P 8*4294967296^8:=bJ _ _ _;rw[e1];rw[e2]at h1;have e3:(4294967296:Nat)^9=4294967296^8*4294967296:=by rfl
 have e4:l*4294967296^8+h*4294967296^9=(l+4294967296*h)*4294967296^8:=by
  rw[e3,Nat.add_mul,Nat.mul_comm (4294967296^8) 4294967296,←Nat.mul_assoc,Nat.mul_comm h 4294967296]
 rw[e]at e4;rw[Nat.add_mul]at e4;generalize (4294967296:Nat)^8=B8 at *;generalize (4294967296:Nat)^9=B9 at *;omega
def VJ (U Z P:Nat→Nat) (q j c:Nat):Prop:=(∀k,j≤k→P k=U k)∧4294967296*(cR 4294967296 P (j-1)+c*4294967296^(j-1))=cR 4294967296 U j+q*cR 4294967296 Z j
theorem CZ {U Z:Nat→Nat} {q c:Nat} (e:4294967296*c=U 0+q*Z 0):VJ U Z U q 1 c:=by
 refine⟨fun _ _=>rfl,?_⟩;simp[cR];omega
theorem KX {U Z P:Nat→Nat} {q j c l h:Nat} (h1:1≤j) (t:VJ U Z P q j c) (e:l+4294967296*h=U j+q*Z j+c):VJ U Z (dJ P (j-1) l) q (j+1) h:=by
 obtain⟨k1,k2⟩:=t;obtain⟨i,rfl⟩:∃i,j=i+1:=⟨j-1,by omega⟩
 rw[show i+1-1=i by omega]at *;refine⟨fun k hk=>by unfold dJ; rw[if_neg (by omega)]; exact k1 k (by omega),?_⟩;rw[show i+1+1-1=i+1 by omega,bJ,dW _ _ i l i (Nat.le_refl _),show dJ P i l i=l by unfold dJ; rw[if_pos rfl],bJ _ U (i+1),bJ _ Z (i+1)];have e1:(l+4294967296*h)*4294967296^i=(U (i+1)+q*Z (i+1)+c)*4294967296^i:=by rw[e]
 simp only[Nat.add_mul]at e1;rw[Nat.pow_succ];rw[Nat.mul_add]at k2;simp only[Nat.mul_add];have f1:4294967296*(h*(4294967296^i*4294967296))=4294967296*(4294967296*h*4294967296^i):=by
  congr 1; rw[Nat.mul_comm (4294967296^i) 4294967296,←Nat.mul_assoc,Nat.mul_comm h]
 have f2:U (i+1)*(4294967296^i*4294967296)=4294967296*(U (i+1)*4294967296^i):=by
  rw[←Nat.mul_assoc,Nat.mul_comm]
 have f3:q*(Z (i+1)*(4294967296^i*4294967296))=4294967296*(q*Z (i+1)*4294967296^i):=by
  rw[←Nat.mul_assoc (Z (i+1)),←Nat.mul_assoc q,Nat.mul_comm _ 4294967296,Nat.mul_assoc q]
 rw[f1,f2,f3];omega
theorem OH {U Z P:Nat→Nat} {q c l h:Nat} (t:VJ U Z P q 8 c) (e:l+4294967296*h=U 8+c):4294967296*cR 4294967296 (dJ (dJ P 7 l) 8 (U 9+h)) 9=cR 4294967296 U 10+q*cR 4294967296 Z 8:=by
 obtain⟨k1,k2⟩:=t;have e1:cR 4294967296 (dJ (dJ P 7 l) 8 (U 9+h)) 9=cR 4294967296 P 7+l*4294967296^7+(U 9+h)*4294967296^8:=by
  rw[bJ,dW _ _ 8 _ 8 (Nat.le_refl _),bJ,dW _ _ 7 l 7 (Nat.le_refl _)];have u1:dJ P 7 l 7=l:=by unfold dJ; rw[if_pos rfl]
  have u2:dJ (dJ P 7 l) 8 (U 9+h) 8=U 9+h:=by unfold dJ; rw[if_pos rfl]
  rw[u1,u2]
 rw[e1,bJ _ U 9,bJ _ U 8];rw[show 8-1=7 by rfl]at k2;have e3:(4294967296:Nat)^8=4294967296*4294967296^7:=by rfl
 have e4:(4294967296:Nat)^9=4294967296*4294967296^8:=by rfl
 have e5:(l+4294967296*h)*4294967296^7=(U 8+c)*4294967296^7:=by rw[e]
 simp only[Nat.add_mul]at e5 ⊢;simp only[Nat.mul_add]at k2 ⊢;have f1:h*4294967296^8=4294967296*h*4294967296^7:=by rw[e3,←Nat.mul_assoc,Nat.mul_comm h]
 have f2:U 9*4294967296^9=4294967296*(U 9*4294967296^8):=by rw[e4,Nat.mul_left_comm]
 have f3:U 8*4294967296^8=4294967296*(U 8*4294967296^7):=by rw[e3,Nat.mul_left_comm]
 rw[f1,f2,f3];omega
theorem RL {F:FC} (hF:F.Ok) {A:Nat} {Y P:Nat→Nat} (h:NJ F.M A Y P 8):cR 4294967296 P 9%F.M=A*cR 4294967296 Y 8*F.Ri%F.M:=by
 obtain⟨_,Q,hQ⟩:=h;generalize cR 4294967296 P 9=T at *;generalize cR 4294967296 Y 8=V at *;have hR:F.R=4294967296^8:=by simp[FC.R]
 have e:T*(F.R*F.Ri)=A*V*F.Ri+F.M*(Q*F.Ri):=by
  rw[←Nat.mul_assoc,hR,hQ,Nat.add_mul,show Q*F.M*F.Ri=F.M*(Q*F.Ri) by rw[Nat.mul_comm Q,Nat.mul_assoc]]
 have e2:T*(F.R*F.Ri)%F.M=T%F.M:=by rw[Nat.mul_mod,hF.ri,Nat.mul_one,Nat.mod_mod]
 rw[←e2,e,Nat.add_mul_mod_self_left]
theorem RK {F:FC} (hF:F.Ok) {A:Nat} {Y P:Nat→Nat} {k:Nat} (h:NJ F.M A Y P k):P 8=0∧cR 4294967296 P 9=cR 4294967296 P 8:=by
 have h1:=h.1;have h2:=hF.two;rw[bJ]at h1 ⊢;have e:(4294967296:Nat)^8=115792089237316195423570985008687907853269984665640564039457584007913129639936:=by rfl
 rw[e]at h1 ⊢;have:P 8=0:=by
  rcases Nat.eq_zero_or_pos (P 8)with q|q
  ·exact q
  ·have:=Nat.mul_le_mul_right 115792089237316195423570985008687907853269984665640564039457584007913129639936 q;omega
 rw[this]; exact⟨rfl,by omega⟩
theorem SI (P:Nat→Nat):aC (P 0+4294967296*P 1) (P 2+4294967296*P 3) (P 4+4294967296*P 5) (P 6+4294967296*P 7)=cR 4294967296 P 8:=by
 unfold aC;simp only[cR];omega
def yI (F:FC):Nat:=if F.m0=0x3c208c16d87cfd47 then 3834012553 else 4026531839
theorem GU {f:Int} {F:FC} (hf:FieldIs f F):yI F<4294967296∧(yI F*(F.M%4294967296)+1)%4294967296=0:=by
 rcases hf with⟨_,rfl⟩|⟨_,rfl⟩
 ·exact⟨by decide,by decide⟩
 ·exact⟨by decide,by decide⟩
theorem DA (f:Int) (F:FC) (hf:FieldIs f F) (w:World):Calls prog 68 #[.int .i64 f] w fun e w'=>e=.returned (.int .u64 (yI F))∧w=w':=by
 rcases hf with⟨rfl,rfl⟩|⟨rfl,rfl⟩
 ·go_enter func68,ntmps68
  go_wp2_with fail;go_ret;exact⟨rfl,rfl⟩
 ·go_enter func68,ntmps68
  go_wp2_with fail;go_ret;exact⟨rfl,rfl⟩
structure MT (w wr:World) (p q r t:Nat) (X Y Z P:Nat→Nat):Prop where
 below:Below w.heap.size w wr
 res:Row4 wr (w.heap.size+1+1) 0 0 0 0
 rowX:RowIs wr p 8 X
 rowY:RowIs wr q 8 Y
 rowZ:RowIs wr r 8 Z
 rowP:RowIs wr t 10 P
 lt:∀k,P k<4294967296
section
variable {w wr:World} {p q r t:Nat} {X Y Z P:Nat→Nat}
theorem MT.set (h:MT w wr p q r t X Y Z P) (h2:w.heap.size+1+1<t) (pt:p<t) (qt:q<t) (rt:r<t) {k d:Nat} (hk:k<10) (hd:d<4294967296) :
  MT w (wr.setCell ⟨t,k,none⟩ (.int .u64 (d:Nat))) p q r t X Y Z (dJ P k d) :=
 ⟨h.below.setCell (p:=⟨t,k,none⟩) (by show w.heap.size≤t; omega) _,h.res.other (by omega) _,h.rowX.other (by omega) _,h.rowY.other (by omega) _,h.rowZ.other (by omega) _,h.rowP.set hk,
  fun j=>by unfold dJ; split; exact hd; exact h.lt j⟩
theorem MT.drewN (h:MT w wr p q r t X Y Z P) (n:Nat):MT w (wr.drewN n) p q r t X Y Z P:=⟨h.below.trans (aP _ _ _),h.res.drewN n,h.rowX,h.rowY,h.rowZ,h.rowP,h.lt⟩
end
theorem TH {a x y c:Nat} (ha:a<4294967296) (hx:x<4294967296) (hy:y<4294967296) (hc:c<4294967296):∃m n1 n l h:Nat,(x:Int)*(y:Int)=(m:Int)∧(a:Int)+(m:Int)=(n1:Int)∧(n1:Int)+(c:Int)=(n:Int)∧m<18446744073709551616∧n1<18446744073709551616∧n<18446744073709551616 ∧
  bits .and .u64 (n:Int) 4294967295=(l:Int)∧(n:Int)/4294967296=(h:Int)∧l<4294967296∧h<4294967296∧Hid (l+4294967296*h=a+x*y+c):=by
 have hm:=Nat.mul_le_mul (show x≤4294967295 by omega) (show y≤4294967295 by omega);obtain⟨l,h,e1,e2,hl,hh,e⟩:=iK (a:=a+x*y+c) (by omega);exact⟨x*y,a+x*y,a+x*y+c,l,h,(Int.natCast_mul _ _).symm,by omega,by omega,by omega,by omega,by omega,e1,e2,hl,hh,e⟩
theorem TE {a c:Nat} (ha:a<4294967296) (hc:c<4294967296):∃n l h:Nat,(a:Int)+(c:Int)=(n:Int)∧n<18446744073709551616∧bits .and .u64 (n:Int) 4294967295=(l:Int)∧(n:Int)/4294967296=(h:Int)∧l<4294967296∧h≤1∧Hid (l+4294967296*h=a+c):=by
 obtain⟨l,h,e1,e2,hl,hh,e⟩:=iK (a:=a+c) (by omega);have:=e.out;exact⟨a+c,l,h,by omega,by omega,e1,e2,hl,by omega,e⟩
theorem TJ {u0 n z:Nat} (hu:u0<4294967296) (hn:n<4294967296) (hz:z<4294967296) (ht:(n*z+1)%4294967296=0):∃m0 q m1 n1 c:Nat,(u0:Int)*(n:Int)=(m0:Int)∧m0<18446744073709551616∧bits .and .u64 (m0:Int) 4294967295=(q:Int)∧q<4294967296 ∧
  (q:Int)*(z:Int)=(m1:Int)∧(u0:Int)+(m1:Int)=(n1:Int)∧m1<18446744073709551616∧n1<18446744073709551616∧(n1:Int)/4294967296=(c:Int)∧c<4294967296∧Hid (4294967296*c=u0+q*z):=by
 have hm:=Nat.mul_le_mul (show u0≤4294967295 by omega) (show n≤4294967295 by omega);obtain⟨q,h,e1,_,hq,hh,e⟩:=iK (a:=u0*n) (by omega);have hm1:=Nat.mul_le_mul (show q≤4294967295 by omega) (show z≤4294967295 by omega);obtain⟨l,c,e3,e4,hl,hc,e'⟩:=iK (a:=u0+q*z) (by omega);have hz0:(u0+q*z)%4294967296=0:=by
  have hq':q=u0*n%4294967296:=by have:=e.out; omega
  rw[hq',Nat.add_mod,Nat.mul_mod,Nat.mod_mod,←Nat.mul_mod,←Nat.add_mod,show u0+u0*n*z=u0*(n*z+1) by rw[Nat.mul_add,Nat.mul_one,Nat.mul_assoc,Nat.add_comm],Nat.mul_mod,ht,Nat.mul_zero,Nat.zero_mod]
 have:=e'.out;exact⟨u0*n,q,q*z,u0+q*z,c,(Int.natCast_mul _ _).symm,by omega,e1,hq,(Int.natCast_mul _ _).symm,by omega,by omega,by omega,e4,hc,Lib.hid (by omega)⟩
theorem LP (X P:Nat→Nat) (y:Nat):cR 4294967296 P 9+0*4294967296^0=cR 4294967296 P 9+cR 4294967296 X 0*y:=by rw[Nat.zero_mul,show cR 4294967296 X 0=0 from rfl,Nat.zero_mul]
theorem Jg {Z:Nat→Nat} {M:Nat} (h:cR 4294967296 Z 8=M) (hz:∀k,Z k<4294967296):Z 0=M%4294967296:=by
 have:=hz 0;rw[←h];simp only[cR];omega
theorem uR {w:World} {b k:Nat} {v:Value} (h:w.cell? ⟨b,k,none⟩=some v):b<w.heap.size:=by
 rcases Nat.lt_or_ge b w.heap.size with q|q
 ·exact q
 ·unfold World.cell? at h;simp[Array.getElem?_eq_none q]at h
theorem RowIs.ext0 {w:World} {b:Nat} (h:RowIs w b 4 (dX [0,0,0,0])):RowIs w b 4 (fun _=>0):=fun k hk=>by
 have:=h k hk
 match k,hk with
 | 0,_|1,_|2,_|3,_=>exact this
structure OW (w wr:World) (t o:Nat) (P O:Nat→Nat):Prop where
 below:Below w.heap.size w wr
 res:Row4 wr (w.heap.size+1+1) 0 0 0 0
 rowP:RowIs wr t 10 P
 rowO:RowIs wr o 4 O
 lo:o<wr.heap.size
theorem OW.drewN {w wr:World} {t o:Nat} {P O:Nat→Nat} (h:OW w wr t o P O) (n:Nat):OW w (wr.drewN n) t o P O:=⟨h.below.trans (aP _ _ _),h.res.drewN n,h.rowP,h.rowO,h.lo⟩
theorem OW.set {w wr:World} {t o:Nat} {P O:Nat→Nat} (h:OW w wr t o P O) (h2:w.heap.size+1+1<t) (ht:t<o) {k d:Nat} (hk:k<4):OW w (wr.setCell ⟨o,k,none⟩ (.int .u64 (d:Nat))) t o P (dJ O k d) :=
 ⟨h.below.setCell (p:=⟨o,k,none⟩) (by show w.heap.size≤o; omega) _,h.res.other (by omega) _,h.rowP.other (by omega) _,h.rowO.set hk,by rw[World.size_setCell]; exact h.lo⟩
set_option maxHeartbeats 16000000 in
theorem rX (f:Int) (F:FC) (hf:FieldIs f F) (a0 a1 a2 a3 b0 b1 b2 b3:Nat) (ha:bY a0 a1 a2 a3) (hb:bY b0 b1 b2 b3) (la:aC a0 a1 a2 a3<F.M) (w:World) :
  Calls prog 54 #[.int .i64 f,.agg #[.int .u64 a0,.int .u64 a1,.int .u64 a2,.int .u64 a3],.agg #[.int .u64 b0,.int .u64 b1,.int .u64 b2,.int .u64 b3]] w (fV (aC a0 a1 a2 a3*aC b0 b1 b2 b3*F.Ri%F.M) w):=by
 go_enter func54,ntmps54
 go_wp2_with fail;refine vR f F hf a0 a1 a2 a3 b0 b1 b2 b3 ha hb w.heap.size (w.heap.size+1) _ _ ?_ ?_ (by first|(simp; done)|(simp; omega)) (by first|(simp; done)|(simp; omega)) (fun p q r X Y Z s21 s22 s23 s24 s25 s26 s27 u H => ?_)
 ·exact⟨by simp[go_sem],by simp[go_sem],by simp[go_sem],by simp[go_sem],fun k=>by simp[go_sem]⟩
 ·exact⟨by simp[go_sem],by simp[go_sem],by simp[go_sem],by simp[go_sem],fun k=>by simp[go_sem]⟩
 have hres:Row4 u (w.heap.size+1+1) 0 0 0 0:=Row4.below ⟨by simp[go_sem],by simp[go_sem],by simp[go_sem],by simp[go_sem],fun k=>by simp[go_sem]⟩ H.below (by simp);have h0:Below w.heap.size w u:=by
  refine Below.trans ?_ (H.below.mono (by simp; omega))
  repeat (first|exact Below.refl _ _|refine Below.alloc ?_ (by first|(simp; done)|(simp; omega)) _)
 have lp:=H.lp; have lq:=H.lq; have lr:=H.lr; have hs:=H.below.size;simp at lp lq lr hs;have up:=H.up; have uq:=H.uq; have ur:=H.ur;have ht2:w.heap.size+1+1<u.heap.size:=by omega
 have HX:=Lib.hid H.ltX; have HY:=Lib.hid H.ltY; have HZ:=Lib.hid H.ltZ;have HeX:=Lib.hid H.eX; have HeY:=Lib.hid H.eY; have HeZ:=Lib.hid H.eZ;have bN:=(GU hf).1;have HTn:=Lib.hid (show (yI F*Z 0+1)%4294967296=0 by rw[Jg H.eZ H.ltZ]; exact (GU hf).2);have HM0:=Lib.hid (show MT w (u.alloc (.cells #[.int .u64 0,.int .u64 0,.int .u64 0,.int .u64 0,.int .u64 0,.int .u64 0,.int .u64 0,.int .u64 0,.int .u64 0,.int .u64 0] 104)) p q r u.heap.size X Y Z (fun _=>0)from by
  refine⟨h0.alloc (by omega) _,hres.alloc (by omega) _,H.rowX.alloc up _,H.rowY.alloc uq _,H.rowZ.alloc ur _,?_,fun _=>by show 0<_; omega⟩;intro k hk;refine⟨?_,World.frozen?_alloc_new _ _ _ _⟩;rw[World.cell?_alloc_new]
  match k,hk with
  | 0,_|1,_|2,_|3,_|4,_|5,_|6,_|7,_|8,_|9,_=>rfl)
 have HO:=Lib.hid (LR F.M (aC a0 a1 a2 a3) Y (fun _=>0) hf.ok.pos (fun _=>rfl));have Hf:=Lib.hid hf;have HLA:=Lib.hid la;clear H hres h0 la;unfold EW;go_wp2_with fail;refine (DA f F hf _).mono ?_
 rintro e w' ⟨rfl,rfl⟩
 generalize yI F=tn at *;go_wp2_with fail
 go_loopw [12] (fun i wr=>∃(k:Nat) (P:Nat→Nat),k≤8∧i=.int .i64 k∧Hid (MT w wr p q r u.heap.size X Y Z P)∧Hid (NJ F.M (aC a0 a1 a2 a3) Y P k)) (fun i _=>8-(intOf i).toNat)
 case atStart=>exact⟨0,fun _=>0,by omega,rfl,HM0,HO⟩
 case round =>
  clear HM0 HO;obtain⟨k,P,hk,rfl,HM,HO⟩:=hrel
  by_cases hlt:k<8
  ·obtain⟨wo,rfl⟩:∃wo:World,wo=wr:=⟨_,rfl⟩
   go_wp2_with fail
   go_loopw [13,14] (fun cv jv wr=>∃(j c:Nat) (N:Nat→Nat),j≤8∧c<4294967296∧jv=.int .i64 j∧cv=.int .u64 c∧Hid (MT w wr p q r u.heap.size X Y Z N)∧Hid (cR 4294967296 N 9+c*4294967296^j=cR 4294967296 P 9+cR 4294967296 X j*Y k)) (fun _ jv _=>8-(intOf jv).toNat)
   case atStart=>exact⟨0,0,P,by omega,by omega,rfl,rfl,HM,Lib.hid (LP X P (Y k))⟩
   case round =>
    clear HM;obtain⟨j,c,N,hj,hc,rfl,rfl,HM,HI⟩:=hrel
    by_cases hlt2:j<8
    ·have cx:=HM.out.rowX.cell hlt2;have cy:=HM.out.rowY.cell hlt;have cp:=HM.out.rowP.cell (show j<10 by omega);have fp:=HM.out.rowP.free (show j<10 by omega);have hj10:(j:Int)<10:=by omega
     obtain⟨m,n1,n,l,h,e1,e2,e3,b1,b2,b3,e4,e5,bl,bh,e⟩:=TH (HM.out.lt j) (HX.out j) (HY.out k) hc;go_wp2_with fail
     go_quiet (fail)
     go_wp2_with fail
     go_roundw
     case rel=>exact⟨j+1,h,dJ N j l,by omega,bh,by go_num,rfl,Lib.hid ((HM.out.drewN _).set ht2 up uq ur (by omega) bl),Lib.hid (QU hlt2 HI.out e.out)⟩
     case measure=>simp[intOf]; omega
    ·obtain rfl:j=8:=by omega
     have c8:=HM.out.rowP.cell (show 8<10 by omega);have f8:=HM.out.rowP.free (show 8<10 by omega);have c9:=HM.out.rowP.cell (show 9<10 by omega);have f9:=HM.out.rowP.free (show 9<10 by omega);have c0:=HM.out.rowP.cell (show 0<10 by omega);have z0:=HM.out.rowZ.cell (show 0<8 by omega);obtain⟨n,l,h,e1,b1,e2,e3,bl,bh,e⟩:=TE (HM.out.lt 8) hc;have HU:=Lib.hid ((HM.out.set ht2 up uq ur (k:=8) (by omega) bl).set ht2 up uq ur (k:=9) (d:=h) (by omega) (by omega));have HS:=Lib.hid (ZP HI.out e.out);have HU9:=Lib.hid (show dJ (dJ N 8 l) 9 h 9≤1 by unfold dJ; rw[if_pos rfl]; exact bh);have HU0:=Lib.hid (show dJ (dJ N 8 l) 9 h 0=N 0 by unfold dJ; rw[if_neg (by omega),if_neg (by omega)]);obtain⟨m0,g,m1,n1,d,g1,g2,g3,g4,g5,g6,g7,g8,g9,g10,gg⟩:=TJ (HM.out.lt 0) bN (HZ.out 0) HTn.out;have HT2:=Lib.hid (CZ (U:=dJ (dJ N 8 l) 9 h) (Z:=Z) (q:=g) (c:=d) (by rw[HU0.out]; exact gg.out));have ub:=HM.out;clear HM HI e ub gg;generalize dJ (dJ N 8 l) 9 h=U at *;go_wp2_with fail
     go_loopw [13,18] (fun cv jv wr=>∃(j c:Nat) (V:Nat→Nat),1≤j∧j≤8∧c<4294967296∧jv=.int .i64 j∧cv=.int .u64 c∧Hid (MT w wr p q r u.heap.size X Y Z V)∧Hid (VJ U Z V g j c)) (fun _ jv _=>8-(intOf jv).toNat)
     case atStart=>exact⟨1,d,U,by omega,by omega,g10,rfl,rfl,HU,HT2⟩
     case round =>
      clear HU HT2 c8 f8 c9 f9 c0 z0;obtain⟨j,c',V,hj1,hj,hc',rfl,rfl,HM,HT2⟩:=hrel
      by_cases hlt3:j<8
      ·obtain⟨j1,e6,hj1'⟩:∃j1:Nat,(j:Int)-1=(j1:Int)∧j1+1=j:=⟨j-1,by omega,by omega⟩
       have cz:=HM.out.rowZ.cell hlt3;have cp:=HM.out.rowP.cell (show j<10 by omega);have cp1:=HM.out.rowP.cell (show j1<10 by omega);have fp1:=HM.out.rowP.free (show j1<10 by omega);have hj10:(j1:Int)<10:=by omega
       have hj11:(j:Int)<10:=by omega
       obtain⟨m,n1,n',l',h',d1,d2,d3,b1',b2',b3',d4,d5,bl',bh',e⟩:=TH (HM.out.lt j) g4 (HZ.out j) hc';have HN:=Lib.hid (KX hj1 HT2.out (by rw[←HT2.out.1 j (Nat.le_refl _)]; exact e.out));rw[show j-1=j1 by omega]at HN;have HJ:=Lib.hid hj1';clear hj1' HT2 e;go_wp2_with fail
       go_quiet (fail)
       go_wp2_with fail
       go_roundw
       case rel=>exact⟨j+1,h',dJ V j1 l',by omega,by omega,bh',by go_num,rfl,Lib.hid ((HM.out.drewN _).set ht2 up uq ur (by omega) bl'),HN⟩
       case measure=>simp[intOf]; omega
      ·obtain rfl:j=8:=by omega
       have c7:=HM.out.rowP.cell (show 7<10 by omega); have f7:=HM.out.rowP.free (show 7<10 by omega);have c8:=HM.out.rowP.cell (show 8<10 by omega); have f8:=HM.out.rowP.free (show 8<10 by omega);have c9:=HM.out.rowP.cell (show 9<10 by omega);obtain⟨n',l',h',d1,b1',d2,d3,bl',bh',e⟩:=TE (HM.out.lt 8) hc';have h9:=HU9.out;have e9':V 9=U 9:=HT2.out.1 9 (by omega);obtain⟨s9,e9,hs9⟩:∃s9:Nat,(V 9:Int)+(h':Int)=(s9:Int)∧s9=U 9+h':=⟨V 9+h',by omega,by omega⟩
       have bs9:s9<4294967296:=by omega
       have HN:=Lib.hid ((HM.out.set ht2 up uq ur (k:=7) (by omega) bl').set ht2 up uq ur (k:=8) (d:=s9) (by omega) bs9);have HO':=Lib.hid (LS HO.out HLA.out (HY.out k) g4 (N:=dJ (dJ V 7 l') 8 s9) (by
        have h2:=OH HT2.out (l:=l') (h:=h') (by rw[←HT2.out.1 8 (Nat.le_refl _)]; exact e.out);rw[hs9,h2,HS.out,HeX.out,HeZ.out]))
       clear HM HT2 e hs9 h9 e9' HU9 HS HO;go_wp2_with fail
       go_roundw
       case rel=>exact⟨k+1,dJ (dJ V 7 l') 8 s9,by omega,by go_num,HN,HO'⟩
       case measure=>simp[intOf]; omega
  ·obtain rfl:k=8:=by omega
   obtain⟨hP8,hP9⟩:=RK hf.ok HO.out;have HV:=Lib.hid (show cR 4294967296 P 8%F.M=aC a0 a1 a2 a3*aC b0 b1 b2 b3*F.Ri%F.M by rw[←hP9,RL hf.ok HO.out,HeY.out]);have HP8:=Lib.hid hP8;have hwr:u.heap.size<wr.heap.size:=uR (HM.out.rowP.cell (show 0<10 by omega));have HW:=Lib.hid (show OW w (wr.alloc (.cells #[.int .u64 0,.int .u64 0,.int .u64 0,.int .u64 0] 52)) u.heap.size wr.heap.size P (fun _=>0)from
    ⟨HM.out.below.alloc (by omega) _,HM.out.res.alloc (by omega) _,HM.out.rowP.alloc hwr _,(Row4.new wr 0 0 0 0 52).rows.ext0,by simp⟩)
   have HPl:=Lib.hid HM.out.lt;clear HO hP8 hP9 HM HLA;go_wp2_with fail
   go_loopw [20] (fun iv wx=>∃(i:Nat) (O:Nat→Nat),i≤4∧iv=.int .i64 i∧Hid (OW w wx u.heap.size wr.heap.size P O)∧Hid (∀j,j<i→O j=P (2*j)+4294967296*P (2*j+1))) (fun iv _=>4-(intOf iv).toNat)
   case atStart=>exact⟨0,fun _=>0,by omega,rfl,HW,Lib.hid (fun j hj=>absurd hj (by omega))⟩
   case round =>
    clear HW;obtain⟨i,O,hi,rfl,HW,HO⟩:=hrel
    by_cases hlt4:i<4
    ·obtain⟨e0,q0,q0'⟩:∃e0:Nat,(2:Int)*(i:Int)=(e0:Int)∧e0=2*i:=⟨2*i,by omega,rfl⟩
     obtain⟨o0,q1,q1'⟩:∃o0:Nat,(e0:Int)+1=(o0:Int)∧o0=2*i+1:=⟨2*i+1,by omega,rfl⟩
     have ca:=HW.out.rowP.cell (show e0<10 by omega);have cb:=HW.out.rowP.cell (show o0<10 by omega);have co:=HW.out.rowO.cell hlt4;have fo:=HW.out.rowO.free hlt4;have be:(e0:Int)<10:=by omega
     have bo:(o0:Int)<10:=by omega
     obtain⟨uu,s,j1,j2,j3,j4,j5⟩:=Bi (HPl.out e0) (HPl.out o0);have HN:=Lib.hid (show ∀j,j<i+1→dJ O i s j=P (2*j)+4294967296*P (2*j+1)from fun j hj=>by
      unfold dJ
      by_cases e:j=i
      ·subst e; rw[if_pos rfl,j5.out,q0',q1']
      ·rw[if_neg e]; exact HO.out j (by omega))
     have HQ1:=Lib.hid q0';have HQ2:=Lib.hid q1';clear q0' q1' j5 HO;go_wp2_with fail
     go_region
     go_wp2_with fail
     go_roundw
     case rel=>exact⟨i+1,dJ O i s,by omega,by go_num,Lib.hid ((HW.out.drewN 1).set ht2 hwr hlt4),HN⟩
     case measure=>simp[intOf]; omega
    ·obtain rfl:i=4:=by omega
     have c8:=HW.out.rowP.cell (show 8<10 by omega);rw[HP8.out]at c8;have o0:=HW.out.rowO.cell (show 0<4 by omega); have o1:=HW.out.rowO.cell (show 1<4 by omega); have o2:=HW.out.rowO.cell (show 2<4 by omega); have o3:=HW.out.rowO.cell (show 3<4 by omega);have v0:O 0=P 0+4294967296*P 1:=HO.out 0 (by omega);have v1:O 1=P 2+4294967296*P 3:=HO.out 1 (by omega);have v2:O 2=P 4+4294967296*P 5:=HO.out 2 (by omega);have v3:O 3=P 6+4294967296*P 7:=HO.out 3 (by omega);have l0:=HPl.out 0; have l1:=HPl.out 1; have l2:=HPl.out 2; have l3:=HPl.out 3; have l4:=HPl.out 4; have l5:=HPl.out 5; have l6:=HPl.out 6; have l7:=HPl.out 7;have hok:bY (O 0) (O 1) (O 2) (O 3):=⟨by rw[v0]; omega,by rw[v1]; omega,by rw[v2]; omega,by rw[v3]; omega⟩;have HE:=Lib.hid (show aC (O 0) (O 1) (O 2) (O 3)=cR 4294967296 P 8 by rw[v0,v1,v2,v3,←SI]);clear v0 v1 v2 v3 l0 l1 l2 l3 l4 l5 l6 l7 HO;go_wp2_with fail;refine (jQ f F Hf.out (O 0) (O 1) (O 2) (O 3) hok _).mono ?_
     rintro e w9 ⟨s0,s1,s2,s3,rfl,hs9,hv,hbl⟩
     have HVs:=Lib.hid (show aC s0 s1 s2 s3=aC a0 a1 a2 a3*aC b0 b1 b2 b3*F.Ri%F.M by rw[hv,HE.out,HV.out]);have hsz:=HW.out.below.size;have lres:=uR HW.out.res.c0;have Rr:=HW.out.res.below hbl lres;have y0:=Rr.c0; have y1:=Rr.c1; have y2:=Rr.c2; have y3:=Rr.c3; have yf:=Rr.fr;have HB:=Lib.hid (HW.out.below.trans (hbl.mono hsz));have hz9:w.heap.size+1+1<w9.heap.size:=Nat.lt_of_lt_of_le lres hbl.size;clear Rr hv hbl HW o0 o1 o2 o3 c8;go_wp2_with fail;refine bodyPost_ret (v:=.agg #[.int .u64 s0,.int .u64 s1,.int .u64 s2,.int .u64 s3]) (by simp[results,results54,go_sem, *]) rfl ?_;refine⟨_,_,_,_,rfl,hs9,HVs.out,?_⟩;exact bQ HB.out (by omega) _ _ _ _
set_option maxHeartbeats 2000000 in
theorem wG (f:Int) (F:FC) (hf:FieldIs f F) (w:World):Calls prog 55 #[.int .i64 f] w fun e w'=>e=.returned (.agg #[.int .u64 F.s0,.int .u64 F.s1,.int .u64 F.s2,.int .u64 F.s3])∧Below w.heap.size w w':=by
 rcases hf with⟨rfl,rfl⟩|⟨rfl,rfl⟩
 ·go_enter func55,ntmps55
  go_wp2_with fail;refine bodyPost_ret (v:=.agg #[.int .u64 FP.s0,.int .u64 FP.s1,.int .u64 FP.s2,.int .u64 FP.s3]) (by simp[results,results55,go_sem,FP]) rfl ?_;refine⟨rfl,?_⟩
  repeat (first|exact Below.refl _ _|refine Below.drew ?_|refine Below.alloc ?_ (by first|(simp; done)|(simp; omega)) _|refine Below.setCell ?_ (by simp) _)
 ·go_enter func55,ntmps55
  go_wp2_with fail;refine bodyPost_ret (v:=.agg #[.int .u64 FR.s0,.int .u64 FR.s1,.int .u64 FR.s2,.int .u64 FR.s3]) (by simp[results,results55,go_sem,FR]) rfl ?_;refine⟨rfl,?_⟩
  repeat (first|exact Below.refl _ _|refine Below.drew ?_|refine Below.alloc ?_ (by first|(simp; done)|(simp; omega)) _|refine Below.setCell ?_ (by simp) _)
theorem PP {F:FC} (hF:F.Ok) (A B:Nat):A%F.M*(B%F.M)*F.Ri%F.M*aC F.s0 F.s1 F.s2 F.s3*F.Ri%F.M=A*B%F.M:=by
 rw[JC hF];unfold kp;have h:A%F.M*(B%F.M)*F.Ri%F.M*F.R%F.M=A*B*F.R*F.Ri%F.M:=by
  have e:A%F.M*(B%F.M)*F.Ri%F.M*F.R%F.M=A*B*F.Ri*F.R%F.M:=iQ ((lH _ _).trans (iQ (iQ (lH _ _) (lH _ _)) rfl)) rfl;rw[e,Nat.mul_right_comm]
 rw[h,gG hF]
set_option maxHeartbeats 2000000 in
theorem qY (f:Int) (F:FC) (hf:FieldIs f F) (a0 a1 a2 a3 b0 b1 b2 b3:Nat) (ha:bY a0 a1 a2 a3) (hb:bY b0 b1 b2 b3) (w:World) :
  Calls prog 41 #[.int .i64 f,.agg #[.int .u64 a0,.int .u64 a1,.int .u64 a2,.int .u64 a3],.agg #[.int .u64 b0,.int .u64 b1,.int .u64 b2,.int .u64 b3]] w (fV (aC a0 a1 a2 a3*aC b0 b1 b2 b3%F.M) w):=by
 have hpos:=hf.ok.pos
 go_enter func41,ntmps41
 go_wp2_with fail;have HM:=Lib.hid ((((Mem.nil w).new (w.heap.size) a0 a1 a2 a3 34 (by simp)).new (w.heap.size+1) b0 b1 b2 b3 34 (by simp)).new (w.heap.size+1+1) 0 0 0 0 34 (by simp));refine dD (fun wx=>Mem w wx [(w.heap.size+1,b0,b1,b2,b3),(w.heap.size,a0,a1,a2,a3)]) 12 (by kernel_rfl) ?_;have HM':=Lib.hid (HM.out.drewN 1);clear HM;have HM:=HM';clear HM';have HS:=HM.out.sub (rs':=[(w.heap.size+1,b0,b1,b2,b3),(w.heap.size,a0,a1,a2,a3)]) (by simp);refine aO (i:=0) (v:=.int .i64 f) rfl (by kernel_rfl) (by kernel_rfl) (by kernel_rfl) (by kernel_rfl) (fun _ _ _ h=>h) HS (Or.inl ⟨by kernel_rfl,fun wx hx => ?_⟩) ?_
 ·clear HS hx;go_simp
 simp only[Act.put,List.setIfInBounds_toArray,List.set_cons_zero,List.set_cons_succ];refine aO (i:=1) (v:=.int .i64 f) rfl (by kernel_rfl) (by kernel_rfl) (by kernel_rfl) (by kernel_rfl) (fun _ _ _ h=>h) HS (Or.inl ⟨by kernel_rfl,fun wx hx => ?_⟩) ?_
 ·clear HS hx;go_simp
 simp only[Act.put,List.setIfInBounds_toArray,List.set_cons_zero,List.set_cons_succ];refine aO (i:=2) (v:=.int .i64 f) rfl (by kernel_rfl) (by kernel_rfl) (by kernel_rfl) (by kernel_rfl) (fun _ _ _ h=>h) HS (Or.inl ⟨by kernel_rfl,fun wx hx => ?_⟩) ?_
 ·clear HS hx;go_simp
 simp only[Act.put,List.setIfInBounds_toArray,List.set_cons_zero,List.set_cons_succ];refine aO (i:=3) (v:=.agg #[.int .u64 a0,.int .u64 a1,.int .u64 a2,.int .u64 a3]) rfl (by kernel_rfl) (by kernel_rfl) (by kernel_rfl) (by kernel_rfl) (fun _ _ _ h=>h) HS (Or.inl ⟨by kernel_rfl,fun wx hx => ?_⟩) ?_
 ·have kr:=hx.row (b:=w.heap.size) (c0:=a0) (c1:=a1) (c2:=a2) (c3:=a3) (by simp);have x0:=kr.c0; have x1:=kr.c1; have x2:=kr.c2; have x3:=kr.c3;clear kr HS hx;go_simp
 simp only[Act.put,List.setIfInBounds_toArray,List.set_cons_zero,List.set_cons_succ];refine aO (i:=5) (v:=.int .i64 f) rfl (by kernel_rfl) (by kernel_rfl) (by kernel_rfl) (by kernel_rfl) (fun _ _ _ h=>h) HS (Or.inl ⟨by kernel_rfl,fun wx hx => ?_⟩) ?_
 ·clear HS hx;go_simp
 simp only[Act.put,List.setIfInBounds_toArray,List.set_cons_zero,List.set_cons_succ];refine aO (i:=6) (v:=.agg #[.int .u64 b0,.int .u64 b1,.int .u64 b2,.int .u64 b3]) rfl (by kernel_rfl) (by kernel_rfl) (by kernel_rfl) (by kernel_rfl) (fun _ _ _ h=>h) HS (Or.inl ⟨by kernel_rfl,fun wx hx => ?_⟩) ?_
 ·have kr:=hx.row (b:=w.heap.size+1) (c0:=b0) (c1:=b1) (c2:=b2) (c3:=b3) (by simp);have x0:=kr.c0; have x1:=kr.c1; have x2:=kr.c2; have x3:=kr.c3;clear kr HS hx;go_simp
 simp only[Act.put,List.setIfInBounds_toArray,List.set_cons_zero,List.set_cons_succ];refine aO (i:=9) (v:=.int .i64 f) rfl (by kernel_rfl) (by kernel_rfl) (by kernel_rfl) (by kernel_rfl) (fun _ _ _ h=>h) HS (Or.inl ⟨by kernel_rfl,fun wx hx => ?_⟩) ?_
 ·clear HS hx;go_simp
 simp only[Act.put,List.setIfInBounds_toArray,List.set_cons_zero,List.set_cons_succ];clear HS;refine aY (i:=4) (by kernel_rfl) rfl (fun K hK => ?_);go_simp;refine (jQ f F hf a0 a1 a2 a3 ha _).mono ?_
 rintro e w1 ⟨x0,x1,x2,x3,rfl,hx,hv,hbl⟩
 have HVx:=Lib.hid hv;clear hv;have HM':=Lib.hid (HM.out.on hbl);clear HM hbl;have HM:=HM';clear HM';have HS:=HM.out.sub (rs':=[(w.heap.size+1,b0,b1,b2,b3),(w.heap.size,a0,a1,a2,a3)]) (by simp);refine hK.out _ _ (Or.inr HS) (fun _ => ?_);clear hK K;clear HS;refine aY (i:=7) (by kernel_rfl) rfl (fun K hK => ?_);go_simp;refine (jQ f F hf b0 b1 b2 b3 hb _).mono ?_
 rintro e w2 ⟨y0,y1,y2,y3,rfl,hy,hv,hbl⟩
 have HVy:=Lib.hid hv;clear hv;have HM':=Lib.hid (HM.out.on hbl);clear HM hbl;have HM:=HM';clear HM';have HS:=HM.out.sub (rs':=[(w.heap.size+1,b0,b1,b2,b3),(w.heap.size,a0,a1,a2,a3)]) (by simp);refine hK.out _ _ (Or.inr HS) (fun _ => ?_);clear hK K;clear HS;refine aY (i:=8) (by kernel_rfl) rfl (fun K hK => ?_);go_simp;refine (rX f F hf x0 x1 x2 x3 y0 y1 y2 y3 hx hy (by rw[HVx.out]; exact Nat.mod_lt _ hpos) _).mono ?_
 rintro e w3 ⟨z0,z1,z2,z3,rfl,hz,hv,hbl⟩
 have HVz:=Lib.hid hv;clear hv;have HM':=Lib.hid (HM.out.on hbl);clear HM hbl;have HM:=HM';clear HM';have HS:=HM.out.sub (rs':=[(w.heap.size+1,b0,b1,b2,b3),(w.heap.size,a0,a1,a2,a3)]) (by simp);refine hK.out _ _ (Or.inr HS) (fun _ => ?_);clear hK K;clear HS;refine aY (i:=10) (by kernel_rfl) rfl (fun K hK => ?_);go_simp;refine (wG f F hf _).mono ?_
 rintro e w4 ⟨rfl,hbl⟩
 have HM':=Lib.hid (HM.out.on hbl);clear HM hbl;have HM:=HM';clear HM';have HS:=HM.out.sub (rs':=[(w.heap.size+1,b0,b1,b2,b3),(w.heap.size,a0,a1,a2,a3)]) (by simp);refine hK.out _ _ (Or.inr HS) (fun _ => ?_);clear hK K;clear HS;refine aY (i:=11) (by kernel_rfl) rfl (fun K hK => ?_);go_simp;refine (rX f F hf z0 z1 z2 z3 F.s0 F.s1 F.s2 F.s3 hz hf.ok.oks (by rw[HVz.out]; exact Nat.mod_lt _ hpos) _).mono ?_
 rintro e w5 ⟨s0,s1,s2,s3,rfl,hs,hv,hbl⟩
 have HVs:=Lib.hid (show aC s0 s1 s2 s3=aC a0 a1 a2 a3*aC b0 b1 b2 b3%F.M by rw[hv,HVz.out,HVx.out,HVy.out]; exact PP hf.ok _ _);clear hv;have HM':=Lib.hid (HM.out.on hbl);clear HM hbl;have HM:=HM';clear HM';have HS:=HM.out.sub (rs':=[(w.heap.size+1,b0,b1,b2,b3),(w.heap.size,a0,a1,a2,a3)]) (by simp);refine hK.out _ _ (Or.inr HS) (fun _ => ?_);clear hK K;clear HS;have kr:=HM.out.row (b:=w.heap.size+1+1) (c0:=0) (c1:=0) (c2:=0) (c3:=0) (by simp);have y0:=kr.c0; have y1:=kr.c1; have y2:=kr.c2; have y3:=kr.c3; have yf:=kr.fr;clear kr;have yl:=HM.out.lt (b:=w.heap.size+1+1) (c0:=0) (c1:=0) (c2:=0) (c3:=0) (by simp);refine aY (i:=12) (by kernel_rfl) rfl (fun K hK => ?_);go_simp;have HM':=Lib.hid ((HM.out.sub (rs':=[(w.heap.size+1+1,0,0,0,0),(w.heap.size+1,b0,b1,b2,b3),(w.heap.size,a0,a1,a2,a3)]) (by simp)).put s0 s1 s2 s3 (by omega) (by intro r hr; simp at hr; rcases hr with rfl|rfl<;>simp<;>omega));clear HM;have HM:=HM';clear HM';refine hK.out _ _ (Or.inl rfl) (fun _ => ?_);clear hK K;refine eB (by kernel_rfl) ?_;go_wp2_with fail;refine bodyPost_ret (v:=.agg #[.int .u64 s0,.int .u64 s1,.int .u64 s2,.int .u64 s3]) (by simp[results,results41,go_sem, *]) rfl ?_;exact⟨_,_,_,_,rfl,hs,HVs.out,HM.out.1⟩
theorem UV (A M:Nat):decide (cJ A M<0)=JF A M:=by
 unfold JF cJ
 by_cases q:A=M
 ·rw[if_pos q,decide_eq_false (by omega),decide_eq_false (by omega)]
 ·rw[if_neg q]
  by_cases h:A<M
  ·rw[if_pos h,decide_eq_true (by omega),decide_eq_true (by omega)]
  ·rw[if_neg h,decide_eq_false (by omega),decide_eq_false (by omega)]
set_option maxHeartbeats 2000000 in
theorem wM (f:Int) (F:FC) (hf:FieldIs f F) (a0 a1 a2 a3:Nat) (ha:bY a0 a1 a2 a3) (w:World) :
  Calls prog 11 #[.int .i64 f,.agg #[.int .u64 a0,.int .u64 a1,.int .u64 a2,.int .u64 a3]] w (fun e w'=>e=.returned (.bool (JF (aC a0 a1 a2 a3) F.M))∧Below w.heap.size w w'):=by
 go_enter func11,ntmps11
 go_wp2_with fail;have HM:=Lib.hid ((Mem.nil w).new (w.heap.size) a0 a1 a2 a3 34 (by simp));refine dD (fun wx=>Mem w wx [(w.heap.size,a0,a1,a2,a3)]) 5 (by kernel_rfl) ?_;have HM':=Lib.hid (HM.out.drewN 1);clear HM;have HM:=HM';clear HM';have HS:=HM.out.sub (rs':=[(w.heap.size,a0,a1,a2,a3)]) (by simp);refine aO (i:=0) (v:=.agg #[.int .u64 a0,.int .u64 a1,.int .u64 a2,.int .u64 a3]) rfl (by kernel_rfl) (by kernel_rfl) (by kernel_rfl) (by kernel_rfl) (fun _ _ _ h=>h) HS (Or.inl ⟨by kernel_rfl,fun wx hx => ?_⟩) ?_
 ·have kr:=hx.row (b:=w.heap.size) (c0:=a0) (c1:=a1) (c2:=a2) (c3:=a3) (by simp);have x0:=kr.c0; have x1:=kr.c1; have x2:=kr.c2; have x3:=kr.c3;clear kr HS hx;go_simp
 simp only[Act.put,List.setIfInBounds_toArray,List.set_cons_zero,List.set_cons_succ];refine aO (i:=1) (v:=.int .i64 f) rfl (by kernel_rfl) (by kernel_rfl) (by kernel_rfl) (by kernel_rfl) (fun _ _ _ h=>h) HS (Or.inl ⟨by kernel_rfl,fun wx hx => ?_⟩) ?_
 ·clear HS hx;go_simp
 simp only[Act.put,List.setIfInBounds_toArray,List.set_cons_zero,List.set_cons_succ];clear HS;refine aY (i:=2) (by kernel_rfl) rfl (fun K hK => ?_);go_simp;refine (lO f F hf _).mono ?_
 rintro e w1 ⟨rfl,hbl⟩
 have HM':=Lib.hid (HM.out.on hbl);clear HM hbl;have HM:=HM';clear HM';have HS:=HM.out.sub (rs':=[(w.heap.size,a0,a1,a2,a3)]) (by simp);refine hK.out _ _ (Or.inr HS) (fun _ => ?_);clear hK K;clear HS;refine aY (i:=3) (by kernel_rfl) rfl (fun K hK => ?_);go_simp;refine (nL a0 a1 a2 a3 F.m0 F.m1 F.m2 F.m3 ha hf.ok.okm _).mono ?_
 rintro e w2 ⟨he,hbl⟩
 have HC:=Lib.hid (UV (aC a0 a1 a2 a3) (aC F.m0 F.m1 F.m2 F.m3));generalize cJ (aC a0 a1 a2 a3) (aC F.m0 F.m1 F.m2 F.m3)=cc at *;subst he;have HM':=Lib.hid (HM.out.on hbl);clear HM hbl;have HM:=HM';clear HM';have HS:=HM.out.sub (rs':=[(w.heap.size,a0,a1,a2,a3)]) (by simp);refine hK.out _ _ (Or.inr HS) (fun _ => ?_);clear hK K;refine aO (i:=4) (v:=.bool (decide (cc<0))) rfl (by kernel_rfl) (by kernel_rfl) (by kernel_rfl) (by kernel_rfl) (fun _ _ _ h=>h) HS (Or.inl ⟨by kernel_rfl,fun wx hx => ?_⟩) ?_
 ·clear HS hx;go_simp
 simp only[Act.put,List.setIfInBounds_toArray,List.set_cons_zero,List.set_cons_succ];clear HS;refine aY (i:=5) (by kernel_rfl) rfl (fun K hK => ?_);go_simp;refine hK.out _ _ (Or.inl rfl) (fun _ => ?_);clear hK K;refine eB (by kernel_rfl) ?_;go_wp2_with fail;go_ret;exact⟨zG HC.out,HM.out.1⟩
set_option maxRecDepth 20000 in
set_option maxHeartbeats 1000000 in
theorem LE (n:Nat) (w:World):Calls prog 40 #[.int .u64 n] w fun e w'=>e=.returned (.agg #[.int .u64 n,.int .u64 0,.int .u64 0,.int .u64 0])∧Below w.heap.size w w':=by
 go_enter func40,ntmps40
 go_wp2_with fail;refine bodyPost_ret (v:=.agg #[.int .u64 n,.int .u64 0,.int .u64 0,.int .u64 0]) (by simp[results,results40,go_sem]) rfl ?_;refine⟨rfl,?_⟩
 repeat (first|exact Below.refl _ _|refine Below.drew ?_|refine Below.alloc ?_ (by first|(simp; done)|(simp; omega)) _|refine Below.setCell ?_ (by simp) _)
set_option maxRecDepth 20000 in
set_option maxHeartbeats 1000000 in
theorem DX (a0 a1 a2 a3 i:Nat) (ha:bY a0 a1 a2 a3) (hi:i<256) (w:World) :
  Calls prog 42 #[.agg #[.int .u64 a0,.int .u64 a1,.int .u64 a2,.int .u64 a3],.int .i64 i] w (fun e w'=>e=.returned (.bool (decide (gW (aC a0 a1 a2 a3) i=1)))∧Below w.heap.size w w'):=by
 obtain⟨j,k,q,r,hj,hk,e⟩:=Dp hi;have hc:=AP w 52 a0 a1 a2 a3 j hj;have hx:=FN ha j;obtain⟨s,e1,e2,hs⟩:=TK hx (UT ha hj hk e.out);have hb:=oD (aC a0 a1 a2 a3) i;generalize gW (aC a0 a1 a2 a3) i=b at *;generalize dX [a0,a1,a2,a3] j=x at *;have hb':b≤1:=by omega
 clear e
 go_enter func42,ntmps42
 rcases hb with rfl|rfl
 ·go_wp2_with fail;go_ret;exact⟨rfl,(Below.refl _ _).alloc (Nat.le_refl _) _⟩
 ·go_wp2_with fail;go_ret;exact⟨rfl,(Below.refl _ _).alloc (Nat.le_refl _) _⟩
theorem Nf {M A N i:Nat} (hb:gW N i=0):A^(N/2^(i+1))%M*(A^(N/2^(i+1))%M)%M=A^(N/2^i)%M:=by
 rw[←Nat.mul_mod,←Nat.pow_add,tE N i,hb];congr 2;omega
theorem Nd {M A N i:Nat} (hb:gW N i=1):A^(N/2^(i+1))%M*(A^(N/2^(i+1))%M)%M*A%M=A^(N/2^i)%M:=by
 rw[←Nat.mul_mod,←Nat.pow_add,tE N i,hb,Nat.mod_mul_mod,←Nat.pow_succ];congr 2;omega
set_option maxHeartbeats 4000000 in
theorem DV (f:Int) (F:FC) (hf:FieldIs f F) (a0 a1 a2 a3 n0 n1 n2 n3:Nat) (ha:bY a0 a1 a2 a3) (hn:bY n0 n1 n2 n3) (w:World) :
  Calls prog 29 #[.int .i64 f,.agg #[.int .u64 a0,.int .u64 a1,.int .u64 a2,.int .u64 a3],.agg #[.int .u64 n0,.int .u64 n1,.int .u64 n2,.int .u64 n3]] w (fV (aC a0 a1 a2 a3^aC n0 n1 n2 n3%F.M) w):=by
 have h2:=hf.ok.gt
 go_enter func29,ntmps29
 go_wp2_with fail;have M0:=((((Mem.nil w).new w.heap.size a0 a1 a2 a3 34 rfl).new (w.heap.size+1) n0 n1 n2 n3 52 (by simp)).new (w.heap.size+1+1) 0 0 0 0 34 (by simp));refine (LE 1 _).mono ?_
 rintro e w1 ⟨rfl,hbl⟩
 have M1:=M0.on hbl;have hz1:w.heap.size+1+1<w1.heap.size:=M1.lt (c0:=0) (c1:=0) (c2:=0) (c3:=0) (by simp);have M2:=Lib.hid (M1.new w1.heap.size 1 0 0 0 34 rfl);clear hbl M0 M1;go_wp2_with fail
 go_loopw [8] (fun t wr=>∃(j r0 r1 r2 r3:Nat) (m:Int),j≤256∧Hid (m=(j:Int)-1)∧t=.int .i64 m∧bY r0 r1 r2 r3∧Hid (aC r0 r1 r2 r3=aC a0 a1 a2 a3^(aC n0 n1 n2 n3/2^j)%F.M)∧Hid (Mem w wr [(w1.heap.size,r0,r1,r2,r3),(w.heap.size+1+1,0,0,0,0),(w.heap.size+1,n0,n1,n2,n3),(w.heap.size,a0,a1,a2,a3)])) (fun t _=>(intOf t+1).toNat)
 case atStart =>
  refine⟨256,1,0,0,0,255,Nat.le_refl _,Lib.hid (by omega),rfl,(show bY 1 0 0 0 by unfold bY; decide),Lib.hid ?_,M2⟩;rw[Nat.div_eq_of_lt (show aC n0 n1 n2 n3<2^256 from fW hn),Nat.pow_zero,Nat.mod_eq_of_lt (by omega)];rfl
 case round =>
  obtain⟨j,r0,r1,r2,r3,m,hj,hm,rfl,hr,HV,HM⟩:=hrel
  by_cases hlt:0<j
  ·obtain⟨i,hi⟩:∃i,j=i+1:=⟨j-1,by omega⟩
   subst hi;obtain rfl:m=(i:Int):=by have:=hm.out; omega
   have Rr:=HM.out.row (b:=w1.heap.size) (c0:=r0) (c1:=r1) (c2:=r2) (c3:=r3) (by simp);have x0:=Rr.c0; have x1:=Rr.c1; have x2:=Rr.c2; have x3:=Rr.c3;have ltr:=HM.out.lt (b:=w1.heap.size) (c0:=r0) (c1:=r1) (c2:=r2) (c3:=r3) (by simp);clear Rr hm;go_wp2_with fail;refine (qY f F hf r0 r1 r2 r3 r0 r1 r2 r3 hr hr _).mono ?_
   rintro e w3 ⟨p0,p1,p2,p3,rfl,hp,hv,hbl⟩
   have HP:=Lib.hid (show aC p0 p1 p2 p3=_ by rw[hv,HV.out]);have M4:=HM.out.on hbl;have lt4:=M4.lt (b:=w1.heap.size) (c0:=r0) (c1:=r1) (c2:=r2) (c3:=r3) (by simp);have Rr:=M4.row (b:=w1.heap.size) (c0:=r0) (c1:=r1) (c2:=r2) (c3:=r3) (by simp);have Rn:=M4.row (b:=w.heap.size+1) (c0:=n0) (c1:=n1) (c2:=n2) (c3:=n3) (by simp);have M5:=Lib.hid (M4.put p0 p1 p2 p3 (by omega) (by intro r hr; simp at hr; rcases hr with rfl|rfl|rfl<;>simp<;>omega));clear x0 x1 x2 x3 hv hbl M4;have x0:=Rr.c0; have x1:=Rr.c1; have x2:=Rr.c2; have x3:=Rr.c3; have xf:=Rr.fr;have y0:=Rn.c0; have y1:=Rn.c1; have y2:=Rn.c2; have y3:=Rn.c3;have ne1:¬w.heap.size+1=w1.heap.size:=by omega
   have ne1':¬w1.heap.size=w.heap.size+1:=by omega
   have hi256:i<256:=by omega
   clear Rr Rn;go_wp2_with fail;refine (DX n0 n1 n2 n3 i hn hi256 _).mono ?_
   rintro e w4 ⟨he,hbl⟩
   have M5':=M5.out;unfold set4 at M5';have M6:=M5'.on hbl;clear hbl M5' x0 x1 x2 x3 xf y0 y1 y2 y3;have lt6:=M6.lt (b:=w1.heap.size) (c0:=p0) (c1:=p1) (c2:=p2) (c3:=p3) (by simp)
   rcases oD (aC n0 n1 n2 n3) i with hb|hb
   ·rw[hb,show decide (0=1)=false from rfl]at he;subst he;have HS:=Lib.hid (show aC p0 p1 p2 p3=aC a0 a1 a2 a3^(aC n0 n1 n2 n3/2^i)%F.M by rw[HP.out]; exact Nf hb);have M7:=Lib.hid M6;clear hb M6;go_wp2_with fail
    go_roundw
    case rel=>exact⟨i,p0,p1,p2,p3,(i:Int)-1,by omega,Lib.hid rfl,by first|rfl|go_num,hp,HS,M7⟩
    case measure=>first|(simp[intOf]; done)|(simp[intOf]; omega)
   ·rw[hb,show decide (1=1)=true from rfl]at he;subst he;have Rr:=M6.row (b:=w1.heap.size) (c0:=p0) (c1:=p1) (c2:=p2) (c3:=p3) (by simp);have Ra:=M6.row (b:=w.heap.size) (c0:=a0) (c1:=a1) (c2:=a2) (c3:=a3) (by simp);have x0:=Rr.c0; have x1:=Rr.c1; have x2:=Rr.c2; have x3:=Rr.c3;have z0:=Ra.c0; have z1:=Ra.c1; have z2:=Ra.c2; have z3:=Ra.c3;have HB:=Lib.hid hb;have M7:=Lib.hid M6;clear hb M6 Rr Ra;go_wp2_with fail;refine (qY f F hf p0 p1 p2 p3 a0 a1 a2 a3 hp ha _).mono ?_
    rintro e w5 ⟨q0,q1,q2,q3,rfl,hq,hv,hbl⟩
    have HS:=Lib.hid (show aC q0 q1 q2 q3=aC a0 a1 a2 a3^(aC n0 n1 n2 n3/2^i)%F.M by rw[hv,HP.out]; exact Nd HB.out);have M8:=M7.out.on hbl;have lt8:=M8.lt (b:=w1.heap.size) (c0:=p0) (c1:=p1) (c2:=p2) (c3:=p3) (by simp);have Rr:=M8.row (b:=w1.heap.size) (c0:=p0) (c1:=p1) (c2:=p2) (c3:=p3) (by simp);have M9:=Lib.hid (M8.put q0 q1 q2 q3 (by omega) (by intro r hr; simp at hr; rcases hr with rfl|rfl|rfl<;>simp<;>omega));clear x0 x1 x2 x3 z0 z1 z2 z3 hv hbl M8;have x0:=Rr.c0; have x1:=Rr.c1; have x2:=Rr.c2; have x3:=Rr.c3; have xf:=Rr.fr;clear Rr;go_wp2_with fail
    go_roundw
    case rel=>exact⟨i,q0,q1,q2,q3,(i:Int)-1,by omega,Lib.hid rfl,by first|rfl|go_num,hq,HS,M9⟩
    case measure=>first|(simp[intOf]; done)|(simp[intOf]; omega)
  ·obtain rfl:j=0:=by omega
   obtain rfl:m = -1:=by have:=hm.out; omega
   have Rr:=HM.out.row (b:=w1.heap.size) (c0:=r0) (c1:=r1) (c2:=r2) (c3:=r3) (by simp);have x0:=Rr.c0; have x1:=Rr.c1; have x2:=Rr.c2; have x3:=Rr.c3;have Ro:=HM.out.row (b:=w.heap.size+1+1) (c0:=0) (c1:=0) (c2:=0) (c3:=0) (by simp);have o0:=Ro.c0; have o1:=Ro.c1; have o2:=Ro.c2; have o3:=Ro.c3; have of:=Ro.fr;have ltr:=HM.out.lt (b:=w1.heap.size) (c0:=r0) (c1:=r1) (c2:=r2) (c3:=r3) (by simp);have lto:=HM.out.lt (b:=w.heap.size+1+1) (c0:=0) (c1:=0) (c2:=0) (c3:=0) (by simp);clear Rr Ro hm;go_wp2_with fail;refine bodyPost_ret (v:=.agg #[.int .u64 r0,.int .u64 r1,.int .u64 r2,.int .u64 r3]) (by simp[results,results29,go_sem, *]) rfl ?_;refine⟨_,_,_,_,rfl,hr,by rw[HV.out,Nat.pow_zero,Nat.div_one],?_⟩;exact bQ HM.out.1 (by omega) _ _ _ _
theorem Bl {s0 s1 s2 s3:Nat} (hs:bY s0 s1 s2 s3) (h:aC s0 s1 s2 s3≠0) (w:World):(Op.equalIn 10000 52 (.agg #[.int .u64 s0,.int .u64 s1,.int .u64 s2,.int .u64 s3]) (.agg #[.int .u64 0,.int .u64 0,.int .u64 0,.int .u64 0])).run prog w=.ok false w:=by
 have h':=TM 9998 s0 s1 s2 s3 0 0 0 0 w;rw[vB (fun q=>h ((xL hs Lv).1 q))]at h';exact h'
theorem MK:prog.eqGuardType prog.depth 52=false:=by kernel_rfl
set_option maxHeartbeats 2000000 in
theorem zF (f:Int) (F:FC) (hf:FieldIs f F) (a0 a1 a2 a3:Nat) (ha:bY a0 a1 a2 a3) (hz:aC a0 a1 a2 a3%F.M≠0) (w:World) :
  Calls prog 16 #[.int .i64 f,.agg #[.int .u64 a0,.int .u64 a1,.int .u64 a2,.int .u64 a3]] w (fun e w'=>∃s0 s1 s2 s3:Nat,e=.returned (.tuple #[.agg #[.int .u64 s0,.int .u64 s1,.int .u64 s2,.int .u64 s3],.int .i64 0])∧bY s0 s1 s2 s3∧aC s0 s1 s2 s3=aC a0 a1 a2 a3^(F.M-2)%F.M∧Below w.heap.size w w'):=by
 have hG:=MK;have h2:=hf.ok.gt
 go_enter func16,ntmps16
 go_wp2_with fail;have HM:=Lib.hid (((Mem.nil w).new (w.heap.size) a0 a1 a2 a3 34 (by simp)).new (w.heap.size+1) 0 0 0 0 34 (by simp));refine (jQ f F hf a0 a1 a2 a3 ha _).mono ?_
 rintro e w1 ⟨d0,d1,d2,d3,rfl,hd,hv,hbl⟩
 have HM':=Lib.hid (HM.out.on hbl);clear HM hbl;have HM:=HM';clear HM';have EQ:=Bl hd (by rw[hv]; exact hz);clear hv hz;go_wp2_with fail;refine (lO f F hf _).mono ?_
 rintro e w2 ⟨rfl,hbl⟩
 have HM':=Lib.hid (HM.out.on hbl);clear HM hbl;have HM:=HM';clear HM';go_wp2_with fail;refine (kL F.m0 F.m1 F.m2 F.m3 2 0 0 0 hf.ok.okm (show bY 2 0 0 0 by unfold bY; decide) _).mono ?_
 rintro e w3 ⟨n0,n1,n2,n3,c,rfl,hn,hc,hv,hbl⟩
 have HVn:=Lib.hid (show aC n0 n1 n2 n3=F.M-2 by
  have e2:aC 2 0 0 0=2:=rfl;have:=fW hn;rw[e2]at hv;have e3:aC F.m0 F.m1 F.m2 F.m3=F.M:=rfl;rw[e3]at hv;have:c=0:=by rcases (show c=0∨c=1 by omega)with h|h; exact h; subst h; omega
  subst this;omega)
 clear hv hc;have HM':=Lib.hid ((HM.out.on hbl).new w3.heap.size n0 n1 n2 n3 52 rfl);clear HM hbl;have HM:=HM';clear HM';have kr:=HM.out.row (b:=w.heap.size) (c0:=a0) (c1:=a1) (c2:=a2) (c3:=a3) (by simp);have x0:=kr.c0; have x1:=kr.c1; have x2:=kr.c2; have x3:=kr.c3;clear kr;have xl:w.heap.size<w3.heap.size:=by have:=HM.out.lt (b:=w.heap.size) (c0:=a0) (c1:=a1) (c2:=a2) (c3:=a3) (by simp); have l2:=HM.out.lt (b:=w.heap.size+1) (c0:=0) (c1:=0) (c2:=0) (c3:=0) (by simp); simp at l2; omega
 go_wp2_with fail;refine (DV f F hf a0 a1 a2 a3 n0 n1 n2 n3 ha hn _).mono ?_
 rintro e w4 ⟨s0,s1,s2,s3,rfl,hs,hv,hbl⟩
 have HVs:=Lib.hid (show aC s0 s1 s2 s3=aC a0 a1 a2 a3^(F.M-2)%F.M by rw[hv,HVn.out]);have HM':=Lib.hid (HM.out.on hbl);clear HM hbl hv x0 x1 x2 x3 xl;have HM:=HM';clear HM';have kr:=HM.out.row (b:=w.heap.size+1) (c0:=0) (c1:=0) (c2:=0) (c3:=0) (by simp);have y0:=kr.c0; have y1:=kr.c1; have y2:=kr.c2; have y3:=kr.c3; have yf:=kr.fr;have yl:=HM.out.lt (b:=w.heap.size+1) (c0:=0) (c1:=0) (c2:=0) (c3:=0) (by simp);clear kr;go_wp2_with fail;refine bodyPost_ret (v:=.tuple #[.agg #[.int .u64 s0,.int .u64 s1,.int .u64 s2,.int .u64 s3],.int .i64 0]) (by simp[results,results16,go_sem, *]) rfl ?_;refine⟨_,_,_,_,rfl,hs,HVs.out,?_⟩;exact bQ HM.out.1 (by omega) _ _ _ _
end Go.Proofs.YtpbljiejmfahcaaDoor
namespace Go.Proofs.YtpbljiejmfahcaaDoor.Ex
open Go.Proofs.Tryd
open Go.RowKit
theorem Fz (x:Nat) (h:aW [x<RM,x≠0]) (w:World):bU prog 16 (.many [.fl [.q (LF x)],.im (.int .i64 0)]) [.int .i64 2,.agg (aB [At.q x]).toArray] w:=by
 have:=zF 2 _ tW _ _ _ _ (kZ x) (by rw[VW h.1]; exact fun q=>h.2.1 (by rw[←q]; exact (Nat.mod_eq_of_lt h.1).symm)) w;rw[VW h.1]at this;refine this.mono ?_
 rintro e w' ⟨s0,s1,s2,s3,rfl,hs,hv,hb⟩
 rw[show x^(Go.Proofs.YtpbljiejmfahcaaDoor.FR.M-2)%Go.Proofs.YtpbljiejmfahcaaDoor.FR.M=LF x by unfold LF; rw[Nat.one_mul]]at hv;obtain⟨rfl,rfl,rfl,rfl⟩:=nX hs (dP (Fx x)) hv;exact⟨rfl,hb⟩
def Yy:Nat→RV:=fun x=>.one (.im (.bool (decide (x<RM))))
theorem Ga (x:Nat) (h:aW [x<cU]) (w:World):bU prog 11 (Yy x) [.int .i64 2,.agg (aB [At.q x]).toArray] w:=by
 have:=wM 2 _ tW _ _ _ _ (kZ x) w;rw[jL h.1]at this;exact this.mono fun e w' q=>q
def vZ:List (Nat×TV)→List Fact
 | []=>[]
 | (s,t)::r=>.slot s t.av::vZ r
theorem eW:∀{l:List (Nat×TV)} {φ:Fact},φ∈vZ l→∃x∈l,φ=.slot x.1 x.2.av
 | x::r,φ,h=>by
  rcases List.mem_cons.1 h with rfl|h
  ·exact⟨x,List.mem_cons_self,rfl⟩
  ·obtain⟨y,h1,h2⟩:=eW h;exact⟨y,List.mem_cons_of_mem _ h1,h2⟩
theorem Holds.freshQ {nt base:Nat} {w0:World} {A:List Fact} {a:Act} {w:World} (h:Holds nt base w0 A a w) (l:List (Nat×TV)) (hl:∀x∈l,a.tmps[x.1]?=some x.2.den):Holds nt w.heap.size w (vZ l) a w:=by
 refine⟨h.defers,h.size,Below.refl _ _,Nat.le_refl _,fun _=>(w.heap.size,0,0),fun φ hφ => ?_,fun k k' o' l1 l2 h1 => ?_,fun k l1 h1 => ?_,Nat.le_refl _,fun p h1 h2=>⟨rfl,rfl⟩,Shape.refl _⟩
 ·obtain⟨x,hx,rfl⟩:=eW hφ;show a.tmps[x.1]?=_;rw[TV.av_den];exact hl x hx
 ·obtain⟨x,_,e⟩:=eW h1; cases e
 ·obtain⟨x,_,e⟩:=eW h1; cases e
def JI (A:List Fact) (s:Nat):Option TV:=match nT A s with
 | some (.im v)=>some (.im v)
 | some (.fl l)=>some (.fl l)
 | some (.pt k o)=>(match pD A k with|some b=>some (.im (ptV b o))|none=>none)
 | some (.sl k o n m)=>(match pD A k with|some b=>some (.im (aT b o n m))|none=>none)
 | _=>none
def qB (A:List Fact):List Nat→Option (List (Nat×TV))
 | []=>some []
 | s::r=>match JI A s,qB A r with|some t,some l=>some ((s,t)::l)|_,_=>none
def mF (A:List Fact):List Operand→Option (List Value)
 | []=>some []
 | .tmp s::r=>(match JI A s,mF A r with|some t,some l=>some (t.den::l)|_,_=>none)
 | .const v::r=>(match mF A r with|some l=>some (v::l)|none=>none)
 | _=>none
section
variable {P:Program} {nt base:Nat} {w0 w:World} {A:List Fact} {a:Act}
theorem BC (h:Holds nt base w0 A a w) {s:Nat} {t:TV} (e:JI A s=some t):a.tmps[s]?=some t.den:=by
 obtain⟨β,g1,_⟩:=h.facts;unfold JI at e;split at e
 ·rename_i v hv; cases e; exact g1 _ (cL hv)
 ·rename_i v hv; cases e; exact g1 _ (cL hv)
 ·rename_i k o hv;split at e
  ·rename_i b hb;cases e;have e1:a.tmps[s]?=some (.pointer (some ⟨(β k).1,(β k).2.1+o,none⟩)):=g1 _ (cL hv);have e2:=g1 _ (dQ hb);simp only[Fact.ok]at e2;rw[e1,e2.1,e2.2,Nat.zero_add];rfl
  ·cases e
 ·rename_i k o n m hv;split at e
  ·rename_i b hb;cases e;have e1:a.tmps[s]?=some (.slice (some ⟨(β k).1,(β k).2.1+o,none⟩) n m):=g1 _ (cL hv);have e2:=g1 _ (dQ hb);simp only[Fact.ok]at e2;rw[e1,e2.1,e2.2,Nat.zero_add];rfl
  ·cases e
 ·cases e
theorem sH (h:Holds nt base w0 A a w):∀{ks:List Nat} {l:List (Nat×TV)},qB A ks=some l→∀x∈l,x.1∈ks∧a.tmps[x.1]?=some x.2.den
 | [],l,e,x,hx=>by cases e; cases hx
 | s::r,l,e,x,hx=>by
  unfold qB at e;split at e
  ·rename_i t l' ht hl;cases e
   rcases List.mem_cons.1 hx with rfl|hx
   ·exact⟨List.mem_cons_self,BC h ht⟩
   ·obtain⟨p1,p2⟩:=sH h hl x hx;exact⟨List.mem_cons_of_mem _ p1,p2⟩
  ·cases e
theorem mY (h:Holds nt base w0 A a w):∀{xs:List Operand} {vs:List Value},mF A xs=some vs→xs.map a.eval=vs
 | [],vs,e=>by cases e; rfl
 | .tmp s::r,vs,e=>by
  unfold mF at e;split at e
  ·rename_i t l ht hl;cases e;rw[List.map_cons,mY h hl];have:=BC h ht;simp[Act.eval,this]
  ·cases e
 | .const v::r,vs,e=>by
  unfold mF at e;split at e
  ·rename_i l hl;cases e;rw[List.map_cons,mY h hl];rfl
  ·cases e
 | .func _::r,vs,e=>by cases e
theorem CE (h:Holds nt base w0 A a w) {big:Array Oper} {Q:Exit→Act→World→Prop} {R:List Nat} {i id d:Nat} {o:Oper} {xs:Array Operand} {ts:Array TypeId} {vs:List Value} {ks:List Nat} {keep:List (Nat×TV)} (ho:big[i]?=some o) (hoo:o.op=.call ⟨.value (.func id),xs,ts⟩) (hod:o.dst=some d) (hog:o.guard=none) (hd:d<nt) (hvs:mF A xs.toList=some vs) (hk:qB A ks=some keep) (hn:ks.all (fun s => !Nat.beq s d)=true)
  (he:∀xs w,(callFunc id xs).run P w=.ok (.enter id xs) w) {S:Ending→World→Prop} (hc:Calls P id vs.toArray w S)
  (hK:∀e w',S e w'→∃v,e=.returned v∧∀a',Holds nt w'.heap.size w' (vZ ((d,.im v)::keep)) a' w'→wpOps P big Q R a' w'):wpOps P big Q (i::R) a w:=by
 refine bC ho hog (bT hoo (mY h hvs) (fun xs=>he xs _) hc fun e w' hS => ?_);obtain⟨v,rfl,hk'⟩:=hK e w' hS;refine⟨v,rfl,?_⟩;rw[hod];refine hk' _ ⟨by rw[fR]; exact h.defers,by rw[aR]; exact h.size,Below.refl _ _,Nat.le_refl _,fun _=>(w'.heap.size,0,0),fun φ hφ => ?_,fun k k' o' l1 l2 h1 => ?_,fun k l1 h1 => ?_,Nat.le_refl _,fun p h1 h2=>⟨rfl,rfl⟩,Shape.refl _⟩
 ·obtain⟨x,hx,rfl⟩:=eW hφ;show (a.put (some d) v).tmps[x.1]?=_;rw[TV.av_den]
  rcases List.mem_cons.1 hx with rfl|hx
  ·rw[aZ _ _ _ (by rw[h.size]; exact hd)];rfl
  ·obtain⟨p1,p2⟩:=sH h hk x hx;have hne:x.1≠d:=fun e=>by
    have:=List.all_eq_true.1 hn _ p1;rw[e,Nat.beq_refl]at this;cases this
   rw[gO _ _ _ _ (fun e=>hne (Option.some.inj e).symm)];exact p2
 ·obtain⟨x,_,e⟩:=eW h1; cases e
 ·obtain⟨x,_,e⟩:=eW h1; cases e
end
theorem Holds.anewSQ {nt base:Nat} {w0:World} {A:List Fact} {a:Act} {w:World} (h:Holds nt base w0 A a w) {w':World} (hb:Below base w0 w') (hs:Shape w w') (hh:base≤w'.heap.size) {d k b n cap e sz:Nat} {l:List At} (hd:d<nt) (h1:base≤b) (h2:b<w'.heap.size) (h3:w'.rangeAt b 0 (aB l)) (h4:∀j,w'.frozen? ⟨b,j,none⟩=false) (ha:AppAt w' b e sz n cap) (hk:k≠nt) :
  Holds nt base w0 [.slot d (.so k n),.row k true l,.app k e sz n] (a.put (some d) (.slice (some ⟨b,0,none⟩) n cap)) w':=by
 obtain⟨β,g1,g2,g3,gt⟩:=h.facts;refine⟨by rw[fR]; exact h.defers,by rw[aR]; exact h.size,hb,hh,fun j=>if j=nt then (0,0,0)else (b,0,cap),fun φ hφ => ?_,fun k1 k2 o2 l1 l2 q1 q2 hne => ?_,fun k1 l1 q1=>Or.inr ?_,?_,fun p p1 p2 => ?_,gt.shape.trans hs⟩
 ·simp only[List.mem_cons,List.not_mem_nil,or_false]at hφ
  rcases hφ with rfl|rfl|rfl
  ·show (a.put (some d) _).tmps[d]?=_;rw[aZ _ _ _ (by rw[h.size]; exact hd)];simp[AV.den,hk]
  ·refine⟨by simp[hk,h2],?_,fun _=>⟨by simp[hk,h1],by simp[hk],fun j=>by simp[hk,h4]⟩,fun h=>by cases h⟩;show w'.rangeAt (if k=nt then ((0,0,0):Bk)else (b,0,cap)).1 (if k=nt then ((0,0,0):Bk)else (b,0,cap)).2.1 _;rw[if_neg hk]; exact h3
  ·show AppAt w' (if k=nt then ((0,0,0):Bk)else (b,0,cap)).1 e sz n (if k=nt then ((0,0,0):Bk)else (b,0,cap)).2.2;rw[if_neg hk]; exact ha
 ·simp only[List.mem_cons,List.not_mem_nil,or_false,reduceCtorEq,false_or]at q1 q2;cases q1; cases q2; exact (hne rfl).elim
 ·show (if nt=nt then ((0,0,0):Bk)else (b,0,cap)).1≤_;rw[if_pos rfl]; exact Nat.zero_le _
 ·show (if nt=nt then ((0,0,0):Bk)else (b,0,cap)).1≤_;rw[if_pos rfl]; exact Nat.zero_le _
 ·exfalso;have h2:p.block<(if nt=nt then ((0,0,0):Bk)else (b,0,cap)).1:=p2;rw[if_pos rfl]at h2;exact absurd h2 (Nat.not_lt_zero _)
theorem Ja:Ls prog 24=some (34,4,32):=by kernel_rfl
theorem tD (f:Nat→Nat):∀n s,(aB (aG (el f) s n)).length=n*4
 | 0,s=>by rw[Nat.zero_mul]; rfl
 | n+1,s=>by
  show (aB (el f s++aG (el f) (s+1) n)).length=_;rw[aL,List.length_append,tD f n (s+1),Nat.add_mul,Nat.one_mul,Nat.add_comm];rfl
theorem tB (f:Nat→Nat):∀n s,∀v∈aB (aG (el f) s n),v.oneCell'=true
 | 0,s,v,h=>by cases h
 | n+1,s,v,h=>by
  have h:v∈aB (el f s++aG (el f) (s+1) n):=h;rw[aL]at h
  rcases List.mem_append.1 h with h|h
  ·have h:v∈[Value.int .u64 (fw (f s) 0:Nat),.int .u64 (fw (f s) 1:Nat),.int .u64 (fw (f s) 2:Nat),.int .u64 (fw (f s) 3:Nat)]:=h;simp only[List.mem_cons,List.not_mem_nil,or_false]at h
   rcases h with rfl|rfl|rfl|rfl<;>rfl
  ·exact tB f n (s+1) v h
theorem vJ {w:World} {p:Option Addr} {m:Nat} (hp:p=none→m=0) (ty:TypeId):∃w',(Builtin.append_ #[24,24] ty #[.slice none 0 0,.slice p 0 m]).run prog w=.ok (.slice none 0 0) w'∧Below w.heap.size w w':=by
 obtain⟨ht,i,z,hi,hz,hsize,hby,hzs,hsz⟩:=tG Ja;cases p with
 | none =>
  rw[hp rfl];exact⟨w,run_append_owned_none (P:=prog) w w.heap.size _ ty _ i 4 ht hi _ 0 [] (World.ownsRow_nil w w.heap.size _ 4),Below.refl _ _⟩
 | some ad =>
  obtain⟨v',w',hr,hown,hg,hne⟩:=run_append_own (P:=prog) w w.heap.size _ ty _ i z 4 32 ht hi hz hsize hby hzs hsz _ 0 [] (World.ownsRow_nil w w.heap.size _ 4) ad 0 m [] rfl (fun j u hj=>by simp at hj) (fun u hu=>by cases hu) (by unfold maxLen; omega) (by omega) (Nat.le_refl _);have hv:v'=.slice none 0 0:=hne.2 ⟨rfl,rfl⟩;subst hv;exact⟨w',hr,(Below.refl w.heap.size w).grown hg (Nat.le_refl _) (fun k hk=>by cases hk)⟩
theorem FO {p:Nat→Prop} [DecidablePred p]:∀{N:Nat},(¬ ∀j,j<N→p j)→∃j,j<N∧(∀k,k<j→p k)∧¬p j:=by
 intro N
 induction N with
 | zero=>exact fun h=>(h fun j hj=>by omega).elim
 | succ N ih =>
  intro h
  by_cases h0:∀j,j<N→p j
  ·refine⟨N,by omega,h0,fun hp=>h fun j hj => ?_⟩
   by_cases e:j=N
   ·rw[e]; exact hp
   ·exact h0 j (by omega)
  ·obtain⟨j,h1,h2⟩:=ih h0;exact⟨j,by omega,h2⟩
def LWQ (w:World) (v:Value) (N:Nat) (f:Nat→Nat):Prop:=∃p m,v=.slice p N m∧(∀j,j<N→f j<cU)∧(0<N→∃b o,p=some ⟨b,o,none⟩∧b<w.heap.size∧w.rangeAt b o (aB (aG (el f) 0 N)))
theorem LV.lwQ {w:World} {v:Value} {N:Nat} {f:Nat→Nat} (h:LV w v N f):LWQ w v N f:=by
 obtain⟨p,m,h1,_,h3,h4⟩:=h;exact⟨p,m,h1,h3,h4⟩
theorem GT {x y:Nat} (hx:x<cU) (hy:y<cU):aB [At.q x]=aB [At.q y]↔x=y:=by
 constructor
 ·intro h;have h2:w4 x=w4 y:=by
   have h3:w4 x++[]=w4 y++[]:=h;simpa using h3
  unfold w4 at h2;simp only[List.cons.injEq,Value.int.injEq,true_and,and_true]at h2;obtain⟨e0,e1,e2,e3⟩:=h2;have h3:=jL hx;have h4:=jL hy;have c0:fw x 0=fw y 0:=by omega
  have c1:fw x 1=fw y 1:=by omega
  have c2:fw x 2=fw y 2:=by omega
  have c3:fw x 3=fw y 3:=by omega
  rw[c0,c1,c2,c3,h4]at h3;exact h3.symm
 ·rintro rfl
  rfl
def lK (N:Nat) (f:Nat→Nat) (M:Nat) (g:Nat→Nat):Prop:=N=M∧∀j,j<N→f j=g j
instance (N:Nat) (f:Nat→Nat) (M:Nat) (g:Nat→Nat):Decidable (lK N f M g):=@instDecidableAnd _ _ _ (Nat.decidableBallLT N fun j _=>f j=g j)
def mH (v u:Value) (i:Nat):List Fact:=[.slot 0 (.im v),.slot 1 (.im u),.slot 5 (.im (iI i))]
def eE:Code:=(f9.body).getD .skip
def lM:Code:=gV (gV (cB (cA (cB (cB eE)))))
theorem PE:eE=.seq (cA eE) (.seq (cA (cB eE)) (.seq (.seq (cA (cA (cB (cB eE)))) (.block 0 (.loop lM))) (cB (cB (cB eE))))):=by kernel_rfl
theorem Fm (v u:Value):aJ prog (qG prog) f9.ntmps (fun _=>tC T0 fun _=>none) 40 (cA eE) (eO 0 [.v (.im v),.v (.im u)]) [.slot 0 (.im v),.slot 1 (.im u)]=some ([],.nrm,[.slot 0 (.im v),.slot 1 (.im u)]):=by kernel_rfl
theorem Na (p q:Option Addr) (N m M m':Nat):aJ prog (qG prog) f9.ntmps (fun _=>tC T0 (aD [(10,.bool true)])) 40 (cA (cB eE)) [.slot 0 (.im (.slice p N m)),.slot 1 (.im (.slice q M m'))] [.slot 4 (.im (.bool false))]=some ([aF .neq .i64 (Int.ofNat N) (Int.ofNat M)=some (.bool true)],.rt,[.slot 4 (.im (.bool false))]):=by kernel_rfl
theorem Nb (p q:Option Addr) (N m M m':Nat):aJ prog (qG prog) f9.ntmps (fun _=>tC T0 (aD [(10,.bool false)])) 40 (cA (cB eE)) [.slot 0 (.im (.slice p N m)),.slot 1 (.im (.slice q M m'))] [.slot 0 (.im (.slice p N m)),.slot 1 (.im (.slice q M m'))]=some ([aF .neq .i64 (Int.ofNat N) (Int.ofNat M)=some (.bool false)],.nrm,[.slot 0 (.im (.slice p N m)),.slot 1 (.im (.slice q M m'))]):=by kernel_rfl
theorem Fl (v u:Value):aJ prog (qG prog) f9.ntmps (fun _=>tC T0 fun _=>none) 40 (cA (cA (cB (cB eE)))) [.slot 0 (.im v),.slot 1 (.im u)] (mH v u 0)=some ([],.nrm,mH v u 0):=by kernel_rfl
theorem Fo (w:World) (b o m b' o' m' N i x y:Nat):aJ prog { qG prog with x:=xO w (aD [(19,i),(23,i)]) (aD [(20,[.q x]),(24,[.q y])]) (fun _=>none) } f9.ntmps (fun _=>⟨fun _=>T0,fun _=>true,(aD [(14,.bool true),(16,iI (i+1))])⟩) 40 lM (mH (aT b o N m) (aT b' o' N m') i) (mH (aT b o N m) (aT b' o' N m') (i+1))=some ([aF .lss .i64 (Int.ofNat i) (Int.ofNat N)=some (.bool true),Int.ofNat i=Int.ofNat i,i<N,oldOf w b (o+i*4) [.q x],bW [.q x]=4,Int.ofNat i=Int.ofNat i,i<N,oldOf w b' (o'+i*4) [.q y],bW [.q y]=4,aB [.q x]=aB [.q y],aF .add .i64 (Int.ofNat i) 1=some (iI (i+1))],.nrm,mH (aT b o N m) (aT b' o' N m') (i+1)):=by kernel_rfl
theorem Fp (w:World) (b o m b' o' m' N i x y:Nat):aJ prog { qG prog with x:=xO w (aD [(19,i),(23,i)]) (aD [(20,[.q x]),(24,[.q y])]) (fun _=>none) } f9.ntmps (fun _=>⟨fun _=>T0,fun _=>false,(aD [(14,.bool true)])⟩) 40 lM (mH (aT b o N m) (aT b' o' N m') i) [.slot 4 (.im (.bool false))]=some ([aF .lss .i64 (Int.ofNat i) (Int.ofNat N)=some (.bool true),Int.ofNat i=Int.ofNat i,i<N,oldOf w b (o+i*4) [.q x],bW [.q x]=4,Int.ofNat i=Int.ofNat i,i<N,oldOf w b' (o'+i*4) [.q y],bW [.q y]=4,aB [.q x]≠aB [.q y]],.rt,[.slot 4 (.im (.bool false))]):=by kernel_rfl
theorem XG (p q:Option Addr) (N m M m' i:Nat):aJ prog (qG prog) f9.ntmps (fun _=>tC T0 (aD [(14,.bool false)])) 40 lM (mH (.slice p N m) (.slice q M m') i) (mH (.slice p N m) (.slice q M m') i)=some ([aF .lss .i64 (Int.ofNat i) (Int.ofNat N)=some (.bool false)],.ex 0,mH (.slice p N m) (.slice q M m') i):=by kernel_rfl
theorem PD (v u:Value) (i:Nat):aJ prog (qG prog) f9.ntmps (fun _=>tC T0 fun _=>none) 40 (cB (cB (cB eE))) (mH v u i) [.slot 4 (.im (.bool true))]=some ([],.rt,[.slot 4 (.im (.bool true))]):=by kernel_rfl
theorem oH {w0:World} {v u:Value} {N M:Nat} {f g:Nat→Nat} (hv:LWQ w0 v N f) (hu:LWQ w0 u M g) (hN:N≤4611686018427387904):bU prog 9 (.one (.im (.bool (decide (lK N f M g))))) [v,u] w0:=by
 have hG:bD prog (qG prog) w0.heap.size w0:=(bM _).w _ _;have hT:∀n d:Nat,TabOkW prog T0 w0.heap.size w0:=fun _ _=>(bH _).w _ _
 obtain⟨p,m,rfl,h256,hmem⟩:=hv;obtain⟨q,m',rfl,h256',hmem'⟩:=hu;refine bP func9 (cs:=[.v (.im (.slice p N m)),.v (.im (.slice q M m'))]) (args:=[.slice p N m,.slice q M m']) (c:=eE) rfl ⟨rfl,rfl,trivial⟩ (Nat.le_of_ble_eq_true (by kernel_rfl)) fun a w1 hA => ?_
 rw[PE];refine wp_seq (aA aH hT hG (Fm _ _) trivial hA fun a w1 hA => ?_);have bad:∀{a w},Holds f9.ntmps w0.heap.size w0 [.slot 4 (.im (.bool false))] a w→bodyPost prog f9 (fun e w'=>e=.returned (RV.den (.one (.im (.bool false))))∧Below w0.heap.size w0 w') .ret a w:=fun hA=>gT (l:=[.im (.bool false)]) (r:=.one (.im (.bool false))) (by kernel_rfl) (by kernel_rfl) hA
 by_cases hl:N=M
 ·subst hl;refine wp_seq (aA aH hT hG (Nb p q N m N m') ⟨by rw[Dj,decide_eq_false (by simp)],trivial⟩ hA fun a w1 hA => ?_);refine wp_seq (wp_seq (aA aH hT hG (Fl _ _) trivial hA fun a w1 hA => ?_));refine wp_block ?_;have step:∀i,i<N→f i=g i→Ok prog w0.heap.size w0 f9.ntmps lM (mH (.slice p N m) (.slice q N m') i) .nrm (mH (.slice p N m) (.slice q N m') (i+1)):=fun i hi he=>by
   obtain⟨b,o,rfl,hb,hr⟩:=hmem (by omega);obtain⟨b',o',rfl,hb',hr'⟩:=hmem' (by omega);exact⟨_,_,_,_,bX w0 _ _ _,fun _ _=>(bH _).w _ _,Fo w0 b o m b' o' m' N i (f i) (g i),bZ hi,rfl,hi,fT hb hr hi,rfl,rfl,hi,fT hb' hr' hi,rfl,by rw[he],dT (k:=1) (by omega),trivial⟩
  by_cases h:∀j,j<N→f j=g j
  ·rw[decide_eq_true (show lK N f N g from⟨rfl,h⟩)];refine dS aH (fun i=>mH (.slice p N m) (.slice q N m') i) N (fun i hi=>step i hi (h i hi)) (.ex 0) (by simp) (mH (.slice p N m) (.slice q N m') N) ⟨_,_,_,_,hG,hT,XG p q N m N m' N,bV (Nat.le_refl _),trivial⟩ hA fun a w hA => ?_
   show (cB (cB (cB eE))).wp _ _ _ _;exact aA aH hT hG (PD _ _ N) trivial hA fun a w' hA=>gT (l:=[.im (.bool true)]) (r:=.one (.im (.bool true))) (by kernel_rfl) (by kernel_rfl) hA
  ·rw[decide_eq_false (show ¬lK N f N g from fun q=>h q.2)];obtain⟨j,hj,h1,h2⟩:=FO (p:=fun j=>f j=g j) h;have hbad:Ok prog w0.heap.size w0 f9.ntmps lM (mH (.slice p N m) (.slice q N m') j) .rt [.slot 4 (.im (.bool false))]:=by
    obtain⟨b,o,rfl,hb,hr⟩:=hmem (by omega);obtain⟨b',o',rfl,hb',hr'⟩:=hmem' (by omega);exact⟨_,_,_,_,bX w0 _ _ _,fun _ _=>(bH _).w _ _,Fp w0 b o m b' o' m' N j (f j) (g j),bZ hj,rfl,hj,fT hb hr hj,rfl,rfl,hj,fT hb' hr' hj,rfl,fun e=>h2 ((GT (h256 j hj) (h256' j hj)).1 e),trivial⟩
   exact dS aH (fun i=>mH (.slice p N m) (.slice q N m') i) j (fun i hi=>step i (by omega) (h1 i hi)) .rt (by simp) [.slot 4 (.im (.bool false))] hbad hA fun a w hA=>bad hA
 ·rw[decide_eq_false (show ¬lK N f M g from fun q=>hl q.1)];exact wp_seq (aA aH hT hG (Na p q N m M m') ⟨by rw[Dj,decide_eq_true hl],trivial⟩ hA fun a w1 hA=>bad hA)
def cF:Code:=(f15.body).getD .skip
theorem BW:cF=.seq (cA cF) (.seq (cA (cB cF)) (.seq (.region 2 (aE (cA (cB (cB cF)))) false) .ret)):=by kernel_rfl
def Ju (v:Value):List Fact:=[.slot 0 (.im v),.slot 3 (.im (.slice none 0 0))]
theorem UM (v:Value):aJ prog (qG prog) f15.ntmps (fun _=>tC T0 fun _=>none) 40 (cA cF) (eO 0 [.v (.im v)]) [.slot 0 (.im v)]=some ([],.nrm,[.slot 0 (.im v)]):=by kernel_rfl
theorem UL (v:Value):aJ prog (qG prog) f15.ntmps (fun _=>tC T0 fun _=>none) 40 (cA (cB cF)) [.slot 0 (.im v)] (Ju v)=some ([],.nrm,Ju v):=by kernel_rfl
def pC (v:Value):List Fact:=[.slot 4 (.im (.slice none 0 0)),.slot 5 (.im v)]
theorem UK (v:Value):cS prog (qG prog) f15.ntmps (tC T0 fun _=>none) ((aE (cA (cB (cB cF)))).extract 0 2) (Ju v) (pC v)=some ([],pC v):=by kernel_rfl
theorem UJ (T:Nat) (l:List At):cS prog (qG prog) f15.ntmps (tC T0 fun _=>none) ((aE (cA (cB (cB cF)))).extract 3 4) [.slot 6 (.so 1000 T),.row 1000 true l,.app 1000 34 4 T] [.slot 2 (.so 1000 T),.row 1000 true l,.app 1000 34 4 T]=some ([],[.slot 2 (.so 1000 T),.row 1000 true l,.app 1000 34 4 T]):=by kernel_rfl
theorem UI (v:Value):cS prog (qG prog) f15.ntmps (tC T0 fun _=>none) ((aE (cA (cB (cB cF)))).extract 3 4) (.slot 6 (.im (.slice none 0 0))::pC v) [.slot 2 (.im (.slice none 0 0))]=some ([],[.slot 2 (.im (.slice none 0 0))]):=by kernel_rfl
theorem JZ (T:Nat) (l:List At):PQ prog [.slot 2 (.so 1000 T),.row 1000 true l,.app 1000 34 4 T] f15.results.toList []=some ⟨l,T,34,4,true,[],[]⟩:=by
 have h:Nat.beq T T=true:=Nat.beq_refl T;show (bif Nat.beq T T then some (FS.mk l T 34 4 true [] [])else none)=_;rw[h];rfl
theorem NE {w:World} {p:Option Addr} {N m:Nat} {f:Nat→Nat} (hv:LV w (.slice p N m) N f) (h0:0<N) (hN:N*32≤140737488355328) (ty:TypeId) :
  ∃b cap w',(Builtin.append_ #[24,24] ty #[.slice none 0 0,.slice p N m]).run prog w=.ok (.slice (some ⟨b,0,none⟩) N cap) w'∧AppAt w' b 34 4 N cap∧w.heap.size≤b∧b<w'.heap.size∧w'.rangeAt b 0 (aB (aG (el f) 0 N))∧(∀j,w'.frozen? ⟨b,j,none⟩=false)∧Below w.heap.size w w'∧Shape w w':=by
 obtain⟨p',m',e,h2,h3,h4⟩:=hv;cases e;obtain⟨b,o,rfl,hb,hr⟩:=h4 h0;obtain⟨c,cap,w',hr',a1,a2,a3,a4,a5,a6,a7⟩:=kK (P:=prog) w (ty:=ty) Ja (Or.inl ⟨rfl,rfl,rfl⟩) (ad:=⟨b,o,none⟩) (m:=N) (c:=m) (news:=aB (aG (el f) 0 N)) (tD f N 0) (fun j v hj=>by
  have e:(⟨b,o,none⟩:Addr).add j=⟨b,o+j,none⟩:=by simp[Addr.add]
  rw[e];exact hr j v hj) (tB f N 0) h0 (by omega) (by unfold maxLen; omega)
 rw[Nat.zero_add]at hr' a1;refine⟨c,cap,w',hr',a1,?_,a2,a3,a4,(Below.refl w.heap.size w).grown a5 (Nat.le_refl _) (fun k hk=>by cases hk),a6⟩
 rcases a7 with h|⟨c0,h⟩
 ·exact h
 ·cases h
theorem MV {w0:World} {p:Option Addr} {N m:Nat} {f:Nat→Nat} (hv:LV w0 (.slice p N m) N f) (hN:N*32≤140737488355328) (hp:p=none→m=0) :
  (N=0→bU prog 15 (.one (.im (.slice none 0 0))) [.slice p N m] w0) ∧
  (0<N→Calls prog 15 #[.slice p N m] w0 (fun e w'=>FS.ok ⟨aG (el f) 0 N,N,34,4,true,[],[]⟩ w0 e w')):=by
 have hG:bD prog (qG prog) w0.heap.size w0:=(bM _).w _ _;have hT:∀n d:Nat,TabOkW prog T0 w0.heap.size w0:=fun _ _=>(bH _).w _ _
 have first:∀R:Ending→World→Prop,(∀a w,Holds f15.ntmps w0.heap.size w0 (pC (.slice p N m)) a w→wpOps prog (aE (cA (cB (cB cF)))) (fun e a w=>match e with | .normal=>Code.ret.wp prog (bodyPost prog f15 R) a w|e=>bodyPost prog f15 R e a w) (2::(List.range' 3 ((aE (cA (cB (cB cF)))).extract 3 4).size++[])) a w)→Calls prog 15 #[.slice p N m] w0 R:=fun R hR=>by
  refine bP func15 (cs:=[.v (.im (.slice p N m))]) (args:=[.slice p N m]) (c:=cF) rfl ⟨rfl,trivial⟩ (Nat.le_of_ble_eq_true (by kernel_rfl)) fun a w' hA => ?_
  rw[BW];refine wp_seq (aA aH hT hG (UM _) trivial hA fun a w' hA => ?_);refine wp_seq (aA aH hT hG (UL _) trivial hA fun a w' hA => ?_);refine wp_seq (bI (l:=List.range' 0 ((aE (cA (cB (cB cF)))).extract 0 2).size++(2::(List.range' 3 ((aE (cA (cB (cB cF)))).extract 3 4).size++[]))) (by kernel_rfl) ?_);exact aK (c:=(tC T0 fun _=>none)) (hT 0) hG (UK _) trivial (by kernel_rfl) hA fun a w1 hA=>hR a w1 hA
 obtain⟨o,ho,hoo,hod,hog⟩:∃o,(aE (cA (cB (cB cF))))[2]?=some o∧o.op=.call ⟨.builtin .append,#[.tmp 4,.tmp 5],#[24,24]⟩∧o.dst=some 6∧o.guard=none:=⟨_,rfl,rfl,rfl,rfl⟩
 refine⟨fun h0=>first _ fun a w hA => ?_,fun h0=>first _ fun a w hA => ?_⟩
 ·have h20:a.eval (.tmp 4)=.slice none 0 0:=by have:=hA.slot (s:=4) (v:=.slice none 0 0) (by simp[pC]); simp[Act.eval,this]
  have h23:a.eval (.tmp 5)=.slice p 0 m:=by have:=hA.slot (s:=5) (v:=.slice p N m) (by simp[pC]); rw[h0]at this; simp[Act.eval,this]
  obtain⟨w',hr,hb⟩:=vJ (w:=w) hp o.type;have hrun:(execOp a.eval o).run prog w=.ok (.value (.slice none 0 0)) w':=by
   unfold execOp;simp only[hoo,resolve,invoke,builtin,Sem.run_bind,Sem.run_pure,Result.andThen_ok,List.map_toArray,List.map_cons,List.map_nil,h20,h23,hr]
  refine bC ho hog (cY hrun ?_);rw[hod];have hA:=hA.put hb (d:=6) (Nat.le_of_ble_eq_true (by kernel_rfl)) (.im (.slice none 0 0)) (zL (by kernel_rfl));exact aK (c:=(tC T0 fun _=>none)) (hT 0) hG (UI _) trivial (by kernel_rfl) hA fun a w1 hA=>wp_ret (gT (l:=[.im (.slice none 0 0)]) (r:=.one (.im (.slice none 0 0))) (by kernel_rfl) (by kernel_rfl) hA)
 ·have h20:a.eval (.tmp 4)=.slice none 0 0:=by have:=hA.slot (s:=4) (v:=.slice none 0 0) (by simp[pC]); simp[Act.eval,this]
  have h23:a.eval (.tmp 5)=.slice p N m:=by have:=hA.slot (s:=5) (v:=.slice p N m) (by simp[pC]); simp[Act.eval,this]
  obtain⟨b,cap,w',hr,a1,a2,a3,a4,a5,hb,hs⟩:=NE (hv.on hA.below) h0 hN o.type;have hrun:(execOp a.eval o).run prog w=.ok (.value (.slice (some ⟨b,0,none⟩) N cap)) w':=by
   unfold execOp;simp only[hoo,resolve,invoke,builtin,Sem.run_bind,Sem.run_pure,Result.andThen_ok,List.map_toArray,List.map_cons,List.map_nil,h20,h23,hr]
  refine bC ho hog (cY hrun ?_);rw[hod];have hsz:=hA.below.size;have hA:=hA.anewSQ (hA.below.trans (hb.mono hsz)) hs (Nat.le_trans hsz hb.size) (d:=6) (k:=1000) (Nat.le_of_ble_eq_true (by kernel_rfl)) (Nat.le_trans hsz a2) a3 a4 a5 a1 (by rw[show f15.ntmps=7 by kernel_rfl]; omega);exact aK (c:=(tC T0 fun _=>none)) (hT 0) hG (UJ N _) trivial (by kernel_rfl) hA fun a w1 hA=>wp_ret (uU (JZ _ _) hA)
theorem LWQ.on {w w':World} {v:Value} {N:Nat} {f:Nat→Nat} (h:LWQ w v N f) (hb:Below w.heap.size w w'):LWQ w' v N f:=by
 obtain⟨p,m,h1,h3,h4⟩:=h;refine⟨p,m,h1,h3,fun h0 => ?_⟩;obtain⟨b,o,e,g1,g2⟩:=h4 h0;exact⟨b,o,e,Nat.lt_of_lt_of_le g1 hb.size,dE hb g1 g2⟩
def AlkQ (w:World) (u u':Value):Prop:=∃n g g',LWQ w u n g∧LWQ w u' n g'∧(∀j,j<n→g j=g' j)∧n≤4611686018427387904
theorem AlkQ.on {w w':World} {u u':Value} (h:AlkQ w u u') (hb:Below w.heap.size w w'):AlkQ w' u u':=by
 obtain⟨n,g,g',h1,h2,h3⟩:=h;exact⟨n,g,g',h1.on hb,h2.on hb,h3⟩
theorem Holds.imTuQ {nt base:Nat} {w0:World} {A:List Fact} {a:Act} {w:World} (h:Holds nt base w0 A a w) {s:Nat} {v:Value} {l:List TV} (h1:Fact.slot s (.im v)∈A) (e:v=.tuple (l.map TV.den).toArray):Holds nt base w0 (.slot s (.tu l)::A) a w:=by
 obtain⟨β,g1,g2,g3⟩:=h.facts;have e1:=g1 _ h1;have up:∀k1 o1 l1,Fact.row k1 o1 l1∈(Fact.slot s (.tu l)::A)→Fact.row k1 o1 l1∈A:=fun k1 o1 l1 q=>by
  rcases List.mem_cons.1 q with q|q
  ·cases q
  ·exact q
 refine⟨h.defers,h.size,h.below,h.heap,β,fun φ hφ => ?_,fun k1 k2 o2 l1 l2 q1 q2=>g2 k1 k2 o2 l1 l2 (up _ _ _ q1) (up _ _ _ q2),fun k1 l1 q=>g3.1 k1 l1 (up _ _ _ q),g3.2⟩
 rcases List.mem_cons.1 hφ with rfl|hφ
 ·show a.tmps[s]?=some (.tuple (l.map TV.den).toArray);rw[←e]; exact e1
 ·exact g1 φ hφ
end Go.Proofs.YtpbljiejmfahcaaDoor.Ex
