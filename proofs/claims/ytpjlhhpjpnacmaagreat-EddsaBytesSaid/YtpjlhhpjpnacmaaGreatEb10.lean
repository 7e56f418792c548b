/- Eb10 -/
import Derived.Deep.DeepCutAuto
import Derived.Test.YtpjlhhpjpnacmaaGreatEb09
import Derived.Test.YtpjlhhpjpnacmaaGreatEb03
import Derived.Test.YtpjlhhpjpnacmaaGreatEb04
import Derived.Test.YtpjlhhpjpnacmaaGreatProg
set_option maxRecDepth 100000
set_option linter.unusedVariables false
set_option linter.unusedSimpArgs false
set_option linter.unnecessarySimpa false
namespace Go.Proofs.YtpjlhhpjpnacmaaGreat
open Go.Proofs.Tryz
open Go.RowKit
theorem readyB_at {ops:Array Oper} {got:Nat→Bool} {i:Nat} {o:Oper} {e:Edge} (h:nJ .any ops got i=true) (ho:ops[i]?=some o) (he:e∈o.after) (hb:Region.binds .any e=true):got e.on=true:=by
 unfold nJ at h;rw[ho]at h;have:=(Array.all_eq_true_iff_forall_mem.1 h) e he;simpa[hb]using this
def HalfV (A:Nat) (t:Value):Prop:=∃x0 x1 x2 x3 x4 x5 x6 x7:Nat,t=.agg #[.int .u64 x0,.int .u64 x1,.int .u64 x2,.int .u64 x3,.int .u64 x4,.int .u64 x5,.int .u64 x6,.int .u64 x7]∧MD x0 x1 x2 x3 x4 x5 x6 x7∧Hid (jD x0 x1 x2 x3 x4 x5 x6 x7=A)
def FreshZ (wr u:World) (t:Value):Prop:=∃p,t=.pointer (some ⟨p,0,none⟩)∧wr.heap.size≤p∧p<u.heap.size∧RowIs u p 8 (fun _=>0)
theorem FreshZ.grow {wr u u':World} {t:Value} (h:FreshZ wr u t) (hb:Below u.heap.size u u'):FreshZ wr u' t:=by
 obtain⟨p,e,h1,h2,r⟩:=h;exact⟨p,e,h1,Nat.lt_of_lt_of_le h2 hb.size,r.below hb h2⟩
theorem fresh_new (wr u:World) (hs:wr.heap.size≤u.heap.size) (t:TypeId):FreshZ wr (u.alloc (.cells #[.int .u64 0,.int .u64 0,.int .u64 0,.int .u64 0,.int .u64 0,.int .u64 0,.int .u64 0,.int .u64 0] t)) (.pointer (some ⟨u.heap.size,0,none⟩)) :=
 ⟨_,rfl,hs,by simp,by
  intro k hk;refine⟨?_,World.frozen?_alloc_new _ _ _ _⟩;rw[World.cell?_alloc_new]
  match k,hk with
  | 0,_|1,_|2,_|3,_|4,_|5,_|6,_|7,_=>rfl⟩
theorem below_alloc (u:World) (o:Obj):Below u.heap.size u (u.alloc o):=(Below.refl _ _).alloc (Nat.le_refl _) o
theorem fresh_ne {wr u:World} {t:Value} (h:FreshZ wr u t):t ≠ .pointer (some ⟨u.heap.size,0,none⟩):=by
 obtain⟨p,rfl,_,h2,_⟩:=h;intro e;injection e with e;injection e with e;injection e with e;omega
def set8 (w:World) (b:Nat) (d0 d1 d2 d3 d4 d5 d6 d7:Nat):World :=
 (((((((w.setCell ⟨b,0,none⟩ (.int .u64 d0)).setCell ⟨b,1,none⟩ (.int .u64 d1)).setCell ⟨b,2,none⟩ (.int .u64 d2)).setCell ⟨b,3,none⟩ (.int .u64 d3)).setCell ⟨b,4,none⟩ (.int .u64 d4)).setCell ⟨b,5,none⟩ (.int .u64 d5)).setCell ⟨b,6,none⟩ (.int .u64 d6)).setCell ⟨b,7,none⟩ (.int .u64 d7)
theorem RowIs.ext {w:World} {b n:Nat} {P R:Nat→Nat} (h:RowIs w b n P) (e:∀k,k<n→P k=R k):RowIs w b n R:=fun k hk=>⟨by rw[←e k hk]; exact h.cell hk,h.free hk⟩
theorem RowIs.set8 {w:World} {b:Nat} {P:Nat→Nat} (h:RowIs w b 8 P) (d0 d1 d2 d3 d4 d5 d6 d7:Nat):RowIs (Go.Proofs.YtpjlhhpjpnacmaaGreat.set8 w b d0 d1 d2 d3 d4 d5 d6 d7) b 8 (cQ [d0,d1,d2,d3,d4,d5,d6,d7]):=by
 have r:=(((((((h.set (show 0<8 by omega) (v:=d0)).set (show 1<8 by omega) (v:=d1)).set (show 2<8 by omega) (v:=d2)).set (show 3<8 by omega) (v:=d3)).set (show 4<8 by omega) (v:=d4)).set (show 5<8 by omega) (v:=d5)).set (show 6<8 by omega) (v:=d6)).set (show 7<8 by omega) (v:=d7);unfold Go.Proofs.YtpjlhhpjpnacmaaGreat.set8;refine r.ext fun k hk => ?_
 match k,hk with
 | 0,_|1,_|2,_|3,_|4,_|5,_|6,_|7,_=>rfl
theorem RowIs.set8_other {w:World} {b c n:Nat} {P:Nat→Nat} (h:RowIs w b n P) (hc:c≠b) (d0 d1 d2 d3 d4 d5 d6 d7:Nat):RowIs (Go.Proofs.YtpjlhhpjpnacmaaGreat.set8 w c d0 d1 d2 d3 d4 d5 d6 d7) b n P :=
 (((((((h.other hc _).other hc _).other hc _).other hc _).other hc _).other hc _).other hc _).other hc _
theorem below_set8 {B:Nat} {w w':World} {b:Nat} (h:Below B w w') (hb:B≤b) (d0 d1 d2 d3 d4 d5 d6 d7:Nat):Below B w (set8 w' b d0 d1 d2 d3 d4 d5 d6 d7) :=
 (((((((h.setCell (p:=⟨b,0,none⟩) hb _).setCell (p:=⟨b,1,none⟩) hb _).setCell (p:=⟨b,2,none⟩) hb _).setCell (p:=⟨b,3,none⟩) hb _).setCell (p:=⟨b,4,none⟩) hb _).setCell (p:=⟨b,5,none⟩) hb _).setCell (p:=⟨b,6,none⟩) hb _).setCell (p:=⟨b,7,none⟩) hb _
theorem size_set8 (w:World) (b d0 d1 d2 d3 d4 d5 d6 d7:Nat):(set8 w b d0 d1 d2 d3 d4 d5 d6 d7).heap.size=w.heap.size:=by
 unfold set8; simp only[World.size_setCell]
theorem fnOf8_lt {x0 x1 x2 x3 x4 x5 x6 x7:Nat} (h:MD x0 x1 x2 x3 x4 x5 x6 x7) (k:Nat):cQ [x0,x1,x2,x3,x4,x5,x6,x7] k<4294967296:=by
 obtain⟨h0,h1,h2,h3,h4,h5,h6,h7⟩:=h;unfold cQ
 match k with
 | 0=>exact h0
 | 1=>exact h1
 | 2=>exact h2
 | 3=>exact h3
 | 4=>exact h4
 | 5=>exact h5
 | 6=>exact h6
 | 7=>exact h7
 | k+8=>simp
theorem val8_tot (P:Nat→Nat):jD (P 0) (P 1) (P 2) (P 3) (P 4) (P 5) (P 6) (P 7)=cD 4294967296 P 8:=by
 unfold jD;simp only[cD];omega
structure R3 (got:Nat→Bool) (wr:World) (f:Int) (F:FC) (a0 a1 a2 a3 b0 b1 b2 b3:Nat) (t7 t8 t9 s21 s22 s23 s24 s25 s26 s27:Value) (u:World):Prop where
 below:Below wr.heap.size wr u
 g0:got 0=true→s21=.agg #[.int .u64 a0,.int .u64 a1,.int .u64 a2,.int .u64 a3]
 g1:got 1=true→HalfV (aA a0 a1 a2 a3) s22
 g2:got 2=true→s23=.agg #[.int .u64 b0,.int .u64 b1,.int .u64 b2,.int .u64 b3]
 g3:got 3=true→HalfV (aA b0 b1 b2 b3) s24
 g4:got 4=true→s25=.int .i64 f
 g5:got 5=true→s26=.agg #[.int .u64 F.m0,.int .u64 F.m1,.int .u64 F.m2,.int .u64 F.m3]
 g6:got 6=true→HalfV F.M s27
 g7:got 7=true→FreshZ wr u t7
 g8:got 8=true→FreshZ wr u t8
 g9:got 9=true→FreshZ wr u t9
 n78:got 7=true→got 8=true→t7≠t8
 n79:got 7=true→got 9=true→t7≠t9
 n89:got 8=true→got 9=true→t8≠t9
section
variable {got:Nat→Bool} {wr u u':World} {f:Int} {F:FC} {a0 a1 a2 a3 b0 b1 b2 b3:Nat} {t7 t8 t9 s21 s22 s23 s24 s25 s26 s27:Value}
theorem R3.start (wr:World) (f:Int) (F:FC) (a0 a1 a2 a3 b0 b1 b2 b3:Nat):R3 (fun _=>false) wr f F a0 a1 a2 a3 b0 b1 b2 b3 undef undef undef undef undef undef undef undef undef undef wr.drew :=
 ⟨(Below.refl _ _).drew,fun h=>Bool.noConfusion h,fun h=>Bool.noConfusion h,fun h=>Bool.noConfusion h,fun h=>Bool.noConfusion h,fun h=>Bool.noConfusion h,fun h=>Bool.noConfusion h,fun h=>Bool.noConfusion h,fun h=>Bool.noConfusion h,fun h=>Bool.noConfusion h,fun h=>Bool.noConfusion h,fun h=>Bool.noConfusion h,fun h=>Bool.noConfusion h,fun h=>Bool.noConfusion h⟩
theorem R3.op0 (h:R3 got wr f F a0 a1 a2 a3 b0 b1 b2 b3 t7 t8 t9 s21 s22 s23 s24 s25 s26 s27 u):R3 (fun j=>j==0||got j) wr f F a0 a1 a2 a3 b0 b1 b2 b3 t7 t8 t9 (.agg #[.int .u64 a0,.int .u64 a1,.int .u64 a2,.int .u64 a3]) s22 s23 s24 s25 s26 s27 u :=
 ⟨h.below,fun _=>rfl,fun e=>h.g1 (by simpa using e),fun e=>h.g2 (by simpa using e),fun e=>h.g3 (by simpa using e),fun e=>h.g4 (by simpa using e),fun e=>h.g5 (by simpa using e),fun e=>h.g6 (by simpa using e),fun e=>h.g7 (by simpa using e),fun e=>h.g8 (by simpa using e),fun e=>h.g9 (by simpa using e),fun e e'=>h.n78 (by simpa using e) (by simpa using e'),fun e e'=>h.n79 (by simpa using e) (by simpa using e'),fun e e'=>h.n89 (by simpa using e) (by simpa using e')⟩
theorem R3.op1 (h:R3 got wr f F a0 a1 a2 a3 b0 b1 b2 b3 t7 t8 t9 s21 s22 s23 s24 s25 s26 s27 u) {x:Value} (hx:HalfV (aA a0 a1 a2 a3) x):R3 (fun j=>j==1||got j) wr f F a0 a1 a2 a3 b0 b1 b2 b3 t7 t8 t9 s21 x s23 s24 s25 s26 s27 u :=
 ⟨h.below,fun e=>h.g0 (by simpa using e),fun _=>hx,fun e=>h.g2 (by simpa using e),fun e=>h.g3 (by simpa using e),fun e=>h.g4 (by simpa using e),fun e=>h.g5 (by simpa using e),fun e=>h.g6 (by simpa using e),fun e=>h.g7 (by simpa using e),fun e=>h.g8 (by simpa using e),fun e=>h.g9 (by simpa using e),fun e e'=>h.n78 (by simpa using e) (by simpa using e'),fun e e'=>h.n79 (by simpa using e) (by simpa using e'),fun e e'=>h.n89 (by simpa using e) (by simpa using e')⟩
theorem R3.op2 (h:R3 got wr f F a0 a1 a2 a3 b0 b1 b2 b3 t7 t8 t9 s21 s22 s23 s24 s25 s26 s27 u):R3 (fun j=>j==2||got j) wr f F a0 a1 a2 a3 b0 b1 b2 b3 t7 t8 t9 s21 s22 (.agg #[.int .u64 b0,.int .u64 b1,.int .u64 b2,.int .u64 b3]) s24 s25 s26 s27 u :=
 ⟨h.below,fun e=>h.g0 (by simpa using e),fun e=>h.g1 (by simpa using e),fun _=>rfl,fun e=>h.g3 (by simpa using e),fun e=>h.g4 (by simpa using e),fun e=>h.g5 (by simpa using e),fun e=>h.g6 (by simpa using e),fun e=>h.g7 (by simpa using e),fun e=>h.g8 (by simpa using e),fun e=>h.g9 (by simpa using e),fun e e'=>h.n78 (by simpa using e) (by simpa using e'),fun e e'=>h.n79 (by simpa using e) (by simpa using e'),fun e e'=>h.n89 (by simpa using e) (by simpa using e')⟩
theorem R3.op3 (h:R3 got wr f F a0 a1 a2 a3 b0 b1 b2 b3 t7 t8 t9 s21 s22 s23 s24 s25 s26 s27 u) {x:Value} (hx:HalfV (aA b0 b1 b2 b3) x):R3 (fun j=>j==3||got j) wr f F a0 a1 a2 a3 b0 b1 b2 b3 t7 t8 t9 s21 s22 s23 x s25 s26 s27 u :=
 ⟨h.below,fun e=>h.g0 (by simpa using e),fun e=>h.g1 (by simpa using e),fun e=>h.g2 (by simpa using e),fun _=>hx,fun e=>h.g4 (by simpa using e),fun e=>h.g5 (by simpa using e),fun e=>h.g6 (by simpa using e),fun e=>h.g7 (by simpa using e),fun e=>h.g8 (by simpa using e),fun e=>h.g9 (by simpa using e),fun e e'=>h.n78 (by simpa using e) (by simpa using e'),fun e e'=>h.n79 (by simpa using e) (by simpa using e'),fun e e'=>h.n89 (by simpa using e) (by simpa using e')⟩
theorem R3.op4 (h:R3 got wr f F a0 a1 a2 a3 b0 b1 b2 b3 t7 t8 t9 s21 s22 s23 s24 s25 s26 s27 u):R3 (fun j=>j==4||got j) wr f F a0 a1 a2 a3 b0 b1 b2 b3 t7 t8 t9 s21 s22 s23 s24 (.int .i64 f) s26 s27 u :=
 ⟨h.below,fun e=>h.g0 (by simpa using e),fun e=>h.g1 (by simpa using e),fun e=>h.g2 (by simpa using e),fun e=>h.g3 (by simpa using e),fun _=>rfl,fun e=>h.g5 (by simpa using e),fun e=>h.g6 (by simpa using e),fun e=>h.g7 (by simpa using e),fun e=>h.g8 (by simpa using e),fun e=>h.g9 (by simpa using e),fun e e'=>h.n78 (by simpa using e) (by simpa using e'),fun e e'=>h.n79 (by simpa using e) (by simpa using e'),fun e e'=>h.n89 (by simpa using e) (by simpa using e')⟩
theorem R3.op5 (h:R3 got wr f F a0 a1 a2 a3 b0 b1 b2 b3 t7 t8 t9 s21 s22 s23 s24 s25 s26 s27 u):R3 (fun j=>j==5||got j) wr f F a0 a1 a2 a3 b0 b1 b2 b3 t7 t8 t9 s21 s22 s23 s24 s25 (.agg #[.int .u64 F.m0,.int .u64 F.m1,.int .u64 F.m2,.int .u64 F.m3]) s27 u :=
 ⟨h.below,fun e=>h.g0 (by simpa using e),fun e=>h.g1 (by simpa using e),fun e=>h.g2 (by simpa using e),fun e=>h.g3 (by simpa using e),fun e=>h.g4 (by simpa using e),fun _=>rfl,fun e=>h.g6 (by simpa using e),fun e=>h.g7 (by simpa using e),fun e=>h.g8 (by simpa using e),fun e=>h.g9 (by simpa using e),fun e e'=>h.n78 (by simpa using e) (by simpa using e'),fun e e'=>h.n79 (by simpa using e) (by simpa using e'),fun e e'=>h.n89 (by simpa using e) (by simpa using e')⟩
theorem R3.op6 (h:R3 got wr f F a0 a1 a2 a3 b0 b1 b2 b3 t7 t8 t9 s21 s22 s23 s24 s25 s26 s27 u) {x:Value} (hx:HalfV F.M x):R3 (fun j=>j==6||got j) wr f F a0 a1 a2 a3 b0 b1 b2 b3 t7 t8 t9 s21 s22 s23 s24 s25 s26 x u :=
 ⟨h.below,fun e=>h.g0 (by simpa using e),fun e=>h.g1 (by simpa using e),fun e=>h.g2 (by simpa using e),fun e=>h.g3 (by simpa using e),fun e=>h.g4 (by simpa using e),fun e=>h.g5 (by simpa using e),fun _=>hx,fun e=>h.g7 (by simpa using e),fun e=>h.g8 (by simpa using e),fun e=>h.g9 (by simpa using e),fun e e'=>h.n78 (by simpa using e) (by simpa using e'),fun e e'=>h.n79 (by simpa using e) (by simpa using e'),fun e e'=>h.n89 (by simpa using e) (by simpa using e')⟩
theorem R3.grow (h:R3 got wr f F a0 a1 a2 a3 b0 b1 b2 b3 t7 t8 t9 s21 s22 s23 s24 s25 s26 s27 u) (hb:Below u.heap.size u u'):R3 got wr f F a0 a1 a2 a3 b0 b1 b2 b3 t7 t8 t9 s21 s22 s23 s24 s25 s26 s27 u' :=
 ⟨h.below.trans (hb.mono h.below.size),h.g0,h.g1,h.g2,h.g3,h.g4,h.g5,h.g6,fun e=>(h.g7 e).grow hb,fun e=>(h.g8 e).grow hb,fun e=>(h.g9 e).grow hb,h.n78,h.n79,h.n89⟩
theorem R3.op7 (h:R3 got wr f F a0 a1 a2 a3 b0 b1 b2 b3 t7 t8 t9 s21 s22 s23 s24 s25 s26 s27 u) (t:TypeId):R3 (fun j=>j==7||got j) wr f F a0 a1 a2 a3 b0 b1 b2 b3 (.pointer (some ⟨u.heap.size,0,none⟩)) t8 t9 s21 s22 s23 s24 s25 s26 s27 (u.alloc (.cells #[.int .u64 0,.int .u64 0,.int .u64 0,.int .u64 0,.int .u64 0,.int .u64 0,.int .u64 0,.int .u64 0] t)) :=
 ⟨h.below.alloc h.below.size _,fun e=>h.g0 (by simpa using e),fun e=>h.g1 (by simpa using e),fun e=>h.g2 (by simpa using e),fun e=>h.g3 (by simpa using e),fun e=>h.g4 (by simpa using e),fun e=>h.g5 (by simpa using e),fun e=>h.g6 (by simpa using e),fun _=>fresh_new wr u h.below.size t,fun e=>(h.g8 (by simpa using e)).grow (below_alloc _ _),fun e=>(h.g9 (by simpa using e)).grow (below_alloc _ _),fun _ e=>(fresh_ne (h.g8 (by simpa using e))).symm,fun _ e=>(fresh_ne (h.g9 (by simpa using e))).symm,fun e e'=>h.n89 (by simpa using e) (by simpa using e')⟩
theorem R3.op8 (h:R3 got wr f F a0 a1 a2 a3 b0 b1 b2 b3 t7 t8 t9 s21 s22 s23 s24 s25 s26 s27 u) (t:TypeId):R3 (fun j=>j==8||got j) wr f F a0 a1 a2 a3 b0 b1 b2 b3 t7 (.pointer (some ⟨u.heap.size,0,none⟩)) t9 s21 s22 s23 s24 s25 s26 s27 (u.alloc (.cells #[.int .u64 0,.int .u64 0,.int .u64 0,.int .u64 0,.int .u64 0,.int .u64 0,.int .u64 0,.int .u64 0] t)) :=
 ⟨h.below.alloc h.below.size _,fun e=>h.g0 (by simpa using e),fun e=>h.g1 (by simpa using e),fun e=>h.g2 (by simpa using e),fun e=>h.g3 (by simpa using e),fun e=>h.g4 (by simpa using e),fun e=>h.g5 (by simpa using e),fun e=>h.g6 (by simpa using e),fun e=>(h.g7 (by simpa using e)).grow (below_alloc _ _),fun _=>fresh_new wr u h.below.size t,fun e=>(h.g9 (by simpa using e)).grow (below_alloc _ _),fun e _=>fresh_ne (h.g7 (by simpa using e)),fun e e'=>h.n79 (by simpa using e) (by simpa using e'),fun _ e=>(fresh_ne (h.g9 (by simpa using e))).symm⟩
theorem R3.op9 (h:R3 got wr f F a0 a1 a2 a3 b0 b1 b2 b3 t7 t8 t9 s21 s22 s23 s24 s25 s26 s27 u) (t:TypeId):R3 (fun j=>j==9||got j) wr f F a0 a1 a2 a3 b0 b1 b2 b3 t7 t8 (.pointer (some ⟨u.heap.size,0,none⟩)) s21 s22 s23 s24 s25 s26 s27 (u.alloc (.cells #[.int .u64 0,.int .u64 0,.int .u64 0,.int .u64 0,.int .u64 0,.int .u64 0,.int .u64 0,.int .u64 0] t)) :=
 ⟨h.below.alloc h.below.size _,fun e=>h.g0 (by simpa using e),fun e=>h.g1 (by simpa using e),fun e=>h.g2 (by simpa using e),fun e=>h.g3 (by simpa using e),fun e=>h.g4 (by simpa using e),fun e=>h.g5 (by simpa using e),fun e=>h.g6 (by simpa using e),fun e=>(h.g7 (by simpa using e)).grow (below_alloc _ _),fun e=>(h.g8 (by simpa using e)).grow (below_alloc _ _),fun _=>fresh_new wr u h.below.size t,fun e e'=>h.n78 (by simpa using e) (by simpa using e'),fun e _=>fresh_ne (h.g7 (by simpa using e)),fun e _=>fresh_ne (h.g8 (by simpa using e))⟩
end
structure ThreeH (wr u:World) (p q r:Nat) (X Y Z:Nat→Nat) (A B M:Nat):Prop where
 below:Below wr.heap.size wr u
 lp:wr.heap.size≤p
 lq:wr.heap.size≤q
 lr:wr.heap.size≤r
 up:p<u.heap.size
 uq:q<u.heap.size
 ur:r<u.heap.size
 pq:p≠q
 pr:p≠r
 qr:q≠r
 rowX:RowIs u p 8 X
 rowY:RowIs u q 8 Y
 rowZ:RowIs u r 8 Z
 ltX:∀k,X k<4294967296
 ltY:∀k,Y k<4294967296
 ltZ:∀k,Z k<4294967296
 eX:cD 4294967296 X 8=A
 eY:cD 4294967296 Y 8=B
 eZ:cD 4294967296 Z 8=M
theorem DV {p q:Nat} (h:(Value.pointer (some ⟨p,0,none⟩)) ≠ .pointer (some ⟨q,0,none⟩)):p≠q:=fun e=>h (by rw[e])
theorem ThreeH.store {wr u:World} {p q r A B M x0 x1 x2 x3 x4 x5 x6 x7 y0 y1 y2 y3 y4 y5 y6 y7 z0 z1 z2 z3 z4 z5 z6 z7:Nat} (hx:MD x0 x1 x2 x3 x4 x5 x6 x7) (hy:MD y0 y1 y2 y3 y4 y5 y6 y7) (hz:MD z0 z1 z2 z3 z4 z5 z6 z7) (ex:Hid (jD x0 x1 x2 x3 x4 x5 x6 x7=A)) (ey:Hid (jD y0 y1 y2 y3 y4 y5 y6 y7=B)) (ez:Hid (jD z0 z1 z2 z3 z4 z5 z6 z7=M))
  (lp:wr.heap.size≤p) (lq:wr.heap.size≤q) (lr:wr.heap.size≤r) (up:p<u.heap.size) (uq:q<u.heap.size) (ur:r<u.heap.size) (pq:p≠q) (pr:p≠r) (qr:q≠r) (rp:RowIs u p 8 (fun _=>0)) (rq:RowIs u q 8 (fun _=>0)) (rr:RowIs u r 8 (fun _=>0)) (hbl:Below wr.heap.size wr u) :
  ThreeH wr (set8 (set8 (set8 u p x0 x1 x2 x3 x4 x5 x6 x7) q y0 y1 y2 y3 y4 y5 y6 y7) r z0 z1 z2 z3 z4 z5 z6 z7) p q r (cQ [x0,x1,x2,x3,x4,x5,x6,x7]) (cQ [y0,y1,y2,y3,y4,y5,y6,y7]) (cQ [z0,z1,z2,z3,z4,z5,z6,z7]) A B M :=
 ⟨below_set8 (below_set8 (below_set8 hbl lp _ _ _ _ _ _ _ _) lq _ _ _ _ _ _ _ _) lr _ _ _ _ _ _ _ _,lp,lq,lr,by rw[size_set8,size_set8,size_set8]; exact up,by rw[size_set8,size_set8,size_set8]; exact uq,by rw[size_set8,size_set8,size_set8]; exact ur,pq,pr,qr,
  ((rp.set8 _ _ _ _ _ _ _ _).set8_other (fun e=>pq e.symm) _ _ _ _ _ _ _ _).set8_other (fun e=>pr e.symm) _ _ _ _ _ _ _ _,((rq.set8_other pq _ _ _ _ _ _ _ _).set8 _ _ _ _ _ _ _ _).set8_other (fun e=>qr e.symm) _ _ _ _ _ _ _ _,((rr.set8_other pr _ _ _ _ _ _ _ _).set8_other qr _ _ _ _ _ _ _ _).set8 _ _ _ _ _ _ _ _,fnOf8_lt hx,fnOf8_lt hy,fnOf8_lt hz,
  (val8_tot (cQ [x0,x1,x2,x3,x4,x5,x6,x7])).symm.trans ex.out,(val8_tot (cQ [y0,y1,y2,y3,y4,y5,y6,y7])).symm.trans ey.out,(val8_tot (cQ [z0,z1,z2,z3,z4,z5,z6,z7])).symm.trans ez.out⟩
def ES (f:Int) (a0 a1 a2 a3 b0 b1 b2 b3 g4 g5:Nat) (v6 t7 t8 t9 s21 s22 s23 s24 s25 s26 s27:Value):Act:={ tmps:=#[.int .i64 f,.agg #[.int .u64 a0,.int .u64 a1,.int .u64 a2,.int .u64 a3],.agg #[.int .u64 b0,.int .u64 b1,.int .u64 b2,.int .u64 b3],undef,.pointer (some ⟨g4,0,none⟩),.pointer (some ⟨g5,0,none⟩),v6,t7,t8,t9,undef,undef,undef,undef,undef,undef,undef,undef,undef,undef,undef,s21,s22,s23,s24,s25,s26,s27,undef,undef,undef,undef,undef,undef,undef,undef,undef,undef,undef,undef,undef,undef,undef,undef,undef,undef,undef,undef,undef,undef,undef,undef,undef,undef,undef,undef,undef,undef,undef,undef,undef,undef,undef,undef,undef,undef,undef,undef,undef,undef,undef,undef,undef,undef,undef,undef,undef,undef,undef,undef,undef,undef,undef,undef,undef,undef,undef,undef,undef,undef,undef,undef,undef,undef,undef,undef,undef,undef,undef,undef,undef,undef,undef,undef,undef,undef,undef,undef,undef,undef,undef,undef,undef,undef,undef,undef,undef,undef,undef,undef,undef,undef,undef,undef,undef,undef,undef,undef,undef,undef,undef,undef,undef,undef,undef,undef,undef,undef,undef,undef,undef,undef,undef,undef,undef,undef,undef],defers:=[] }
def JD (pos:String):List Oper:=[
  { dst:=some 21,op:=Op.load 27 (Operand.tmp 4),type:=27,pos:=pos,after:=#[],guard:=none },
  { dst:=some 22,op:=Op.call { callee:=Callee.value (Operand.func 125),args:=#[Operand.tmp 21],argTypes:=#[27] },type:=147,pos:=pos,after:=#[{ on:=0,ground:=Ground.data }],guard:=none },
  { dst:=some 23,op:=Op.load 27 (Operand.tmp 5),type:=27,pos:=pos,after:=#[],guard:=none },
  { dst:=some 24,op:=Op.call { callee:=Callee.value (Operand.func 125),args:=#[Operand.tmp 23],argTypes:=#[27] },type:=147,pos:=pos,after:=#[{ on:=2,ground:=Ground.data },{ on:=1,ground:=Ground.chain }],guard:=none },
  { dst:=some 25,op:=Op.move (Operand.tmp 0),type:=3,pos:=pos,after:=#[],guard:=none },
  { dst:=some 26,op:=Op.call { callee:=Callee.value (Operand.func 56),args:=#[Operand.tmp 25],argTypes:=#[3] },type:=27,pos:=pos,after:=#[{ on:=4,ground:=Ground.data },{ on:=3,ground:=Ground.chain }],guard:=none },
  { dst:=some 27,op:=Op.call { callee:=Callee.value (Operand.func 125),args:=#[Operand.tmp 26],argTypes:=#[27] },type:=147,pos:=pos,after:=#[{ on:=5,ground:=Ground.data },{ on:=5,ground:=Ground.chain }],guard:=none },
  { dst:=some 7,op:=Op.alloc 147,type:=0,pos:=pos,after:=#[],guard:=none },
  { dst:=some 8,op:=Op.alloc 147,type:=0,pos:=pos,after:=#[],guard:=none },
  { dst:=some 9,op:=Op.alloc 147,type:=0,pos:=pos,after:=#[],guard:=none },
  { dst:=none,op:=Op.store 147 (Operand.tmp 7) (Operand.tmp 22),type:=0,pos:=pos,after:=#[{ on:=7,ground:=Ground.data },{ on:=1,ground:=Ground.data },{ on:=6,ground:=Ground.chain },{ on:=0,ground:=Ground.phase },{ on:=1,ground:=Ground.phase },{ on:=2,ground:=Ground.textOnly Departure.lateStores },{ on:=3,ground:=Ground.textOnly Departure.lateStoresUnsure },{ on:=4,ground:=Ground.textOnly Departure.lateStores },{ on:=5,ground:=Ground.textOnly Departure.lateStoresUnsure },{ on:=6,ground:=Ground.textOnly Departure.lateStoresUnsure },{ on:=7,ground:=Ground.phase },{ on:=8,ground:=Ground.phase },{ on:=9,ground:=Ground.phase }],guard:=none },
  { dst:=none,op:=Op.store 147 (Operand.tmp 8) (Operand.tmp 24),type:=0,pos:=pos,after:=#[{ on:=8,ground:=Ground.data },{ on:=3,ground:=Ground.data },{ on:=10,ground:=Ground.chain },{ on:=0,ground:=Ground.phase },{ on:=1,ground:=Ground.phase },{ on:=2,ground:=Ground.phase },{ on:=3,ground:=Ground.phase },{ on:=4,ground:=Ground.textOnly Departure.lateStores },{ on:=5,ground:=Ground.textOnly Departure.lateStoresUnsure },{ on:=6,ground:=Ground.textOnly Departure.lateStoresUnsure },{ on:=7,ground:=Ground.phase },{ on:=8,ground:=Ground.phase },{ on:=9,ground:=Ground.phase },{ on:=10,ground:=Ground.phase }],guard:=none },
  { dst:=none,op:=Op.store 147 (Operand.tmp 9) (Operand.tmp 27),type:=0,pos:=pos,after:=#[{ on:=9,ground:=Ground.data },{ on:=6,ground:=Ground.data },{ on:=11,ground:=Ground.chain },{ on:=0,ground:=Ground.phase },{ on:=1,ground:=Ground.phase },{ on:=2,ground:=Ground.phase },{ on:=3,ground:=Ground.phase },{ on:=4,ground:=Ground.phase },{ on:=5,ground:=Ground.phase },{ on:=6,ground:=Ground.phase },{ on:=7,ground:=Ground.phase },{ on:=8,ground:=Ground.phase },{ on:=9,ground:=Ground.phase },{ on:=10,ground:=Ground.phase },{ on:=11,ground:=Ground.phase }],guard:=none }]
set_option maxHeartbeats 4000000 in
theorem wQ (f:Int) (F:FC) (hf:FieldIs f F) (a0 a1 a2 a3 b0 b1 b2 b3:Nat) (ha:aZ a0 a1 a2 a3) (hb:aZ b0 b1 b2 b3) (g4 g5:Nat) (v6:Value) (wr:World) (rA:Row4 wr g4 a0 a1 a2 a3) (rB:Row4 wr g5 b0 b1 b2 b3) (lA:g4<wr.heap.size) (lB:g5<wr.heap.size) {Q:Exit→Act→World→Prop} {pos:String} {id:Nat}
  (next:∀(p q r:Nat) (X Y Z:Nat→Nat) (s21 s22 s23 s24 s25 s26 s27:Value) (u:World),ThreeH wr u p q r X Y Z (aA a0 a1 a2 a3) (aA b0 b1 b2 b3) F.M→Q .normal (ES f a0 a1 a2 a3 b0 b1 b2 b3 g4 g5 v6 (.pointer (some ⟨p,0,none⟩)) (.pointer (some ⟨q,0,none⟩)) (.pointer (some ⟨r,0,none⟩)) s21 s22 s23 s24 s25 s26 s27) u) :
  (Code.region id (JD pos).toArray true).wp prog Q (ES f a0 a1 a2 a3 b0 b1 b2 b3 g4 g5 v6 undef undef undef undef undef undef undef undef undef undef) wr:=by
 unfold JD;refine lH 10 (fun got b u=>∃t7 t8 t9 s21 s22 s23 s24 s25 s26 s27:Value,b=ES f a0 a1 a2 a3 b0 b1 b2 b3 g4 g5 v6 t7 t8 t9 s21 s22 s23 s24 s25 s26 s27∧R3 got wr f F a0 a1 a2 a3 b0 b1 b2 b3 t7 t8 t9 s21 s22 s23 s24 s25 s26 s27 u) (by kernel_rfl) (by simp) (by kernel_rfl) (by kernel_rfl) (by kernel_rfl) (by kernel_rfl) ?_ ?_ ?_
 ·exact⟨undef,undef,undef,undef,undef,undef,undef,undef,undef,undef,rfl,R3.start wr f F a0 a1 a2 a3 b0 b1 b2 b3⟩
 ·rintro got b u i hi h0 hr ⟨t7,t8,t9,s21,s22,s23,s24,s25,s26,s27,rfl,H⟩
  match i,hi with
  | 0,_ =>
   obtain⟨k0,k1,k2,k3,kf⟩:=rA.below H.below lA;have HH:=Lib.hid H;clear H hr;refine wpOp_step rfl fun K hK => ?_
   unfold ES;go_simp;exact hK _ _ ⟨_,_,_,_,_,_,_,_,_,_,rfl,HH.out.op0⟩
  | 1,_ =>
   have e0:got 0=true:=readyB_at (e:={ on:=0,ground:=Ground.data }) hr rfl (by simp) rfl;obtain rfl:=H.g0 e0;have HH:=Lib.hid H;clear H hr;refine wpOp_step rfl fun K hK => ?_
   unfold ES;go_simp;refine (kD a0 a1 a2 a3 ha _).mono ?_
   rintro e u' ⟨x0,x1,x2,x3,x4,x5,x6,x7,rfl,hx,ex,hbl⟩
   exact hK _ _ ⟨_,_,_,_,_,_,_,_,_,_,rfl,(HH.out.grow hbl).op1 ⟨x0,x1,x2,x3,x4,x5,x6,x7,rfl,hx,ex⟩⟩
  | 2,_ =>
   obtain⟨k0,k1,k2,k3,kf⟩:=rB.below H.below lB;have HH:=Lib.hid H;clear H hr;refine wpOp_step rfl fun K hK => ?_
   unfold ES;go_simp;exact hK _ _ ⟨_,_,_,_,_,_,_,_,_,_,rfl,HH.out.op2⟩
  | 3,_ =>
   have e2:got 2=true:=readyB_at (e:={ on:=2,ground:=Ground.data }) hr rfl (by simp) rfl;obtain rfl:=H.g2 e2;have HH:=Lib.hid H;clear H hr;refine wpOp_step rfl fun K hK => ?_
   unfold ES;go_simp;refine (kD b0 b1 b2 b3 hb _).mono ?_
   rintro e u' ⟨x0,x1,x2,x3,x4,x5,x6,x7,rfl,hx,ex,hbl⟩
   exact hK _ _ ⟨_,_,_,_,_,_,_,_,_,_,rfl,(HH.out.grow hbl).op3 ⟨x0,x1,x2,x3,x4,x5,x6,x7,rfl,hx,ex⟩⟩
  | 4,_ =>
   have HH:=Lib.hid H;clear H hr;refine wpOp_step rfl fun K hK => ?_
   unfold ES;go_simp;exact hK _ _ ⟨_,_,_,_,_,_,_,_,_,_,rfl,HH.out.op4⟩
  | 5,_ =>
   have e4:got 4=true:=readyB_at (e:={ on:=4,ground:=Ground.data }) hr rfl (by simp) rfl;obtain rfl:=H.g4 e4;have HH:=Lib.hid H;clear H hr;refine wpOp_step rfl fun K hK => ?_
   unfold ES;go_simp;refine (fJ f F hf _).mono ?_
   rintro e u' ⟨rfl,hbl⟩
   exact hK _ _ ⟨_,_,_,_,_,_,_,_,_,_,rfl,(HH.out.grow hbl).op5⟩
  | 6,_ =>
   have e5:got 5=true:=readyB_at (e:={ on:=5,ground:=Ground.data }) hr rfl (by simp) rfl;obtain rfl:=H.g5 e5;have HH:=Lib.hid H;clear H hr;refine wpOp_step rfl fun K hK => ?_
   unfold ES;go_simp;refine (kD F.m0 F.m1 F.m2 F.m3 hf.ok.okm _).mono ?_
   rintro e u' ⟨x0,x1,x2,x3,x4,x5,x6,x7,rfl,hx,ex,hbl⟩
   exact hK _ _ ⟨_,_,_,_,_,_,_,_,_,_,rfl,(HH.out.grow hbl).op6 ⟨x0,x1,x2,x3,x4,x5,x6,x7,rfl,hx,ex⟩⟩
  | 7,_ =>
   have HH:=Lib.hid H;clear H hr;refine wpOp_step rfl fun K hK => ?_
   unfold ES;go_simp;exact hK _ _ ⟨_,_,_,_,_,_,_,_,_,_,rfl,HH.out.op7 _⟩
  | 8,_ =>
   have HH:=Lib.hid H;clear H hr;refine wpOp_step rfl fun K hK => ?_
   unfold ES;go_simp;exact hK _ _ ⟨_,_,_,_,_,_,_,_,_,_,rfl,HH.out.op8 _⟩
  | 9,_ =>
   have HH:=Lib.hid H;clear H hr;refine wpOp_step rfl fun K hK => ?_
   unfold ES;go_simp;exact hK _ _ ⟨_,_,_,_,_,_,_,_,_,_,rfl,HH.out.op9 _⟩
 ·rintro got b u hall ⟨t7,t8,t9,s21,s22,s23,s24,s25,s26,s27,rfl,H⟩
  obtain⟨x0,x1,x2,x3,x4,x5,x6,x7,rfl,hx,ex⟩:=H.g1 (hall 1 (by omega));obtain⟨y0,y1,y2,y3,y4,y5,y6,y7,rfl,hy,ey⟩:=H.g3 (hall 3 (by omega));obtain⟨z0,z1,z2,z3,z4,z5,z6,z7,rfl,hz,ez⟩:=H.g6 (hall 6 (by omega));obtain⟨p,rfl,lp,up,rp⟩:=H.g7 (hall 7 (by omega));obtain⟨q,rfl,lq,uq,rq⟩:=H.g8 (hall 8 (by omega));obtain⟨r,rfl,lr,ur,rr⟩:=H.g9 (hall 9 (by omega));have pq:=DV (H.n78 (hall 7 (by omega)) (hall 8 (by omega)));have pr:=DV (H.n79 (hall 7 (by omega)) (hall 9 (by omega)));have qr:=DV (H.n89 (hall 8 (by omega)) (hall 9 (by omega)));have HF:=Lib.hid (ThreeH.store hx hy hz ex ey ez lp lq lr up uq ur pq pr qr rp rq rr H.below);have cp0:=rp.cell (show 0<8 by omega); have fp0:=rp.free (show 0<8 by omega); have cp1:=rp.cell (show 1<8 by omega); have fp1:=rp.free (show 1<8 by omega); have cp2:=rp.cell (show 2<8 by omega); have fp2:=rp.free (show 2<8 by omega); have cp3:=rp.cell (show 3<8 by omega); have fp3:=rp.free (show 3<8 by omega); have cp4:=rp.cell (show 4<8 by omega); have fp4:=rp.free (show 4<8 by omega); have cp5:=rp.cell (show 5<8 by omega); have fp5:=rp.free (show 5<8 by omega); have cp6:=rp.cell (show 6<8 by omega); have fp6:=rp.free (show 6<8 by omega); have cp7:=rp.cell (show 7<8 by omega); have fp7:=rp.free (show 7<8 by omega);have cq0:=rq.cell (show 0<8 by omega); have fq0:=rq.free (show 0<8 by omega); have cq1:=rq.cell (show 1<8 by omega); have fq1:=rq.free (show 1<8 by omega); have cq2:=rq.cell (show 2<8 by omega); have fq2:=rq.free (show 2<8 by omega); have cq3:=rq.cell (show 3<8 by omega); have fq3:=rq.free (show 3<8 by omega); have cq4:=rq.cell (show 4<8 by omega); have fq4:=rq.free (show 4<8 by omega); have cq5:=rq.cell (show 5<8 by omega); have fq5:=rq.free (show 5<8 by omega); have cq6:=rq.cell (show 6<8 by omega); have fq6:=rq.free (show 6<8 by omega); have cq7:=rq.cell (show 7<8 by omega); have fq7:=rq.free (show 7<8 by omega);have cr0:=rr.cell (show 0<8 by omega); have fr0:=rr.free (show 0<8 by omega); have cr1:=rr.cell (show 1<8 by omega); have fr1:=rr.free (show 1<8 by omega); have cr2:=rr.cell (show 2<8 by omega); have fr2:=rr.free (show 2<8 by omega); have cr3:=rr.cell (show 3<8 by omega); have fr3:=rr.free (show 3<8 by omega); have cr4:=rr.cell (show 4<8 by omega); have fr4:=rr.free (show 4<8 by omega); have cr5:=rr.cell (show 5<8 by omega); have fr5:=rr.free (show 5<8 by omega); have cr6:=rr.cell (show 6<8 by omega); have fr6:=rr.free (show 6<8 by omega); have cr7:=rr.cell (show 7<8 by omega); have fr7:=rr.free (show 7<8 by omega);have qp:¬q=p:=fun e=>pq e.symm
  have rp':¬r=p:=fun e=>pr e.symm
  have rq':¬r=q:=fun e=>qr e.symm
  have pq':¬p=q:=pq;have pr':¬p=r:=pr;have qr':¬q=r:=qr;clear H hx hy hz ex ey ez lp lq lr up uq ur rp rq rr hall rA rB pq pr qr;unfold ES;refine wpList_step fun K hK => ?_
  go_simp;refine hK _ _ ?_;refine wpList_step fun K2 hK2 => ?_
  go_simp;refine hK2 _ _ ?_;refine wpList_step fun K3 hK3 => ?_
  go_simp;refine hK3 _ _ ?_;refine wpList_nil ?_;exact next _ _ _ _ _ _ _ _ _ _ _ _ _ _ HF.out
def OP (M A:Nat) (Y P:Nat→Nat) (k:Nat):Prop:=cD 4294967296 P 9<2*M∧∃Q,cD 4294967296 P 9*4294967296^k=A*cD 4294967296 Y k+Q*M
theorem ME (M A:Nat) (Y P:Nat→Nat) (hM:0<M) (hP:∀k,P k=0):OP M A Y P 0:=by
 have h:cD 4294967296 P 9=0:=sH _ _ hP 9;exact⟨by rw[h]; omega,0,by rw[h]; simp[cD]⟩
theorem MF {M A:Nat} {Y P N:Nat→Nat} {k q:Nat} (h:OP M A Y P k) (hA:A<M) (hY:Y k<4294967296) (hq:q<4294967296)
  (e:4294967296*cD 4294967296 N 9=cD 4294967296 P 9+A*Y k+q*M):OP M A Y N (k+1):=by
 obtain⟨hT,Q,hQ⟩:=h;refine⟨?_,Q+q*4294967296^k,?_⟩
 ·have h1:=Nat.mul_le_mul (show A≤M by omega) (show Y k≤4294967295 by omega);have h2:=Nat.mul_le_mul_right M (show q≤4294967295 by omega);generalize A*Y k=x at *;generalize q*M=y at *;omega
 ·rw[Nat.pow_succ,←Nat.mul_assoc,Nat.mul_right_comm,Nat.mul_comm _ 4294967296,e,Nat.add_mul,Nat.add_mul,hQ,bD,Nat.mul_add,Nat.add_mul];have e1:A*Y k*4294967296^k=A*(Y k*4294967296^k):=Nat.mul_assoc _ _ _;have e2:q*M*4294967296^k=q*4294967296^k*M:=Nat.mul_right_comm _ _ _;omega
theorem RZ {X P:Nat→Nat} {y j c l h T0:Nat} (hj:j<8) (h1:cD 4294967296 P 9+c*4294967296^j=T0+cD 4294967296 X j*y) (e:l+4294967296*h=P j+X j*y+c) :
  cD 4294967296 (cV P j l) 9+h*4294967296^(j+1)=T0+cD 4294967296 X (j+1)*y:=by
 have:=sK (B:=4294967296) (P:=P) (n:=9) (k:=j) (x:=X j*y) (o:=c) (d:=l) (o':=h) (T:=T0+cD 4294967296 X j*y) (by omega) (by omega) h1;rw[this,bD,Nat.add_mul,Nat.mul_right_comm (X j)];omega
theorem YU {X P:Nat→Nat} {y c l h T0:Nat} (h1:cD 4294967296 P 9+c*4294967296^8=T0+cD 4294967296 X 8*y) (e:l+4294967296*h=P 8+c) :
  cD 4294967296 (cV (cV P 8 l) 9 h) 10=T0+cD 4294967296 X 8*y:=by
 have e1:cD 4294967296 (cV (cV P 8 l) 9 h) 10=cD 4294967296 P 8+l*4294967296^8+h*4294967296^9:=by
  rw[bD,dW _ _ 9 h 9 (Nat.le_refl _),bD,dW _ _ 8 l 8 (Nat.le_refl _)];have u1:cV P 8 l 8=l:=by unfold cV; rw[if_pos rfl]
  have u2:cV (cV P 8 l) 9 h 9=h:=by unfold cV; rw[if_pos rfl]
  rw[u1,u2]
 have e2:cD 4294967296 P 9=cD 4294967296 P 8+P 8*4294967296^8:=bD _ _ _;rw[e1];rw[e2]at h1;have e3:(4294967296:Nat)^9=4294967296^8*4294967296:=by rfl
 have e4:l*4294967296^8+h*4294967296^9=(l+4294967296*h)*4294967296^8:=by
  rw[e3,Nat.add_mul,Nat.mul_comm (4294967296^8) 4294967296,←Nat.mul_assoc,Nat.mul_comm h 4294967296]
 rw[e]at e4;rw[Nat.add_mul]at e4;generalize (4294967296:Nat)^8=B8 at *;generalize (4294967296:Nat)^9=B9 at *;omega
def VX (U Z P:Nat→Nat) (q j c:Nat):Prop:=(∀k,j≤k→P k=U k)∧4294967296*(cD 4294967296 P (j-1)+c*4294967296^(j-1))=cD 4294967296 U j+q*cD 4294967296 Z j
theorem CQ {U Z:Nat→Nat} {q c:Nat} (e:4294967296*c=U 0+q*Z 0):VX U Z U q 1 c:=by
 refine⟨fun _ _=>rfl,?_⟩;simp[cD];omega
theorem KZ {U Z P:Nat→Nat} {q j c l h:Nat} (h1:1≤j) (t:VX U Z P q j c) (e:l+4294967296*h=U j+q*Z j+c):VX U Z (cV P (j-1) l) q (j+1) h:=by
 obtain⟨k1,k2⟩:=t;obtain⟨i,rfl⟩:∃i,j=i+1:=⟨j-1,by omega⟩
 rw[show i+1-1=i by omega]at *;refine⟨fun k hk=>by unfold cV; rw[if_neg (by omega)]; exact k1 k (by omega),?_⟩;rw[show i+1+1-1=i+1 by omega,bD,dW _ _ i l i (Nat.le_refl _),show cV P i l i=l by unfold cV; rw[if_pos rfl],bD _ U (i+1),bD _ Z (i+1)];have e1:(l+4294967296*h)*4294967296^i=(U (i+1)+q*Z (i+1)+c)*4294967296^i:=by rw[e]
 simp only[Nat.add_mul]at e1;rw[Nat.pow_succ];rw[Nat.mul_add]at k2;simp only[Nat.mul_add];have f1:4294967296*(h*(4294967296^i*4294967296))=4294967296*(4294967296*h*4294967296^i):=by
  congr 1; rw[Nat.mul_comm (4294967296^i) 4294967296,←Nat.mul_assoc,Nat.mul_comm h]
 have f2:U (i+1)*(4294967296^i*4294967296)=4294967296*(U (i+1)*4294967296^i):=by
  rw[←Nat.mul_assoc,Nat.mul_comm]
 have f3:q*(Z (i+1)*(4294967296^i*4294967296))=4294967296*(q*Z (i+1)*4294967296^i):=by
  rw[←Nat.mul_assoc (Z (i+1)),←Nat.mul_assoc q,Nat.mul_comm _ 4294967296,Nat.mul_assoc q]
 rw[f1,f2,f3];omega
theorem PI {U Z P:Nat→Nat} {q c l h:Nat} (t:VX U Z P q 8 c) (e:l+4294967296*h=U 8+c):4294967296*cD 4294967296 (cV (cV P 7 l) 8 (U 9+h)) 9=cD 4294967296 U 10+q*cD 4294967296 Z 8:=by
 obtain⟨k1,k2⟩:=t;have e1:cD 4294967296 (cV (cV P 7 l) 8 (U 9+h)) 9=cD 4294967296 P 7+l*4294967296^7+(U 9+h)*4294967296^8:=by
  rw[bD,dW _ _ 8 _ 8 (Nat.le_refl _),bD,dW _ _ 7 l 7 (Nat.le_refl _)];have u1:cV P 7 l 7=l:=by unfold cV; rw[if_pos rfl]
  have u2:cV (cV P 7 l) 8 (U 9+h) 8=U 9+h:=by unfold cV; rw[if_pos rfl]
  rw[u1,u2]
 rw[e1,bD _ U 9,bD _ U 8];rw[show 8-1=7 by rfl]at k2;have e3:(4294967296:Nat)^8=4294967296*4294967296^7:=by rfl
 have e4:(4294967296:Nat)^9=4294967296*4294967296^8:=by rfl
 have e5:(l+4294967296*h)*4294967296^7=(U 8+c)*4294967296^7:=by rw[e]
 simp only[Nat.add_mul]at e5 ⊢;simp only[Nat.mul_add]at k2 ⊢;have f1:h*4294967296^8=4294967296*h*4294967296^7:=by rw[e3,←Nat.mul_assoc,Nat.mul_comm h]
 have f2:U 9*4294967296^9=4294967296*(U 9*4294967296^8):=by rw[e4,Nat.mul_left_comm]
 have f3:U 8*4294967296^8=4294967296*(U 8*4294967296^7):=by rw[e3,Nat.mul_left_comm]
 rw[f1,f2,f3];omega
theorem SR {F:FC} (hF:F.Ok) {A:Nat} {Y P:Nat→Nat} (h:OP F.M A Y P 8):cD 4294967296 P 9%F.M=A*cD 4294967296 Y 8*F.Ri%F.M:=by
 obtain⟨_,Q,hQ⟩:=h;generalize cD 4294967296 P 9=T at *;generalize cD 4294967296 Y 8=V at *;have hR:F.R=4294967296^8:=by simp[FC.R]
 have e:T*(F.R*F.Ri)=A*V*F.Ri+F.M*(Q*F.Ri):=by
  rw[←Nat.mul_assoc,hR,hQ,Nat.add_mul,show Q*F.M*F.Ri=F.M*(Q*F.Ri) by rw[Nat.mul_comm Q,Nat.mul_assoc]]
 have e2:T*(F.R*F.Ri)%F.M=T%F.M:=by rw[Nat.mul_mod,hF.ri,Nat.mul_one,Nat.mod_mod]
 rw[←e2,e,Nat.add_mul_mod_self_left]
theorem SQ {F:FC} (hF:F.Ok) {A:Nat} {Y P:Nat→Nat} {k:Nat} (h:OP F.M A Y P k):P 8=0∧cD 4294967296 P 9=cD 4294967296 P 8:=by
 have h1:=h.1;have h2:=hF.two;rw[bD]at h1 ⊢;have e:(4294967296:Nat)^8=115792089237316195423570985008687907853269984665640564039457584007913129639936:=by rfl
 rw[e]at h1 ⊢;have:P 8=0:=by
  rcases Nat.eq_zero_or_pos (P 8)with q|q
  ·exact q
  ·have:=Nat.mul_le_mul_right 115792089237316195423570985008687907853269984665640564039457584007913129639936 q;omega
 rw[this]; exact⟨rfl,by omega⟩
theorem TA (P:Nat→Nat):aA (P 0+4294967296*P 1) (P 2+4294967296*P 3) (P 4+4294967296*P 5) (P 6+4294967296*P 7)=cD 4294967296 P 8:=by
 unfold aA;simp only[cD];omega
def yW (F:FC):Nat:=if F.m0=0x3c208c16d87cfd47 then 3834012553 else 4026531839
theorem GY {f:Int} {F:FC} (hf:FieldIs f F):yW F<4294967296∧(yW F*(F.M%4294967296)+1)%4294967296=0:=by
 rcases hf with⟨_,rfl⟩|⟨_,rfl⟩
 ·exact⟨by decide,by decide⟩
 ·exact⟨by decide,by decide⟩
theorem CS (f:Int) (F:FC) (hf:FieldIs f F) (w:World):Calls prog 126 #[.int .i64 f] w fun e w'=>e=.returned (.int .u64 (yW F))∧w=w':=by
 rcases hf with⟨rfl,rfl⟩|⟨rfl,rfl⟩
 ·go_enter func126,ntmps126
  go_wp2_with fail;go_ret;exact⟨rfl,rfl⟩
 ·go_enter func126,ntmps126
  go_wp2_with fail;go_ret;exact⟨rfl,rfl⟩
structure MT (w wr:World) (p q r t:Nat) (X Y Z P:Nat→Nat):Prop where
 below:Below w.heap.size w wr
 res:Row4 wr (w.heap.size+1+1) 0 0 0 0
 rowX:RowIs wr p 8 X
 rowY:RowIs wr q 8 Y
 rowZ:RowIs wr r 8 Z
 rowP:RowIs wr t 10 P
 lt:∀k,P k<4294967296
section
variable {w wr:World} {p q r t:Nat} {X Y Z P:Nat→Nat}
theorem MT.set (h:MT w wr p q r t X Y Z P) (h2:w.heap.size+1+1<t) (pt:p<t) (qt:q<t) (rt:r<t) {k d:Nat} (hk:k<10) (hd:d<4294967296) :
  MT w (wr.setCell ⟨t,k,none⟩ (.int .u64 (d:Nat))) p q r t X Y Z (cV P k d) :=
 ⟨h.below.setCell (p:=⟨t,k,none⟩) (by show w.heap.size≤t; omega) _,h.res.other (by omega) _,h.rowX.other (by omega) _,h.rowY.other (by omega) _,h.rowZ.other (by omega) _,h.rowP.set hk,
  fun j=>by unfold cV; split; exact hd; exact h.lt j⟩
theorem MT.drewN (h:MT w wr p q r t X Y Z P) (n:Nat):MT w (wr.drewN n) p q r t X Y Z P:=⟨h.below.trans (aN _ _ _),h.res.drewN n,h.rowX,h.rowY,h.rowZ,h.rowP,h.lt⟩
end
theorem TW {a x y c:Nat} (ha:a<4294967296) (hx:x<4294967296) (hy:y<4294967296) (hc:c<4294967296):∃m n1 n l h:Nat,(x:Int)*(y:Int)=(m:Int)∧(a:Int)+(m:Int)=(n1:Int)∧(n1:Int)+(c:Int)=(n:Int)∧m<18446744073709551616∧n1<18446744073709551616∧n<18446744073709551616 ∧
  bits .and .u64 (n:Int) 4294967295=(l:Int)∧(n:Int)/4294967296=(h:Int)∧l<4294967296∧h<4294967296∧Hid (l+4294967296*h=a+x*y+c):=by
 have hm:=Nat.mul_le_mul (show x≤4294967295 by omega) (show y≤4294967295 by omega);obtain⟨l,h,e1,e2,hl,hh,e⟩:=fL (a:=a+x*y+c) (by omega);exact⟨x*y,a+x*y,a+x*y+c,l,h,(Int.natCast_mul _ _).symm,by omega,by omega,by omega,by omega,by omega,e1,e2,hl,hh,e⟩
theorem TT {a c:Nat} (ha:a<4294967296) (hc:c<4294967296):∃n l h:Nat,(a:Int)+(c:Int)=(n:Int)∧n<18446744073709551616∧bits .and .u64 (n:Int) 4294967295=(l:Int)∧(n:Int)/4294967296=(h:Int)∧l<4294967296∧h≤1∧Hid (l+4294967296*h=a+c):=by
 obtain⟨l,h,e1,e2,hl,hh,e⟩:=fL (a:=a+c) (by omega);have:=e.out;exact⟨a+c,l,h,by omega,by omega,e1,e2,hl,by omega,e⟩
theorem TY {u0 n z:Nat} (hu:u0<4294967296) (hn:n<4294967296) (hz:z<4294967296) (ht:(n*z+1)%4294967296=0):∃m0 q m1 n1 c:Nat,(u0:Int)*(n:Int)=(m0:Int)∧m0<18446744073709551616∧bits .and .u64 (m0:Int) 4294967295=(q:Int)∧q<4294967296 ∧
  (q:Int)*(z:Int)=(m1:Int)∧(u0:Int)+(m1:Int)=(n1:Int)∧m1<18446744073709551616∧n1<18446744073709551616∧(n1:Int)/4294967296=(c:Int)∧c<4294967296∧Hid (4294967296*c=u0+q*z):=by
 have hm:=Nat.mul_le_mul (show u0≤4294967295 by omega) (show n≤4294967295 by omega);obtain⟨q,h,e1,_,hq,hh,e⟩:=fL (a:=u0*n) (by omega);have hm1:=Nat.mul_le_mul (show q≤4294967295 by omega) (show z≤4294967295 by omega);obtain⟨l,c,e3,e4,hl,hc,e'⟩:=fL (a:=u0+q*z) (by omega);have hz0:(u0+q*z)%4294967296=0:=by
  have hq':q=u0*n%4294967296:=by have:=e.out; omega
  rw[hq',Nat.add_mod,Nat.mul_mod,Nat.mod_mod,←Nat.mul_mod,←Nat.add_mod,show u0+u0*n*z=u0*(n*z+1) by rw[Nat.mul_add,Nat.mul_one,Nat.mul_assoc,Nat.add_comm],Nat.mul_mod,ht,Nat.mul_zero,Nat.zero_mod]
 have:=e'.out;exact⟨u0*n,q,q*z,u0+q*z,c,(Int.natCast_mul _ _).symm,by omega,e1,hq,(Int.natCast_mul _ _).symm,by omega,by omega,by omega,e4,hc,Lib.hid (by omega)⟩
theorem MA (X P:Nat→Nat) (y:Nat):cD 4294967296 P 9+0*4294967296^0=cD 4294967296 P 9+cD 4294967296 X 0*y:=by rw[Nat.zero_mul,show cD 4294967296 X 0=0 from rfl,Nat.zero_mul]
theorem Kr {Z:Nat→Nat} {M:Nat} (h:cD 4294967296 Z 8=M) (hz:∀k,Z k<4294967296):Z 0=M%4294967296:=by
 have:=hz 0;rw[←h];simp only[cD];omega
theorem vK {w:World} {b k:Nat} {v:Value} (h:w.cell? ⟨b,k,none⟩=some v):b<w.heap.size:=by
 rcases Nat.lt_or_ge b w.heap.size with q|q
 ·exact q
 ·unfold World.cell? at h;simp[Array.getElem?_eq_none q]at h
theorem RowIs.ext0 {w:World} {b:Nat} (h:RowIs w b 4 (cQ [0,0,0,0])):RowIs w b 4 (fun _=>0):=fun k hk=>by
 have:=h k hk
 match k,hk with
 | 0,_|1,_|2,_|3,_=>exact this
structure OW (w wr:World) (t o:Nat) (P O:Nat→Nat):Prop where
 below:Below w.heap.size w wr
 res:Row4 wr (w.heap.size+1+1) 0 0 0 0
 rowP:RowIs wr t 10 P
 rowO:RowIs wr o 4 O
 lo:o<wr.heap.size
theorem OW.drewN {w wr:World} {t o:Nat} {P O:Nat→Nat} (h:OW w wr t o P O) (n:Nat):OW w (wr.drewN n) t o P O:=⟨h.below.trans (aN _ _ _),h.res.drewN n,h.rowP,h.rowO,h.lo⟩
theorem OW.set {w wr:World} {t o:Nat} {P O:Nat→Nat} (h:OW w wr t o P O) (h2:w.heap.size+1+1<t) (ht:t<o) {k d:Nat} (hk:k<4):OW w (wr.setCell ⟨o,k,none⟩ (.int .u64 (d:Nat))) t o P (cV O k d) :=
 ⟨h.below.setCell (p:=⟨o,k,none⟩) (by show w.heap.size≤o; omega) _,h.res.other (by omega) _,h.rowP.other (by omega) _,h.rowO.set hk,by rw[World.size_setCell]; exact h.lo⟩
set_option maxHeartbeats 16000000 in
theorem tF (f:Int) (F:FC) (hf:FieldIs f F) (a0 a1 a2 a3 b0 b1 b2 b3:Nat) (ha:aZ a0 a1 a2 a3) (hb:aZ b0 b1 b2 b3) (la:aA a0 a1 a2 a3<F.M) (w:World) :
  Calls prog 106 #[.int .i64 f,.agg #[.int .u64 a0,.int .u64 a1,.int .u64 a2,.int .u64 a3],.agg #[.int .u64 b0,.int .u64 b1,.int .u64 b2,.int .u64 b3]] w (eK (aA a0 a1 a2 a3*aA b0 b1 b2 b3*F.Ri%F.M) w):=by
 go_enter func106,ntmps106
 go_wp2_with fail;refine wQ f F hf a0 a1 a2 a3 b0 b1 b2 b3 ha hb w.heap.size (w.heap.size+1) _ _ ?_ ?_ (by first|(simp; done)|(simp; omega)) (by first|(simp; done)|(simp; omega)) (fun p q r X Y Z s21 s22 s23 s24 s25 s26 s27 u H => ?_)
 ·exact⟨by simp[go_sem],by simp[go_sem],by simp[go_sem],by simp[go_sem],fun k=>by simp[go_sem]⟩
 ·exact⟨by simp[go_sem],by simp[go_sem],by simp[go_sem],by simp[go_sem],fun k=>by simp[go_sem]⟩
 have hres:Row4 u (w.heap.size+1+1) 0 0 0 0:=Row4.below ⟨by simp[go_sem],by simp[go_sem],by simp[go_sem],by simp[go_sem],fun k=>by simp[go_sem]⟩ H.below (by simp);have h0:Below w.heap.size w u:=by
  refine Below.trans ?_ (H.below.mono (by simp; omega))
  repeat (first|exact Below.refl _ _|refine Below.alloc ?_ (by first|(simp; done)|(simp; omega)) _)
 have lp:=H.lp; have lq:=H.lq; have lr:=H.lr; have hs:=H.below.size;simp at lp lq lr hs;have up:=H.up; have uq:=H.uq; have ur:=H.ur;have ht2:w.heap.size+1+1<u.heap.size:=by omega
 have HX:=Lib.hid H.ltX; have HY:=Lib.hid H.ltY; have HZ:=Lib.hid H.ltZ;have HeX:=Lib.hid H.eX; have HeY:=Lib.hid H.eY; have HeZ:=Lib.hid H.eZ;have bN:=(GY hf).1;have HTn:=Lib.hid (show (yW F*Z 0+1)%4294967296=0 by rw[Kr H.eZ H.ltZ]; exact (GY hf).2);have HM0:=Lib.hid (show MT w (u.alloc (.cells #[.int .u64 0,.int .u64 0,.int .u64 0,.int .u64 0,.int .u64 0,.int .u64 0,.int .u64 0,.int .u64 0,.int .u64 0,.int .u64 0] 150)) p q r u.heap.size X Y Z (fun _=>0)from by
  refine⟨h0.alloc (by omega) _,hres.alloc (by omega) _,H.rowX.alloc up _,H.rowY.alloc uq _,H.rowZ.alloc ur _,?_,fun _=>by show 0<_; omega⟩;intro k hk;refine⟨?_,World.frozen?_alloc_new _ _ _ _⟩;rw[World.cell?_alloc_new]
  match k,hk with
  | 0,_|1,_|2,_|3,_|4,_|5,_|6,_|7,_|8,_|9,_=>rfl)
 have HO:=Lib.hid (ME F.M (aA a0 a1 a2 a3) Y (fun _=>0) hf.ok.pos (fun _=>rfl));have Hf:=Lib.hid hf;have HLA:=Lib.hid la;clear H hres h0 la;unfold ES;go_wp2_with fail;refine (CS f F hf _).mono ?_
 rintro e w' ⟨rfl,rfl⟩
 generalize yW F=tn at *;go_wp2_with fail
 go_loopw [12] (fun i wr=>∃(k:Nat) (P:Nat→Nat),k≤8∧i=.int .i64 k∧Hid (MT w wr p q r u.heap.size X Y Z P)∧Hid (OP F.M (aA a0 a1 a2 a3) Y P k)) (fun i _=>8-(intOf i).toNat)
 case atStart=>exact⟨0,fun _=>0,by omega,rfl,HM0,HO⟩
 case round =>
  clear HM0 HO;obtain⟨k,P,hk,rfl,HM,HO⟩:=hrel
  by_cases hlt:k<8
  ·obtain⟨wo,rfl⟩:∃wo:World,wo=wr:=⟨_,rfl⟩
   go_wp2_with fail
   go_loopw [13,14] (fun cv jv wr=>∃(j c:Nat) (N:Nat→Nat),j≤8∧c<4294967296∧jv=.int .i64 j∧cv=.int .u64 c∧Hid (MT w wr p q r u.heap.size X Y Z N)∧Hid (cD 4294967296 N 9+c*4294967296^j=cD 4294967296 P 9+cD 4294967296 X j*Y k)) (fun _ jv _=>8-(intOf jv).toNat)
   case atStart=>exact⟨0,0,P,by omega,by omega,rfl,rfl,HM,Lib.hid (MA X P (Y k))⟩
   case round =>
    clear HM;obtain⟨j,c,N,hj,hc,rfl,rfl,HM,HI⟩:=hrel
    by_cases hlt2:j<8
    ·have cx:=HM.out.rowX.cell hlt2;have cy:=HM.out.rowY.cell hlt;have cp:=HM.out.rowP.cell (show j<10 by omega);have fp:=HM.out.rowP.free (show j<10 by omega);have hj10:(j:Int)<10:=by omega
     obtain⟨m,n1,n,l,h,e1,e2,e3,b1,b2,b3,e4,e5,bl,bh,e⟩:=TW (HM.out.lt j) (HX.out j) (HY.out k) hc;go_wp2_with fail
     go_quiet (fail)
     go_wp2_with fail
     go_roundw
     case rel=>exact⟨j+1,h,cV N j l,by omega,bh,by go_num,rfl,Lib.hid ((HM.out.drewN _).set ht2 up uq ur (by omega) bl),Lib.hid (RZ hlt2 HI.out e.out)⟩
     case measure=>simp[intOf]; omega
    ·obtain rfl:j=8:=by omega
     have c8:=HM.out.rowP.cell (show 8<10 by omega);have f8:=HM.out.rowP.free (show 8<10 by omega);have c9:=HM.out.rowP.cell (show 9<10 by omega);have f9:=HM.out.rowP.free (show 9<10 by omega);have c0:=HM.out.rowP.cell (show 0<10 by omega);have z0:=HM.out.rowZ.cell (show 0<8 by omega);obtain⟨n,l,h,e1,b1,e2,e3,bl,bh,e⟩:=TT (HM.out.lt 8) hc;have HU:=Lib.hid ((HM.out.set ht2 up uq ur (k:=8) (by omega) bl).set ht2 up uq ur (k:=9) (d:=h) (by omega) (by omega));have HS:=Lib.hid (YU HI.out e.out);have HU9:=Lib.hid (show cV (cV N 8 l) 9 h 9≤1 by unfold cV; rw[if_pos rfl]; exact bh);have HU0:=Lib.hid (show cV (cV N 8 l) 9 h 0=N 0 by unfold cV; rw[if_neg (by omega),if_neg (by omega)]);obtain⟨m0,g,m1,n1,d,g1,g2,g3,g4,g5,g6,g7,g8,g9,g10,gg⟩:=TY (HM.out.lt 0) bN (HZ.out 0) HTn.out;have HT2:=Lib.hid (CQ (U:=cV (cV N 8 l) 9 h) (Z:=Z) (q:=g) (c:=d) (by rw[HU0.out]; exact gg.out));have ub:=HM.out;clear HM HI e ub gg;generalize cV (cV N 8 l) 9 h=U at *;go_wp2_with fail
     go_loopw [13,18] (fun cv jv wr=>∃(j c:Nat) (V:Nat→Nat),1≤j∧j≤8∧c<4294967296∧jv=.int .i64 j∧cv=.int .u64 c∧Hid (MT w wr p q r u.heap.size X Y Z V)∧Hid (VX U Z V g j c)) (fun _ jv _=>8-(intOf jv).toNat)
     case atStart=>exact⟨1,d,U,by omega,by omega,g10,rfl,rfl,HU,HT2⟩
     case round =>
      clear HU HT2 c8 f8 c9 f9 c0 z0;obtain⟨j,c',V,hj1,hj,hc',rfl,rfl,HM,HT2⟩:=hrel
      by_cases hlt3:j<8
      ·obtain⟨j1,e6,hj1'⟩:∃j1:Nat,(j:Int)-1=(j1:Int)∧j1+1=j:=⟨j-1,by omega,by omega⟩
       have cz:=HM.out.rowZ.cell hlt3;have cp:=HM.out.rowP.cell (show j<10 by omega);have cp1:=HM.out.rowP.cell (show j1<10 by omega);have fp1:=HM.out.rowP.free (show j1<10 by omega);have hj10:(j1:Int)<10:=by omega
       have hj11:(j:Int)<10:=by omega
       obtain⟨m,n1,n',l',h',d1,d2,d3,b1',b2',b3',d4,d5,bl',bh',e⟩:=TW (HM.out.lt j) g4 (HZ.out j) hc';have HN:=Lib.hid (KZ hj1 HT2.out (by rw[←HT2.out.1 j (Nat.le_refl _)]; exact e.out));rw[show j-1=j1 by omega]at HN;have HJ:=Lib.hid hj1';clear hj1' HT2 e;go_wp2_with fail
       go_quiet (fail)
       go_wp2_with fail
       go_roundw
       case rel=>exact⟨j+1,h',cV V j1 l',by omega,by omega,bh',by go_num,rfl,Lib.hid ((HM.out.drewN _).set ht2 up uq ur (by omega) bl'),HN⟩
       case measure=>simp[intOf]; omega
      ·obtain rfl:j=8:=by omega
       have c7:=HM.out.rowP.cell (show 7<10 by omega); have f7:=HM.out.rowP.free (show 7<10 by omega);have c8:=HM.out.rowP.cell (show 8<10 by omega); have f8:=HM.out.rowP.free (show 8<10 by omega);have c9:=HM.out.rowP.cell (show 9<10 by omega);obtain⟨n',l',h',d1,b1',d2,d3,bl',bh',e⟩:=TT (HM.out.lt 8) hc';have h9:=HU9.out;have e9':V 9=U 9:=HT2.out.1 9 (by omega);obtain⟨s9,e9,hs9⟩:∃s9:Nat,(V 9:Int)+(h':Int)=(s9:Int)∧s9=U 9+h':=⟨V 9+h',by omega,by omega⟩
       have bs9:s9<4294967296:=by omega
       have HN:=Lib.hid ((HM.out.set ht2 up uq ur (k:=7) (by omega) bl').set ht2 up uq ur (k:=8) (d:=s9) (by omega) bs9);have HO':=Lib.hid (MF HO.out HLA.out (HY.out k) g4 (N:=cV (cV V 7 l') 8 s9) (by
        have h2:=PI HT2.out (l:=l') (h:=h') (by rw[←HT2.out.1 8 (Nat.le_refl _)]; exact e.out);rw[hs9,h2,HS.out,HeX.out,HeZ.out]))
       clear HM HT2 e hs9 h9 e9' HU9 HS HO;go_wp2_with fail
       go_roundw
       case rel=>exact⟨k+1,cV (cV V 7 l') 8 s9,by omega,by go_num,HN,HO'⟩
       case measure=>simp[intOf]; omega
  ·obtain rfl:k=8:=by omega
   obtain⟨hP8,hP9⟩:=SQ hf.ok HO.out;have HV:=Lib.hid (show cD 4294967296 P 8%F.M=aA a0 a1 a2 a3*aA b0 b1 b2 b3*F.Ri%F.M by rw[←hP9,SR hf.ok HO.out,HeY.out]);have HP8:=Lib.hid hP8;have hwr:u.heap.size<wr.heap.size:=vK (HM.out.rowP.cell (show 0<10 by omega));have HW:=Lib.hid (show OW w (wr.alloc (.cells #[.int .u64 0,.int .u64 0,.int .u64 0,.int .u64 0] 27)) u.heap.size wr.heap.size P (fun _=>0)from
    ⟨HM.out.below.alloc (by omega) _,HM.out.res.alloc (by omega) _,HM.out.rowP.alloc hwr _,(Row4.new wr 0 0 0 0 27).rows.ext0,by simp⟩)
   have HPl:=Lib.hid HM.out.lt;clear HO hP8 hP9 HM HLA;go_wp2_with fail
   go_loopw [20] (fun iv wx=>∃(i:Nat) (O:Nat→Nat),i≤4∧iv=.int .i64 i∧Hid (OW w wx u.heap.size wr.heap.size P O)∧Hid (∀j,j<i→O j=P (2*j)+4294967296*P (2*j+1))) (fun iv _=>4-(intOf iv).toNat)
   case atStart=>exact⟨0,fun _=>0,by omega,rfl,HW,Lib.hid (fun j hj=>absurd hj (by omega))⟩
   case round =>
    clear HW;obtain⟨i,O,hi,rfl,HW,HO⟩:=hrel
    by_cases hlt4:i<4
    ·obtain⟨e0,q0,q0'⟩:∃e0:Nat,(2:Int)*(i:Int)=(e0:Int)∧e0=2*i:=⟨2*i,by omega,rfl⟩
     obtain⟨o0,q1,q1'⟩:∃o0:Nat,(e0:Int)+1=(o0:Int)∧o0=2*i+1:=⟨2*i+1,by omega,rfl⟩
     have ca:=HW.out.rowP.cell (show e0<10 by omega);have cb:=HW.out.rowP.cell (show o0<10 by omega);have co:=HW.out.rowO.cell hlt4;have fo:=HW.out.rowO.free hlt4;have be:(e0:Int)<10:=by omega
     have bo:(o0:Int)<10:=by omega
     obtain⟨uu,s,j1,j2,j3,j4,j5⟩:=pE (HPl.out e0) (HPl.out o0);have HN:=Lib.hid (show ∀j,j<i+1→cV O i s j=P (2*j)+4294967296*P (2*j+1)from fun j hj=>by
      unfold cV
      by_cases e:j=i
      ·subst e; rw[if_pos rfl,j5.out,q0',q1']
      ·rw[if_neg e]; exact HO.out j (by omega))
     have HQ1:=Lib.hid q0';have HQ2:=Lib.hid q1';clear q0' q1' j5 HO;go_wp2_with fail
     go_region
     go_wp2_with fail
     go_roundw
     case rel=>exact⟨i+1,cV O i s,by omega,by go_num,Lib.hid ((HW.out.drewN 1).set ht2 hwr hlt4),HN⟩
     case measure=>simp[intOf]; omega
    ·obtain rfl:i=4:=by omega
     have c8:=HW.out.rowP.cell (show 8<10 by omega);rw[HP8.out]at c8;have o0:=HW.out.rowO.cell (show 0<4 by omega); have o1:=HW.out.rowO.cell (show 1<4 by omega); have o2:=HW.out.rowO.cell (show 2<4 by omega); have o3:=HW.out.rowO.cell (show 3<4 by omega);have v0:O 0=P 0+4294967296*P 1:=HO.out 0 (by omega);have v1:O 1=P 2+4294967296*P 3:=HO.out 1 (by omega);have v2:O 2=P 4+4294967296*P 5:=HO.out 2 (by omega);have v3:O 3=P 6+4294967296*P 7:=HO.out 3 (by omega);have l0:=HPl.out 0; have l1:=HPl.out 1; have l2:=HPl.out 2; have l3:=HPl.out 3; have l4:=HPl.out 4; have l5:=HPl.out 5; have l6:=HPl.out 6; have l7:=HPl.out 7;have hok:aZ (O 0) (O 1) (O 2) (O 3):=⟨by rw[v0]; omega,by rw[v1]; omega,by rw[v2]; omega,by rw[v3]; omega⟩;have HE:=Lib.hid (show aA (O 0) (O 1) (O 2) (O 3)=cD 4294967296 P 8 by rw[v0,v1,v2,v3,←TA]);clear v0 v1 v2 v3 l0 l1 l2 l3 l4 l5 l6 l7 HO;go_wp2_with fail;refine (dO f F Hf.out (O 0) (O 1) (O 2) (O 3) hok _).mono ?_
     rintro e w9 ⟨s0,s1,s2,s3,rfl,hs9,hv,hbl⟩
     have HVs:=Lib.hid (show aA s0 s1 s2 s3=aA a0 a1 a2 a3*aA b0 b1 b2 b3*F.Ri%F.M by rw[hv,HE.out,HV.out]);have hsz:=HW.out.below.size;have lres:=vK HW.out.res.c0;have Rr:=HW.out.res.below hbl lres;have y0:=Rr.c0; have y1:=Rr.c1; have y2:=Rr.c2; have y3:=Rr.c3; have yf:=Rr.fr;have HB:=Lib.hid (HW.out.below.trans (hbl.mono hsz));have hz9:w.heap.size+1+1<w9.heap.size:=Nat.lt_of_lt_of_le lres hbl.size;clear Rr hv hbl HW o0 o1 o2 o3 c8;go_wp2_with fail;refine bodyPost_ret (v:=.agg #[.int .u64 s0,.int .u64 s1,.int .u64 s2,.int .u64 s3]) (by simp[results,results106,go_sem, *]) rfl ?_;refine⟨_,_,_,_,rfl,hs9,HVs.out,?_⟩;exact aM HB.out (by omega) _ _ _ _
end Go.Proofs.YtpjlhhpjpnacmaaGreat
