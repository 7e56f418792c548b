/- Pr04 -/
import Derived.WalkKit
import Derived.WalkLawsBesides
import Derived.WalkSpells
import Derived.ProofKit
import Derived.RegionTactic
import Derived.BigRegion
import Derived.BigQuiet
import Derived.Deep.QuietTactic
import Derived.ChangeAlike
import Derived.Laws.Externs
import Derived.LoopN
import Derived.Below
import Derived.Lib.Hide
import Derived.Shelf.Small.Bits
import Derived.Shelf.Strconv.Itoa0
import Derived.Shelf.Bits.Mul64
import Derived.StillTailTactics
import Derived.Laws.Bits64b
import Derived.Laws.Bits64
import Derived.Deep.Draws
import Derived.LoopTactic
import Derived.Deep.LoopGhost
import Derived.KernelRfl
import Derived.Deep.RegionWith
import Derived.Outline
import Derived.Test.YtjjnbgoepbiojaaGreatProg
import Derived.Test.YtjjnbgoepbiojaaGreatPr00
set_option maxRecDepth 100000
set_option linter.unusedVariables false
set_option linter.unusedSimpArgs false
set_option linter.unnecessarySimpa false
namespace Go.Proofs.YtjjnbgoepbiojaaGreat
open Go.Proofs.Tryz
open Go.RowKit
theorem oQ (x y c:Nat) (hc:c≤1) (w:World) :
  (callFunc 93 #[.int .u64 (x:Int),.int .u64 (y:Int),.int .u64 (c:Int)]).run prog w =
   .ok (.value (.tuple #[.int .u64 (FN x y c:Nat),.int .u64 (FO x y c:Nat)])) w:=by
 rw[run_callFunc_extern func93 (by kernel_rfl) (by kernel_rfl) (by kernel_rfl) (e:=add64Entry) (by kernel_rfl),run_add64 x y c (by omega) (by omega) (by omega) (by omega)];simp only[Result.andThen];unfold FN FO;congr 5<;>omega
theorem DG (x y:Nat) (w:World) :
  (callFunc 93 #[.int .u64 (x:Int),.int .u64 (y:Int),.int .u64 0]).run prog w =
   .ok (.value (.tuple #[.int .u64 (FN x y 0:Nat),.int .u64 (FO x y 0:Nat)])) w:=oQ x y 0 (by omega) w
def NM:Array Value→Sem Value:=fun args=>do
 let (x,y,b) ←Extern.MathBitsCarry.three "Sub64" args
 pure (Extern.MathBitsCarry.pair ((x+Extern.MathBitsCarry.m64-y-b)%Extern.MathBitsCarry.m64) (if x<y+b then 1 else 0))
theorem DC {P:Program} (x y b:Nat) (hb:b≤1) (w:World) :
  (NM #[.int .u64 x,.int .u64 y,.int .u64 b]).run P w=.ok (.tuple #[.int .u64 (CS x y b:Nat),.int .u64 (CT x y b:Nat)]) w:=by
 have:b=0∨b=1:=by omega
 rcases this with rfl|rfl<;>rfl
theorem uQ (x y c:Nat) (hc:c≤1) (w:World) :
  (callFunc 92 #[.int .u64 (x:Int),.int .u64 (y:Int),.int .u64 (c:Int)]).run prog w =
   .ok (.value (.tuple #[.int .u64 (CS x y c:Nat),.int .u64 (CT x y c:Nat)])) w:=by
 rw[run_callFunc_extern func92 (by kernel_rfl) (by kernel_rfl) (by kernel_rfl) (e:=NM) (by kernel_rfl),DC x y c hc];rfl
theorem DF (x y:Nat) (w:World) :
  (callFunc 92 #[.int .u64 (x:Int),.int .u64 (y:Int),.int .u64 0]).run prog w =
   .ok (.value (.tuple #[.int .u64 (CS x y 0:Nat),.int .u64 (CT x y 0:Nat)])) w:=uQ x y 0 (by omega) w
theorem tL {x y c:Nat} (hx:x<18446744073709551616) (hy:y<18446744073709551616) (hc:c≤1):∃d b:Nat,(∀w,(callFunc 93 #[.int .u64 (x:Int),.int .u64 (y:Int),.int .u64 (c:Int)]).run prog w =
   .ok (.value (.tuple #[.int .u64 (d:Int),.int .u64 (b:Int)])) w)∧d<18446744073709551616∧b≤1∧Hid (d+18446744073709551616*b=x+y+c) :=
 ⟨_,_,oQ x y c hc,yA _ _ _,yB hx hy hc,UJ x y c⟩
theorem pH {x y:Nat} (hx:x<18446744073709551616) (hy:y<18446744073709551616):∃d b:Nat,(∀w,(callFunc 93 #[.int .u64 (x:Int),.int .u64 (y:Int),.int .u64 0]).run prog w =
   .ok (.value (.tuple #[.int .u64 (d:Int),.int .u64 (b:Int)])) w)∧d<18446744073709551616∧b≤1∧Hid (d+18446744073709551616*b=x+y) :=
 ⟨_,_,DG x y,yA _ _ _,yB hx hy (Nat.zero_le _),UJ x y 0⟩
theorem jR {x y c:Nat} (hx:x<18446744073709551616) (hy:y<18446744073709551616) (hc:c≤1):∃d b:Nat,(∀w,(callFunc 92 #[.int .u64 (x:Int),.int .u64 (y:Int),.int .u64 (c:Int)]).run prog w =
   .ok (.value (.tuple #[.int .u64 (d:Int),.int .u64 (b:Int)])) w)∧d<18446744073709551616∧b≤1∧Hid (d+y+c=x+18446744073709551616*b) :=
 ⟨_,_,uQ x y c hc,GL _ _ _,GM _ _ _,Da hx hy hc⟩
theorem vK {x y:Nat} (hx:x<18446744073709551616) (hy:y<18446744073709551616):∃d b:Nat,(∀w,(callFunc 92 #[.int .u64 (x:Int),.int .u64 (y:Int),.int .u64 0]).run prog w =
   .ok (.value (.tuple #[.int .u64 (d:Int),.int .u64 (b:Int)])) w)∧d<18446744073709551616∧b≤1∧Hid (d+y=x+18446744073709551616*b) :=
 ⟨_,_,DF x y,GL _ _ _,GM _ _ _,Da hx hy (Nat.zero_le _)⟩
def Cw (A B:Nat) (w:World) (e:Ending) (w':World):Prop :=
 ∃s0 s1 s2 s3 c:Nat,e=.returned (.tuple #[.agg #[.int .u64 s0,.int .u64 s1,.int .u64 s2,.int .u64 s3],.int .u64 c])∧cK s0 s1 s2 s3∧c≤1∧aD s0 s1 s2 s3+115792089237316195423570985008687907853269984665640564039457584007913129639936*c=A+B∧Below w.heap.size w w'
def JK (A B:Nat) (w:World) (e:Ending) (w':World):Prop :=
 ∃s0 s1 s2 s3 c:Nat,e=.returned (.tuple #[.agg #[.int .u64 s0,.int .u64 s1,.int .u64 s2,.int .u64 s3],.int .u64 c])∧cK s0 s1 s2 s3∧c≤1∧aD s0 s1 s2 s3+B=A+115792089237316195423570985008687907853269984665640564039457584007913129639936*c∧Below w.heap.size w w'
theorem uP (a0 a1 a2 a3 b0 b1 b2 b3:Nat) (ha:cK a0 a1 a2 a3) (hb:cK b0 b1 b2 b3) (w:World) :
  Calls prog 88 #[.agg #[.int .u64 a0,.int .u64 a1,.int .u64 a2,.int .u64 a3],.agg #[.int .u64 b0,.int .u64 b1,.int .u64 b2,.int .u64 b3]] w (JK (aD a0 a1 a2 a3) (aD b0 b1 b2 b3) w):=by
 obtain⟨s0,c0,r0,bs0,bc0,e0⟩:=vK ha.1 hb.1;obtain⟨s1,c1,r1,bs1,bc1,e1⟩:=jR ha.2.1 hb.2.1 bc0;obtain⟨s2,c2,r2,bs2,bc2,e2⟩:=jR ha.2.2.1 hb.2.2.1 bc1;obtain⟨s3,c3,r3,bs3,bc3,e3⟩:=jR ha.2.2.2 hb.2.2.2 bc2
 go_enter func88,ntmps88
 go_wp2
 refine wp_loop_rounds 5 ?_;rw[rounds_succ]
 go_wp2
 go_region
 go_wp2
 rw[rounds_succ]
 go_wp2
 go_region
 go_wp2
 rw[rounds_succ]
 go_wp2
 go_region
 go_wp2
 rw[rounds_succ]
 go_wp2
 go_region
 go_wp2
 rw[rounds_succ]
 go_wp2
 refine bodyPost_ret (v:=.tuple #[.agg #[.int .u64 s0,.int .u64 s1,.int .u64 s2,.int .u64 s3],.int .u64 c3]) (by simp[results,results88,go_sem]) rfl ?_;refine⟨_,_,_,_,_,rfl,⟨bs0,bs1,bs2,bs3⟩,bc3,by have:=e0.out; have:=e1.out; have:=e2.out; have:=e3.out; unfold aD; omega,?_⟩
 repeat (first|exact Below.refl _ _|refine Below.drew ?_|refine Below.alloc ?_ (by first|(simp; done)|(simp; omega)) _)
theorem pY {W w1:World} (hb:Below W.heap.size W w1):(∀b o,b<W.heap.size→w1.cell? ⟨b,o,none⟩=W.cell? ⟨b,o,none⟩)∧(∀b o,b<W.heap.size→w1.frozen? ⟨b,o,none⟩=W.frozen? ⟨b,o,none⟩) :=
 ⟨fun b o h=>hb.cell (p:=⟨b,o,none⟩) h,fun b o h=>hb.frozen (p:=⟨b,o,none⟩) h⟩
def SU (a0 a1 a2 a3 b0 b1 b2 b3:Nat):Bool:=decide (a0=b0∧a1=b1∧a2=b2∧a3=b3)
theorem BE (d:Nat) (a0 a1 a2 a3 b0 b1 b2 b3:Nat) (w:World):(Op.equalIn (d+1+1) 66 (.agg #[.int .u64 a0,.int .u64 a1,.int .u64 a2,.int .u64 a3]) (.agg #[.int .u64 b0,.int .u64 b1,.int .u64 b2,.int .u64 b3])).run prog w=.ok (SU a0 a1 a2 a3 b0 b1 b2 b3) w:=by
 have h0:∀(x y:Int) (w:World),(Op.equalIn (d+1) 23 (.int .u64 x) (.int .u64 y)).run prog w=.ok (x==y) w:=fun x y w=>run_equalIn_int w d 23 .u64 .u64 x y underlying23
 rw[Op.equalIn];simp only[Sem.run_bind,run_underlying underlying66,Result.andThen_ok,Tryz.sizeOf23];simp[Std.Legacy.Range.forIn_eq_forIn_range',Std.Legacy.Range.size,List.range',part,h0,Sem.run_bind,Result.andThen_ok];unfold SU
 by_cases q0:a0=b0<;>by_cases q1:a1=b1<;>by_cases q2:a2=b2<;>by_cases q3:a3=b3<;>simp[q0,q1,q2,q3]<;>omega
theorem SW:prog.eqGuardType prog.depth 66=false:=by kernel_rfl
theorem xT {a0 a1 a2 a3 b0 b1 b2 b3:Nat} (ha:cK a0 a1 a2 a3) (hb:cK b0 b1 b2 b3):SU a0 a1 a2 a3 b0 b1 b2 b3=true↔aD a0 a1 a2 a3=aD b0 b1 b2 b3:=by
 unfold SU; rw[decide_eq_true_iff];exact⟨fun⟨h0,h1,h2,h3⟩=>by rw[h0,h1,h2,h3],yJ ha hb⟩
def cY (A B:Nat):Int:=if A=B then 0 else if A<B then -1 else 1
end Go.Proofs.YtjjnbgoepbiojaaGreat
namespace Go.Proofs
open Go.Shelf
def Tryz.lays129_ren:Go.Shelf.Ren:=⟨fun|129=>99|n=>n,fun|53=>23|3=>3|4=>4|46=>95|5=>5|9=>9|n=>n,fun|n=>n⟩
theorem Tryz.lays129:Go.Proofs.Lays.n129 prog Tryz.lays129_ren:={
 mixed:=by kernel_rfl
 f129:=func99.trans (congrArg some (by kernel_rfl))
 t3:=underlying3
 a3:=Tryz.isAgg3
 z3:=Tryz.sizeOf3
 v3:=Tryz.zeroValue3
 t4:=underlying4
 a4:=Tryz.isAgg4
 z4:=Tryz.sizeOf4
 v4:=Tryz.zeroValue4
 t5:=underlying5
 a5:=Tryz.isAgg5
 z5:=Tryz.sizeOf5
 v5:=Tryz.zeroValue5
 t9:=underlying9
 a9:=Tryz.isAgg9
 z9:=Tryz.sizeOf9
 v9:=Tryz.zeroValue9
 t46:=underlying95
 a46:=Tryz.isAgg95
 z46:=Tryz.sizeOf95
 v46:=Tryz.zeroValue95
 t53:=underlying23
 a53:=Tryz.isAgg23
 z53:=Tryz.sizeOf23
 v53:=Tryz.zeroValue23 }
theorem Tryz.bits_Len64 (x:Int) (w:World) (h0:0≤x) (h1:x≤18446744073709551615) :
  Calls prog 99 #[.int .u64 x] w fun e w'=>e=.returned (.int .i64 (Lib.bitLen x.toNat))∧w'=w:=Any.bits_Len64 Tryz.lays129 x w h0 h1
def Tryz.lays264_ren:Go.Shelf.Ren:=⟨fun|264=>110|n=>n,fun|53=>23|46=>95|n=>n,fun|n=>n⟩
theorem Tryz.lays264:Go.Proofs.Lays.n264 prog Tryz.lays264_ren:={
 mixed:=by kernel_rfl
 f264:=func110.trans (congrArg some (by kernel_rfl))
 t46:=underlying95
 a46:=Tryz.isAgg95
 z46:=Tryz.sizeOf95
 v46:=Tryz.zeroValue95
 t53:=underlying23
 a53:=Tryz.isAgg23
 z53:=Tryz.sizeOf23
 v53:=Tryz.zeroValue23 }
open Go.RowKit Go.Lib in
theorem Tryz.bits_Mul64 (x y:Nat) (hx:x<18446744073709551616) (hy:y<18446744073709551616) (w:World) :
  Calls prog 110 #[.int .u64 x,.int .u64 y] w fun e w'=>e=.returned (.tuple #[.int .u64 ((x*y/18446744073709551616:Nat):Int),.int .u64 ((x*y%18446744073709551616:Nat):Int)])∧w'=w:=Any.bits_Mul64 Tryz.lays264 x y hx hy w
end Go.Proofs
namespace Go.Proofs.YtjjnbgoepbiojaaGreat
open Go.Proofs.Tryz
open Go.RowKit
theorem AL (x y:Nat) (hx:x<18446744073709551616) (hy:y<18446744073709551616) (w:World) :
  Calls prog 110 #[.int .u64 x,.int .u64 y] w fun e w'=>e=.returned (.tuple #[.int .u64 (QM x y:Nat),.int .u64 (QL x y:Nat)])∧w'=w :=
 Tryz.bits_Mul64 x y hx hy w
theorem SQ {x y:Nat} (hx:x<18446744073709551616) (hy:y<18446744073709551616):∃h l:Nat,(∀w,Calls prog 110 #[.int .u64 x,.int .u64 y] w fun e w'=>e=.returned (.tuple #[.int .u64 (h:Nat),.int .u64 (l:Nat)])∧w'=w)∧h≤18446744073709551614∧l<18446744073709551616∧Hid (l+18446744073709551616*h=x*y) :=
 ⟨_,_,AL x y hx hy,YT hx hy,YS _ _,Qk x y⟩
theorem jT (x:Nat):IntKind.u64.wrap (x:Int)=((x%18446744073709551616:Nat):Int):=by rw[IntKind.wrap_u64]; omega
theorem xZ (x S:Nat):(x:Int)*2^S=((x*2^S:Nat):Int):=by rw[Int.natCast_mul,Int.natCast_pow]; rfl
theorem KL (S:Nat) (h:S≤63):2^(64-S)*2^S=18446744073709551616:=by
 rw[←Nat.pow_add,show 64-S+S=64 by omega]
theorem Bl {Y:Nat} (h:Y<18446744073709551616):∃a b:Nat,(Y:Int)/4294967296=(a:Int)∧bits .and .u64 (Y:Int) 4294967295=(b:Int)∧a<4294967296∧b<4294967296∧Y=a*4294967296+b:=by
 refine⟨Y/4294967296,Y%4294967296,by omega,?_,by omega,by omega,by omega⟩;have h':=bits_and_u64_nat Y 4294967295 h (by omega);rw[show Y &&& 4294967295=Y%4294967296 from Nat.and_two_pow_sub_one_eq_mod Y 32]at h';exact h'
section
variable {y1 y0 u u1 q r:Nat}
end
theorem Ih {y:Nat} (h0:1≤y) (hy:y<18446744073709551616):Lib.bitLen y=y.log2+1∧2^y.log2≤y∧y<2^(y.log2+1)∧y.log2≤63:=by
 have a:=Nat.log2_self_le (show y≠0 by omega);have b:y<2^(y.log2+1):=Nat.lt_log2_self;refine⟨?_,a,b,?_⟩
 ·rw[Lib.bitLen_shift y.log2 y a hy];have:y/2^y.log2=1:=by
   rw[Nat.pow_succ]at b;exact (Nat.div_eq_iff (Nat.two_pow_pos _)).2 ⟨by omega,by omega⟩
  rw[this]; rfl
 ·have:=(Nat.log2_lt (show y≠0 by omega)).2 (show y<2^64 from hy);omega
def RowIs (w:World) (b n:Nat) (P:Nat→Nat):Prop:=∀k,k<n→w.cell? ⟨b,k,none⟩=some (.int .u64 (P k:Nat))∧w.frozen? ⟨b,k,none⟩=false
def cN (P:Nat→Nat) (i v:Nat):Nat→Nat:=fun k=>if k=i then v else P k
def eL (l:List Nat):Nat→Nat:=fun k=>l.getD k 0
section
variable {w w':World} {b n i v:Nat} {P:Nat→Nat}
theorem RowIs.cell (h:RowIs w b n P) (hi:i<n):w.cell? ⟨b,i,none⟩=some (.int .u64 (P i:Nat)):=(h i hi).1
theorem RowIs.free (h:RowIs w b n P) (hi:i<n):w.frozen? ⟨b,i,none⟩=false:=(h i hi).2
theorem RowIs.set (h:RowIs w b n P) (hi:i<n):RowIs (w.setCell ⟨b,i,none⟩ (.int .u64 (v:Nat))) b n (cN P i v):=by
 intro k hk;refine⟨?_,by rw[World.frozen?_setCell]; exact h.free hk⟩;unfold cN
 by_cases e:k=i
 ·subst e; rw[if_pos rfl]; exact World.cell?_setCell_same (h:=h.cell hk) ..
 ·rw[if_neg e,World.cell?_setCell_other (h:=fun he=>e (by simpa using (congrArg Addr.off he).symm)) ..]; exact h.cell hk
theorem RowIs.other (h:RowIs w b n P) {c:Nat} (hc:c≠b) (x:Value):RowIs (w.setCell ⟨c,i,none⟩ x) b n P:=by
 intro k hk;exact⟨by rw[World.cell?_setCell_other (h:=fun he=>hc (by simpa using congrArg Addr.block he)) ..]; exact h.cell hk,by rw[World.frozen?_setCell]; exact h.free hk⟩
theorem RowIs.drew (h:RowIs w b n P):RowIs w.drew b n P:=h
theorem RowIs.drewN (h:RowIs w b n P) (m:Nat):RowIs (w.drewN m) b n P:=h
theorem RowIs.below (h:RowIs w b n P) {B:Nat} (hb:Below B w w') (hB:b<B):RowIs w' b n P:=by
 intro k hk;exact⟨by rw[hb.cell (p:=⟨b,k,none⟩) hB]; exact h.cell hk,by rw[hb.frozen (p:=⟨b,k,none⟩) hB]; exact h.free hk⟩
theorem RowIs.alloc (h:RowIs w b n P) (hb:b<w.heap.size) (o:Obj):RowIs (w.alloc o) b n P :=
 h.below ((Below.refl w.heap.size w).alloc (Nat.le_refl _) o) hb
theorem RowIs.mk (w:World) (t:TypeId) (l:List Nat) (b:Nat) (hb:b=w.heap.size):RowIs (w.alloc (.cells (l.map fun x=>Value.int .u64 (x:Nat)).toArray t)) b l.length (eL l):=by
 subst hb;intro k hk;refine⟨?_,World.frozen?_alloc_new _ _ _ _⟩;rw[World.cell?_alloc_new];simp[eL,hk]
end
structure Row4 (w:World) (b:Nat) (c0 c1 c2 c3:Nat):Prop where
 c0:w.cell? ⟨b,0,none⟩=some (.int .u64 c0)
 c1:w.cell? ⟨b,1,none⟩=some (.int .u64 c1)
 c2:w.cell? ⟨b,2,none⟩=some (.int .u64 c2)
 c3:w.cell? ⟨b,3,none⟩=some (.int .u64 c3)
 fr:∀k,w.frozen? ⟨b,k,none⟩=false
theorem Row4.below {w w':World} {b:Nat} {c0 c1 c2 c3:Nat} (h:Row4 w b c0 c1 c2 c3) {B:Nat} (hb:Below B w w') (hB:b<B):Row4 w' b c0 c1 c2 c3 :=
 ⟨by rw[hb.cell (p:=⟨b,0,none⟩) hB]; exact h.c0,by rw[hb.cell (p:=⟨b,1,none⟩) hB]; exact h.c1,by rw[hb.cell (p:=⟨b,2,none⟩) hB]; exact h.c2,by rw[hb.cell (p:=⟨b,3,none⟩) hB]; exact h.c3,
  fun k=>by rw[hb.frozen (p:=⟨b,k,none⟩) hB]; exact h.fr k⟩
theorem Row4.alloc {w:World} {b:Nat} {c0 c1 c2 c3:Nat} (h:Row4 w b c0 c1 c2 c3) (hb:b<w.heap.size) (o:Obj):Row4 (w.alloc o) b c0 c1 c2 c3 :=
 h.below ((Below.refl w.heap.size w).alloc (Nat.le_refl _) o) hb
theorem Row4.drewN {w:World} {b:Nat} {c0 c1 c2 c3:Nat} (h:Row4 w b c0 c1 c2 c3) (n:Nat):Row4 (w.drewN n) b c0 c1 c2 c3:=⟨h.c0,h.c1,h.c2,h.c3,h.fr⟩
theorem Row4.new (w:World) (c0 c1 c2 c3:Nat) (t:TypeId):Row4 (w.alloc (.cells #[.int .u64 c0,.int .u64 c1,.int .u64 c2,.int .u64 c3] t)) w.heap.size c0 c1 c2 c3 :=
 ⟨by rw[World.cell?_alloc_new]; rfl,by rw[World.cell?_alloc_new]; rfl,by rw[World.cell?_alloc_new]; rfl,by rw[World.cell?_alloc_new]; rfl,fun k=>World.frozen?_alloc_new _ _ _ _⟩
theorem Row4.other {w:World} {b d i:Nat} {c0 c1 c2 c3:Nat} (h:Row4 w b c0 c1 c2 c3) (hd:d≠b) (v:Value):Row4 (w.setCell ⟨d,i,none⟩ v) b c0 c1 c2 c3 :=
 ⟨by rw[World.cell?_setCell_other (h:=fun he=>hd (by simpa using congrArg Addr.block he)) ..]; exact h.c0,by rw[World.cell?_setCell_other (h:=fun he=>hd (by simpa using congrArg Addr.block he)) ..]; exact h.c1,
  by rw[World.cell?_setCell_other (h:=fun he=>hd (by simpa using congrArg Addr.block he)) ..]; exact h.c2,by rw[World.cell?_setCell_other (h:=fun he=>hd (by simpa using congrArg Addr.block he)) ..]; exact h.c3,
  fun k=>by rw[World.frozen?_setCell]; exact h.fr k⟩
def set4 (w:World) (b:Nat) (d0 d1 d2 d3:Nat):World:=(((w.setCell ⟨b,0,none⟩ (.int .u64 d0)).setCell ⟨b,1,none⟩ (.int .u64 d1)).setCell ⟨b,2,none⟩ (.int .u64 d2)).setCell ⟨b,3,none⟩ (.int .u64 d3)
theorem Row4.rows {w:World} {b:Nat} {c0 c1 c2 c3:Nat} (h:Row4 w b c0 c1 c2 c3):RowIs w b 4 (eL [c0,c1,c2,c3]):=by
 intro k hk;refine⟨?_,h.fr k⟩
 match k,hk with
 | 0,_=>exact h.c0
 | 1,_=>exact h.c1
 | 2,_=>exact h.c2
 | 3,_=>exact h.c3
theorem Row4.set4 {w:World} {b:Nat} {c0 c1 c2 c3:Nat} (h:Row4 w b c0 c1 c2 c3) (d0 d1 d2 d3:Nat):Row4 (set4 w b d0 d1 d2 d3) b d0 d1 d2 d3:=by
 have r:=(((h.rows.set (show 0<4 by omega) (v:=d0)).set (show 1<4 by omega) (v:=d1)).set (show 2<4 by omega) (v:=d2)).set (show 3<4 by omega) (v:=d3);exact⟨r.cell (by omega),r.cell (show 1<4 by omega),r.cell (show 2<4 by omega),r.cell (show 3<4 by omega),fun k=>by
  show World.frozen? (((_:World).setCell _ _)) _=_;rw[World.frozen?_setCell,World.frozen?_setCell,World.frozen?_setCell,World.frozen?_setCell]; exact h.fr k⟩
theorem Row4.set4_other {w:World} {b d:Nat} {c0 c1 c2 c3:Nat} (h:Row4 w b c0 c1 c2 c3) (hd:d≠b) (e0 e1 e2 e3:Nat):Row4 (Go.Proofs.YtjjnbgoepbiojaaGreat.set4 w d e0 e1 e2 e3) b c0 c1 c2 c3 :=
 (((h.other hd _).other hd _).other hd _).other hd _
theorem bZ {B:Nat} {w w':World} {b:Nat} (h:Below B w w') (hb:B≤b) (d0 d1 d2 d3:Nat):Below B w (set4 w' b d0 d1 d2 d3) :=
 (((h.setCell (p:=⟨b,0,none⟩) hb _).setCell (p:=⟨b,1,none⟩) hb _).setCell (p:=⟨b,2,none⟩) hb _).setCell (p:=⟨b,3,none⟩) hb _
theorem aV (B:Nat) (w:World) (n:Nat):Below B w (w.drewN n):=⟨rfl,rfl,rfl,Nat.le_refl _,fun _ _=>rfl⟩
def cZ (B:Nat) (P:Nat→Nat):Nat→Nat
 | 0=>0
 | n+1=>cZ B P n+P n*B^n
theorem bR (B:Nat) (P:Nat→Nat) (n:Nat):cZ B P (n+1)=cZ B P n+P n*B^n:=rfl
theorem dZ (B:Nat) (P:Nat→Nat) (k v:Nat):∀n,n≤k→cZ B (cN P k v) n=cZ B P n
 | 0,_=>rfl
 | n+1,h=>by
  rw[bR,bR,dZ B P k v n (by omega)];unfold cN;rw[if_neg (by omega)]
theorem GD (B:Nat) (P:Nat→Nat) (k v:Nat):∀n,k<n→cZ B (cN P k v) n+P k*B^k=cZ B P n+v*B^k
 | n+1,h=>by
  rw[bR,bR]
  by_cases e:k=n
  ·subst e;rw[dZ B P k v k (Nat.le_refl _)];unfold cN;rw[if_pos rfl]; omega
  ·have:=GD B P k v n (by omega);have e':cN P k v n=P n:=by unfold cN; rw[if_neg (by omega)]
   rw[e']; omega
theorem yM (B:Nat) (P:Nat→Nat) (h:∀k,P k=0):∀n,cZ B P n=0
 | 0=>rfl
 | n+1=>by rw[bR,yM B P h n,h n,Nat.zero_mul]
theorem CO (B:Nat) (P:Nat→Nat) (hB:0<B):∀n,(∀k,k<n→P k<B)→cZ B P n<B^n
 | 0,_=>by simp[cZ]
 | n+1,h=>by
  have h1:=CO B P hB n (fun k hk=>h k (by omega));have h2:=Nat.mul_le_mul_right (B^n) (show P n+1≤B by have:=h n (by omega); omega);rw[bR,Nat.pow_succ,Nat.mul_comm (B^n) B];rw[Nat.add_mul,Nat.one_mul]at h2;omega
theorem CV {B:Nat} {P:Nat→Nat} {n k x o d o' T:Nat} (hk:k<n) (he:d+B*o'=x+P k+o) (hT:cZ B P n+o*B^k=T) :
  cZ B (cN P k d) n+o'*B^(k+1)=T+x*B^k:=by
 have h1:=GD B P k d n hk;have h2:d*B^k+o'*B^(k+1)=x*B^k+P k*B^k+o*B^k:=by
  rw[Nat.pow_succ,←Nat.add_mul,←Nat.add_mul,←he,Nat.add_mul];congr 1;rw[Nat.mul_comm (B^k) B,←Nat.mul_assoc,Nat.mul_comm o' B]
 omega
section
variable {R n:Nat} {A B P:Nat→Nat} {i j o d o':Nat}
theorem oJ (R:Nat) (P:Nat→Nat) (n:Nat):∀m,cZ R P (n+m)=cZ R P n+R^n*cZ R (fun k=>P (n+k)) m
 | 0=>by rw[Nat.add_zero]; show _=_+R^n*0; rw[Nat.mul_zero,Nat.add_zero]
 | m+1=>by
  rw[show n+(m+1)=n+m+1 by omega,bR,oJ R P n m,bR,Nat.mul_add,Nat.pow_add,←Nat.mul_assoc (R^n),Nat.add_assoc];rw[Nat.mul_comm (P (n+m)) (R^n*R^m),Nat.mul_right_comm]
end
theorem kR (P:Nat→Nat):aD (P 0) (P 1) (P 2) (P 3)=cZ 18446744073709551616 P 4:=by
 unfold aD;simp only[cZ];omega
structure MW (w wr:World) (A B P:Nat→Nat):Prop where
 below:Below w.heap.size w wr
 size:wr.heap.size=w.heap.size+1+1+1+1+1
 rowA:RowIs wr w.heap.size 4 A
 rowB:RowIs wr (w.heap.size+1) 4 B
 rowH:∃H,RowIs wr (w.heap.size+1+1) 4 H
 rowL:∃L,RowIs wr (w.heap.size+1+1+1) 4 L
 rowP:RowIs wr (w.heap.size+1+1+1+1) 8 P
 lt:∀k,P k<18446744073709551616
theorem MW.set {w wr:World} {A B P:Nat→Nat} (h:MW w wr A B P) {k d:Nat} (hk:k<8) (hd:d<18446744073709551616) :
  MW w (wr.setCell ⟨w.heap.size+1+1+1+1,k,none⟩ (.int .u64 (d:Nat))) A B (cN P k d) :=
 ⟨h.below.setCell (p:=⟨w.heap.size+1+1+1+1,k,none⟩) (by simp; omega) _,by rw[World.size_setCell]; exact h.size,h.rowA.other (by omega) _,h.rowB.other (by omega) _,
  h.rowH.elim fun H x=>⟨H,x.other (by omega) _⟩,h.rowL.elim fun L x=>⟨L,x.other (by omega) _⟩,h.rowP.set hk,
  fun x=>by unfold cN; split; exact hd; exact h.lt x⟩
theorem MW.drewN {w wr:World} {A B P:Nat→Nat} (h:MW w wr A B P) (n:Nat):MW w (wr.drewN n) A B P :=
 ⟨h.below.trans (aV _ _ _),h.size,h.rowA,h.rowB,h.rowH,h.rowL,h.rowP,h.lt⟩
theorem RowIs.mk4 {w:World} {b:Nat} {c0 c1 c2 c3:Nat} (h0:w.cell? ⟨b,0,none⟩=some (.int .u64 c0)) (h1:w.cell? ⟨b,1,none⟩=some (.int .u64 c1)) (h2:w.cell? ⟨b,2,none⟩=some (.int .u64 c2)) (h3:w.cell? ⟨b,3,none⟩=some (.int .u64 c3))
  (hf:∀k,w.frozen? ⟨b,k,none⟩=false):RowIs w b 4 (eL [c0,c1,c2,c3]):=by
 intro k hk;refine⟨?_,hf k⟩
 match k,hk with
 | 0,_=>exact h0
 | 1,_=>exact h1
 | 2,_=>exact h2
 | 3,_=>exact h3
theorem lT {a0 a1 a2 a3:Nat} (ha:cK a0 a1 a2 a3) (k:Nat):eL [a0,a1,a2,a3] k<18446744073709551616:=by
 obtain⟨h0,h1,h2,h3⟩:=ha;unfold eL
 match k with
 | 0=>exact h0
 | 1=>exact h1
 | 2=>exact h2
 | 3=>exact h3
 | k+4=>simp
def iO (P:Nat→Prop) (w:World) (e:Ending) (w':World):Prop :=
 ∃s0 s1 s2 s3:Nat,e=.returned (.agg #[.int .u64 s0,.int .u64 s1,.int .u64 s2,.int .u64 s3])∧cK s0 s1 s2 s3∧P (aD s0 s1 s2 s3)∧Below w.heap.size w w'
def Mem (w wr:World) (rs:List (Nat×Nat×Nat×Nat×Nat)):Prop :=
 Below w.heap.size w wr∧∀r,r∈rs→r.1<wr.heap.size∧Row4 wr r.1 r.2.1 r.2.2.1 r.2.2.2.1 r.2.2.2.2
theorem Mem.nil (w:World):Mem w w []:=⟨Below.refl _ _,fun _ h=>by cases h⟩
theorem Mem.on {w wr w':World} {rs:List (Nat×Nat×Nat×Nat×Nat)} (h:Mem w wr rs) (hb:Below wr.heap.size wr w'):Mem w w' rs :=
 ⟨h.1.trans (hb.mono h.1.size),fun r hr=>⟨Nat.lt_of_lt_of_le (h.2 r hr).1 hb.size,(h.2 r hr).2.below hb (h.2 r hr).1⟩⟩
theorem Mem.drewN {w wr:World} {rs:List (Nat×Nat×Nat×Nat×Nat)} (h:Mem w wr rs) (n:Nat):Mem w (wr.drewN n) rs:=h.on (aV _ _ n)
theorem Mem.new {w wr:World} {rs:List (Nat×Nat×Nat×Nat×Nat)} (h:Mem w wr rs) (b c0 c1 c2 c3:Nat) (t:TypeId) (hb:b=wr.heap.size) :
  Mem w (wr.alloc (.cells #[.int .u64 c0,.int .u64 c1,.int .u64 c2,.int .u64 c3] t)) ((b,c0,c1,c2,c3)::rs):=by
 subst hb;have hB:Below wr.heap.size wr (wr.alloc (.cells #[.int .u64 c0,.int .u64 c1,.int .u64 c2,.int .u64 c3] t)):=(Below.refl _ _).alloc (Nat.le_refl _) _;refine⟨(h.on hB).1,fun r hr => ?_⟩
 rcases List.mem_cons.1 hr with e|hr
 ·rw[e];exact⟨by simp,Row4.new wr c0 c1 c2 c3 t⟩
 ·exact (h.on hB).2 r hr
theorem Mem.sub {w wr:World} {rs rs':List (Nat×Nat×Nat×Nat×Nat)} (h:Mem w wr rs) (hs:∀r,r∈rs'→r∈rs):Mem w wr rs':=⟨h.1,fun r hr=>h.2 r (hs r hr)⟩
theorem Mem.put {w wr:World} {rs:List (Nat×Nat×Nat×Nat×Nat)} {b c0 c1 c2 c3:Nat} (h:Mem w wr ((b,c0,c1,c2,c3)::rs)) (d0 d1 d2 d3:Nat) (hw:w.heap.size≤b) (hne:∀r,r∈rs→r.1≠b) :
  Mem w (set4 wr b d0 d1 d2 d3) ((b,d0,d1,d2,d3)::rs):=by
 refine⟨bZ h.1 hw _ _ _ _,fun r hr => ?_⟩;have hs:(set4 wr b d0 d1 d2 d3).heap.size=wr.heap.size:=by unfold set4; simp only[World.size_setCell]
 rcases List.mem_cons.1 hr with e|hr
 ·rw[e];exact⟨by rw[hs]; exact (h.2 _ List.mem_cons_self).1,(h.2 _ List.mem_cons_self).2.set4 _ _ _ _⟩
 ·exact⟨by rw[hs]; exact (h.2 r (List.mem_cons_of_mem _ hr)).1,(h.2 r (List.mem_cons_of_mem _ hr)).2.set4_other (fun e=>hne r hr e.symm) _ _ _ _⟩
theorem vL {x c:Nat} (hx:x<18446744073709551616) (hc:c≤1):∃d b:Nat,(∀w,(callFunc 93 #[.int .u64 (x:Int),.int .u64 0,.int .u64 (c:Int)]).run prog w =
   .ok (.value (.tuple #[.int .u64 (d:Int),.int .u64 (b:Int)])) w)∧d<18446744073709551616∧b≤1∧Hid (d+18446744073709551616*b=x+c) :=
 ⟨_,_,oQ x 0 c hc,yA _ _ _,yB hx (by omega) hc,Lib.hid (by have:=UJ x 0 c; omega)⟩
set_option maxHeartbeats 1000000 in
theorem pV {a b c d:Nat} (ha:a<18446744073709551616) (hb:b<18446744073709551616) (hc:c<18446744073709551616) (hd:d<18446744073709551616):∃h l:Nat,
  (∀w,Calls prog 105 #[.int .u64 a,.int .u64 b,.int .u64 c,.int .u64 d] w fun e w'=>e=.returned (.tuple #[.int .u64 (h:Nat),.int .u64 (l:Nat)])∧w'=w) ∧
  h<18446744073709551616∧l<18446744073709551616∧Hid (l+18446744073709551616*h=a*b+c+d):=by
 obtain⟨h,l,r,hh,hl,e⟩:=SQ ha hb;obtain⟨l1,c1,r1,hl1,hc1,e1⟩:=pH hl hc;obtain⟨h1,z1,r2,hh1,hz1,e2⟩:=vL (show h<18446744073709551616 by omega) hc1;obtain⟨l2,c2,r3,hl2,hc2,e3⟩:=pH hl1 hd;obtain⟨h2,z2,r4,hh2,hz2,e4⟩:=vL hh1 hc2;have hab:=EG (show a≤18446744073709551615 by omega) (show b≤18446744073709551615 by omega);refine⟨h2,l2,fun w => ?_,hh2,hl2,Lib.hid (by have:=e.out; have:=e1.out; have:=e2.out; have:=e3.out; have:=e4.out; omega)⟩;clear e e1 e2 e3 e4 hab
 go_enter func105,ntmps105
 go_wp2_with fail;refine (r _).mono ?_
 rintro e w' ⟨rfl,rfl⟩
 go_wp2_with fail
 go_ret2
 exact⟨rfl,rfl⟩
structure KIs (w:World) (b:Nat) (F:FC):Prop where
 k0:w.cell? ⟨b,0,none⟩=some (.int .u64 F.m0)
 k1:w.cell? ⟨b,1,none⟩=some (.int .u64 F.m1)
 k2:w.cell? ⟨b,2,none⟩=some (.int .u64 F.m2)
 k3:w.cell? ⟨b,3,none⟩=some (.int .u64 F.m3)
 k4:w.cell? ⟨b,4,none⟩=some (.int .u64 F.inv)
 k5:w.cell? ⟨b,5,none⟩=some (.int .u64 F.s0)
 k6:w.cell? ⟨b,6,none⟩=some (.int .u64 F.s1)
 k7:w.cell? ⟨b,7,none⟩=some (.int .u64 F.s2)
 k8:w.cell? ⟨b,8,none⟩=some (.int .u64 F.s3)
 lt:b<w.heap.size
theorem KIs.below {w w':World} {b:Nat} {F:FC} (h:KIs w b F) {B:Nat} (hb:Below B w w') (hB:b<B):KIs w' b F :=
 ⟨by rw[hb.cell (p:=⟨b,0,none⟩) hB]; exact h.k0,by rw[hb.cell (p:=⟨b,1,none⟩) hB]; exact h.k1,by rw[hb.cell (p:=⟨b,2,none⟩) hB]; exact h.k2,by rw[hb.cell (p:=⟨b,3,none⟩) hB]; exact h.k3,
  by rw[hb.cell (p:=⟨b,4,none⟩) hB]; exact h.k4,by rw[hb.cell (p:=⟨b,5,none⟩) hB]; exact h.k5,by rw[hb.cell (p:=⟨b,6,none⟩) hB]; exact h.k6,by rw[hb.cell (p:=⟨b,7,none⟩) hB]; exact h.k7,by rw[hb.cell (p:=⟨b,8,none⟩) hB]; exact h.k8,Nat.lt_of_lt_of_le h.lt hb.size⟩
theorem KIs.same {w w':World} {b:Nat} {F:FC} (h:KIs w b F) (hb:Below w.heap.size w w'):KIs w' b F:=h.below hb h.lt
theorem KIs.drewN {w:World} {b:Nat} {F:FC} (h:KIs w b F) (n:Nat):KIs (w.drewN n) b F:=⟨h.k0,h.k1,h.k2,h.k3,h.k4,h.k5,h.k6,h.k7,h.k8,h.lt⟩
theorem KIs.other {w:World} {b d i:Nat} {F:FC} (h:KIs w b F) (hd:d≠b) (v:Value):KIs (w.setCell ⟨d,i,none⟩ v) b F :=
 ⟨by rw[World.cell?_setCell_other (h:=fun he=>hd (by simpa using congrArg Addr.block he)) ..]; exact h.k0,by rw[World.cell?_setCell_other (h:=fun he=>hd (by simpa using congrArg Addr.block he)) ..]; exact h.k1,
  by rw[World.cell?_setCell_other (h:=fun he=>hd (by simpa using congrArg Addr.block he)) ..]; exact h.k2,by rw[World.cell?_setCell_other (h:=fun he=>hd (by simpa using congrArg Addr.block he)) ..]; exact h.k3,
  by rw[World.cell?_setCell_other (h:=fun he=>hd (by simpa using congrArg Addr.block he)) ..]; exact h.k4,by rw[World.cell?_setCell_other (h:=fun he=>hd (by simpa using congrArg Addr.block he)) ..]; exact h.k5,
  by rw[World.cell?_setCell_other (h:=fun he=>hd (by simpa using congrArg Addr.block he)) ..]; exact h.k6,by rw[World.cell?_setCell_other (h:=fun he=>hd (by simpa using congrArg Addr.block he)) ..]; exact h.k7,
  by rw[World.cell?_setCell_other (h:=fun he=>hd (by simpa using congrArg Addr.block he)) ..]; exact h.k8,by rw[World.size_setCell]; exact h.lt⟩
theorem xQ {a0 a1 a2 a3 b0 b1 b2 b3:Nat} (ha:cK a0 a1 a2 a3) (hb:cK b0 b1 b2 b3):∃d0 c0 d1 c1 d2 c2 d3 c3:Nat,
  (∀w,(callFunc 92 #[.int .u64 (a0:Int),.int .u64 (b0:Int),.int .u64 0]).run prog w=.ok (.value (.tuple #[.int .u64 (d0:Int),.int .u64 (c0:Int)])) w) ∧
  (∀w,(callFunc 92 #[.int .u64 (a1:Int),.int .u64 (b1:Int),.int .u64 (c0:Int)]).run prog w=.ok (.value (.tuple #[.int .u64 (d1:Int),.int .u64 (c1:Int)])) w) ∧
  (∀w,(callFunc 92 #[.int .u64 (a2:Int),.int .u64 (b2:Int),.int .u64 (c1:Int)]).run prog w=.ok (.value (.tuple #[.int .u64 (d2:Int),.int .u64 (c2:Int)])) w) ∧
  (∀w,(callFunc 92 #[.int .u64 (a3:Int),.int .u64 (b3:Int),.int .u64 (c2:Int)]).run prog w=.ok (.value (.tuple #[.int .u64 (d3:Int),.int .u64 (c3:Int)])) w) ∧
  cK d0 d1 d2 d3∧c3≤1∧Hid (aD d0 d1 d2 d3+aD b0 b1 b2 b3=aD a0 a1 a2 a3+115792089237316195423570985008687907853269984665640564039457584007913129639936*c3):=by
 obtain⟨d0,c0,r0,h0,k0,e0⟩:=vK ha.1 hb.1;obtain⟨d1,c1,r1,h1,k1,e1⟩:=jR ha.2.1 hb.2.1 k0;obtain⟨d2,c2,r2,h2,k2,e2⟩:=jR ha.2.2.1 hb.2.2.1 k1;obtain⟨d3,c3,r3,h3,k3,e3⟩:=jR ha.2.2.2 hb.2.2.2 k2;exact⟨d0,c0,d1,c1,d2,c2,d3,c3,r0,r1,r2,r3,⟨h0,h1,h2,h3⟩,k3,Lib.hid (by have:=e0.out; have:=e1.out; have:=e2.out; have:=e3.out; unfold aD; omega)⟩
theorem IU {a0 a1 a2 a3 b0 b1 b2 b3:Nat} (ha:cK a0 a1 a2 a3) (hb:cK b0 b1 b2 b3):∃d0 c0 d1 c1 d2 c2 d3 c3:Nat,
  (∀w,(callFunc 93 #[.int .u64 (a0:Int),.int .u64 (b0:Int),.int .u64 0]).run prog w=.ok (.value (.tuple #[.int .u64 (d0:Int),.int .u64 (c0:Int)])) w) ∧
  (∀w,(callFunc 93 #[.int .u64 (a1:Int),.int .u64 (b1:Int),.int .u64 (c0:Int)]).run prog w=.ok (.value (.tuple #[.int .u64 (d1:Int),.int .u64 (c1:Int)])) w) ∧
  (∀w,(callFunc 93 #[.int .u64 (a2:Int),.int .u64 (b2:Int),.int .u64 (c1:Int)]).run prog w=.ok (.value (.tuple #[.int .u64 (d2:Int),.int .u64 (c2:Int)])) w) ∧
  (∀w,(callFunc 93 #[.int .u64 (a3:Int),.int .u64 (b3:Int),.int .u64 (c2:Int)]).run prog w=.ok (.value (.tuple #[.int .u64 (d3:Int),.int .u64 (c3:Int)])) w) ∧
  cK d0 d1 d2 d3∧c3≤1∧Hid (aD d0 d1 d2 d3+115792089237316195423570985008687907853269984665640564039457584007913129639936*c3=aD a0 a1 a2 a3+aD b0 b1 b2 b3):=by
 obtain⟨d0,c0,r0,h0,k0,e0⟩:=pH ha.1 hb.1;obtain⟨d1,c1,r1,h1,k1,e1⟩:=tL ha.2.1 hb.2.1 k0;obtain⟨d2,c2,r2,h2,k2,e2⟩:=tL ha.2.2.1 hb.2.2.1 k1;obtain⟨d3,c3,r3,h3,k3,e3⟩:=tL ha.2.2.2 hb.2.2.2 k2;exact⟨d0,c0,d1,c1,d2,c2,d3,c3,r0,r1,r2,r3,⟨h0,h1,h2,h3⟩,k3,Lib.hid (by have:=e0.out; have:=e1.out; have:=e2.out; have:=e3.out; unfold aD; omega)⟩
def eQ (V:Nat) (w:World) (e:Ending) (w':World):Prop :=
 ∃s0 s1 s2 s3:Nat,e=.returned (.agg #[.int .u64 s0,.int .u64 s1,.int .u64 s2,.int .u64 s3])∧cK s0 s1 s2 s3∧aD s0 s1 s2 s3=V∧Below w.heap.size w w'
set_option maxHeartbeats 1000000 in
theorem sI (F:FC) (hF:F.Ok) (b t0 t1 t2 t3:Nat) (ht:cK t0 t1 t2 t3) (hlt:aD t0 t1 t2 t3<2*F.M) (w:World) (hk:KIs w b F) :
  Calls prog 94 #[.pointer (some ⟨b,0,none⟩),.int .u64 t0,.int .u64 t1,.int .u64 t2,.int .u64 t3] w (eQ (aD t0 t1 t2 t3%F.M) w):=by
 obtain⟨d0,c0,d1,c1,d2,c2,d3,c3,r0,r1,r2,r3,hd,hc,e⟩:=xQ ht hF.okm;have vd:=dT hd;have vt:=dT ht;have HV:=Lib.hid (QE hlt);have HM:=Lib.hid (show F.M=aD F.m0 F.m1 F.m2 F.m3 from rfl);have hL:=hk.lt;have k0:=hk.k0; have k1:=hk.k1; have k2:=hk.k2; have k3:=hk.k3;clear hk hF hlt;have hc':c3=0∨c3=1:=by omega
 rcases hc' with rfl|rfl
 ·go_enter func94,ntmps94
  go_wp2_with fail;refine bodyPost_ret (v:=.agg #[.int .u64 d0,.int .u64 d1,.int .u64 d2,.int .u64 d3]) (by simp[results,results94,go_sem]) rfl ?_;refine⟨_,_,_,_,rfl,hd,?_,?_⟩
  ·rw[HV.out,if_neg (by have:=e.out; have:=HM.out; omega)]; have:=e.out; have:=HM.out; omega
  ·repeat (first|exact Below.refl _ _|refine Below.drew ?_|refine Below.alloc ?_ (by first|(simp; done)|(simp; omega)) _|refine Below.setCell ?_ (by simp) _)
 ·go_enter func94,ntmps94
  go_wp2_with fail;refine bodyPost_ret (v:=.agg #[.int .u64 t0,.int .u64 t1,.int .u64 t2,.int .u64 t3]) (by simp[results,results94,go_sem]) rfl ?_;refine⟨_,_,_,_,rfl,ht,?_,?_⟩
  ·rw[HV.out,if_pos (by have:=e.out; have:=HM.out; omega)]
  ·repeat (first|exact Below.refl _ _|refine Below.drew ?_|refine Below.alloc ?_ (by first|(simp; done)|(simp; omega)) _|refine Below.setCell ?_ (by simp) _)
theorem SN (F:FC) (hF:F.Ok) {x y0 y1 y2 y3 t0 t1 t2 t3:Nat} {X:Nat→Nat} {k:Nat} (hk:k<4) (hx:x<18446744073709551616) (hX:X k=x) (hy:cK y0 y1 y2 y3) (hY:aD y0 y1 y2 y3<F.M) (ht:cK t0 t1 t2 t3) (g:FX F.M X (aD y0 y1 y2 y3) k (aD t0 t1 t2 t3)) :
  ∃o0 l0 cl c0 z o1 l1 c1 n0 o2 l2 c2 n1 o3 l3 c3 n2 n3:Nat,
  (∀w,Calls prog 105 #[.int .u64 x,.int .u64 y0,.int .u64 t0,.int .u64 0] w fun e w'=>e=.returned (.tuple #[.int .u64 (o0:Nat),.int .u64 (l0:Nat)])∧w'=w) ∧
  IntKind.u64.wrap ((l0:Int)*(F.inv:Int))=(cl:Int) ∧
  (∀w,Calls prog 105 #[.int .u64 cl,.int .u64 F.m0,.int .u64 l0,.int .u64 0] w fun e w'=>e=.returned (.tuple #[.int .u64 (c0:Nat),.int .u64 (z:Nat)])∧w'=w) ∧
  (∀w,Calls prog 105 #[.int .u64 x,.int .u64 y1,.int .u64 t1,.int .u64 o0] w fun e w'=>e=.returned (.tuple #[.int .u64 (o1:Nat),.int .u64 (l1:Nat)])∧w'=w) ∧
  (∀w,Calls prog 105 #[.int .u64 cl,.int .u64 F.m1,.int .u64 l1,.int .u64 c0] w fun e w'=>e=.returned (.tuple #[.int .u64 (c1:Nat),.int .u64 (n0:Nat)])∧w'=w) ∧
  (∀w,Calls prog 105 #[.int .u64 x,.int .u64 y2,.int .u64 t2,.int .u64 o1] w fun e w'=>e=.returned (.tuple #[.int .u64 (o2:Nat),.int .u64 (l2:Nat)])∧w'=w) ∧
  (∀w,Calls prog 105 #[.int .u64 cl,.int .u64 F.m2,.int .u64 l2,.int .u64 c1] w fun e w'=>e=.returned (.tuple #[.int .u64 (c2:Nat),.int .u64 (n1:Nat)])∧w'=w) ∧
  (∀w,Calls prog 105 #[.int .u64 x,.int .u64 y3,.int .u64 t3,.int .u64 o2] w fun e w'=>e=.returned (.tuple #[.int .u64 (o3:Nat),.int .u64 (l3:Nat)])∧w'=w) ∧
  (∀w,Calls prog 105 #[.int .u64 cl,.int .u64 F.m3,.int .u64 l3,.int .u64 c2] w fun e w'=>e=.returned (.tuple #[.int .u64 (c3:Nat),.int .u64 (n2:Nat)])∧w'=w) ∧
  (o3:Int)+(c3:Int)=(n3:Int)∧o3+c3<18446744073709551616∧cK n0 n1 n2 n3∧Hid (FX F.M X (aD y0 y1 y2 y3) (k+1) (aD n0 n1 n2 n3)):=by
 obtain⟨o0,l0,r0,bo0,bl0,e0⟩:=pV hx hy.1 ht.1 (show 0<18446744073709551616 by omega);obtain⟨cl,hcl⟩:∃cl,cl=l0*F.inv%18446744073709551616:=⟨_,rfl⟩
 have bcl:cl<18446744073709551616:=by omega
 obtain⟨c0,z,s0,bc0,bz,f0⟩:=pV bcl hF.okm.1 bl0 (show 0<18446744073709551616 by omega);obtain⟨o1,l1,r1,bo1,bl1,e1⟩:=pV hx hy.2.1 ht.2.1 bo0;obtain⟨c1,n0,s1,bc1,bn0,f1⟩:=pV bcl hF.okm.2.1 bl1 bc0;obtain⟨o2,l2,r2,bo2,bl2,e2⟩:=pV hx hy.2.2.1 ht.2.2.1 bo1;obtain⟨c2,n1,s2,bc2,bn1,f2⟩:=pV bcl hF.okm.2.2.1 bl2 bc1;obtain⟨o3,l3,r3,bo3,bl3,e3⟩:=pV hx hy.2.2.2 ht.2.2.2 bo2;obtain⟨c3,n2,s3,bc3,bn2,f3⟩:=pV bcl hF.okm.2.2.2 bl3 bc2;have hz:z=0:=by
  have h:=FG (l:=l0) hF.turn;rw[←hcl]at h;have:=f0.out;omega
 subst hz;have ha:=zH (e0.out) (f0.out) e1.out f1.out e2.out f2.out e3.out f3.out;have hg:=LB (X:=X) hk g (by rw[hX]; exact hx) hY bcl (N:=aD n0 n1 n2 (o3+c3)) (by rw[hX]; exact ha);have hn3:o3+c3<18446744073709551616:=MX (B:=0) (Nat.lt_trans hg.1 hF.two);refine⟨o0,l0,cl,c0,0,o1,l1,c1,n0,o2,l2,c2,n1,o3,l3,c3,n2,o3+c3,r0,?_,s0,r1,s1,r2,s2,r3,s3,?_,hn3,⟨bn0,bn1,bn2,hn3⟩,Lib.hid hg⟩
 ·rw[hcl,←Int.natCast_mul]; exact jT _
 ·exact (Int.natCast_add _ _).symm
theorem EQ (x0 x1 x2 x3 k:Nat) (hk:k<4) (w:World):(Instr.index 82 (.agg #[.int .u64 x0,.int .u64 x1,.int .u64 x2,.int .u64 x3]) (.int .i64 k)).run prog w=.ok (.int .u64 (eL [x0,x1,x2,x3] k:Nat)) w:=by
 have h0:∀w,(Instr.index 82 (.agg #[.int .u64 x0,.int .u64 x1,.int .u64 x2,.int .u64 x3]) (.int .i64 0)).run prog w=.ok (.int .u64 x0) w:=fun _=>by kernel_rfl
 have h1:∀w,(Instr.index 82 (.agg #[.int .u64 x0,.int .u64 x1,.int .u64 x2,.int .u64 x3]) (.int .i64 1)).run prog w=.ok (.int .u64 x1) w:=fun _=>by kernel_rfl
 have h2:∀w,(Instr.index 82 (.agg #[.int .u64 x0,.int .u64 x1,.int .u64 x2,.int .u64 x3]) (.int .i64 2)).run prog w=.ok (.int .u64 x2) w:=fun _=>by kernel_rfl
 have h3:∀w,(Instr.index 82 (.agg #[.int .u64 x0,.int .u64 x1,.int .u64 x2,.int .u64 x3]) (.int .i64 3)).run prog w=.ok (.int .u64 x3) w:=fun _=>by kernel_rfl
 have:k=0∨k=1∨k=2∨k=3:=by omega
 rcases this with rfl|rfl|rfl|rfl
 ·exact h0 w
 ·exact h1 w
 ·exact h2 w
 ·exact h3 w
set_option maxHeartbeats 4000000 in
theorem eN (F:FC) (hF:F.Ok) (b x0 x1 x2 x3 y0 y1 y2 y3:Nat) (hx:cK x0 x1 x2 x3) (hy:cK y0 y1 y2 y3) (hY:aD y0 y1 y2 y3<F.M) (w:World) (hk:KIs w b F) :
  Calls prog 95 #[.pointer (some ⟨b,0,none⟩),.agg #[.int .u64 x0,.int .u64 x1,.int .u64 x2,.int .u64 x3],.agg #[.int .u64 y0,.int .u64 y1,.int .u64 y2,.int .u64 y3]] w (eQ (aD x0 x1 x2 x3*aD y0 y1 y2 y3*F.Ri%F.M) w):=by
 obtain⟨X,eX⟩:∃X,X=eL [x0,x1,x2,x3]:=⟨_,rfl⟩
 have HX:=Lib.hid eX;have hXlt:=lT hx;have HXlt:=Lib.hid hXlt;have HY:=Lib.hid hY;have HF:=Lib.hid hF;have HK:=Lib.hid hk;have HI:=Lib.hid (EQ x0 x1 x2 x3);have hL:=hk.lt;have hL1:b<w.heap.size+1:=by omega
 have hL2:b<w.heap.size+1+1:=by omega
 have k0:=hk.k0; have k1:=hk.k1; have k2:=hk.k2; have k3:=hk.k3; have k4:=hk.k4;have bi:=hF.inv;have HG:=Lib.hid (LA (Y:=aD y0 y1 y2 y3) X (show 0<F.M by have:=hF.gt; omega));clear eX hXlt hY hF hk
 go_enter func95,ntmps95
 go_wp2_with fail
 go_loop [8,9,10,11,23] (fun v0 v1 v2 v3 i=>∃k t0 t1 t2 t3:Nat,k≤4∧i=.int .i64 k∧v0=.int .u64 t0∧v1=.int .u64 t1∧v2=.int .u64 t2∧v3=.int .u64 t3∧cK t0 t1 t2 t3∧Hid (FX F.M X (aD y0 y1 y2 y3) k (aD t0 t1 t2 t3))) (fun _ _ _ _ i=>4-(intOf i).toNat)
 case atStart=>exact⟨0,0,0,0,0,by omega,rfl,rfl,rfl,rfl,rfl,⟨by omega,by omega,by omega,by omega⟩,HG⟩
 case round =>
  obtain⟨k,t0,t1,t2,t3,hk,rfl,rfl,rfl,rfl,rfl,ht,g⟩:=hrel
  by_cases hlt:k<4
  ·obtain⟨x,ex⟩:∃x,x=eL [x0,x1,x2,x3] k:=⟨_,rfl⟩
   have hi:=HI.out k hlt;rw[←ex]at hi;have bx:x<18446744073709551616:=by rw[ex]; exact HXlt.out k
   obtain⟨o0,l0,cl,c0,z,o1,l1,c1,n0,o2,l2,c2,n1,o3,l3,c3,n2,n3,r0,q,s0,r1,s1,r2,s2,r3,s3,p,hp,hn,hg⟩:=SN F HF.out hlt bx (by rw[ex,HX.out]) hy HY.out ht g.out;clear ex g;go_wp2_with (first|(with_reducible refine (r0 _).mono ?_; rintro e w' ⟨rfl,rfl⟩)|(with_reducible refine (s0 _).mono ?_; rintro e w' ⟨rfl,rfl⟩)|(with_reducible refine (r1 _).mono ?_; rintro e w' ⟨rfl,rfl⟩)|(with_reducible refine (s1 _).mono ?_; rintro e w' ⟨rfl,rfl⟩)|(with_reducible refine (r2 _).mono ?_; rintro e w' ⟨rfl,rfl⟩)|(with_reducible refine (s2 _).mono ?_; rintro e w' ⟨rfl,rfl⟩)|(with_reducible refine (r3 _).mono ?_; rintro e w' ⟨rfl,rfl⟩)|(with_reducible refine (s3 _).mono ?_; rintro e w' ⟨rfl,rfl⟩))
   go_round
   case rel=>exact⟨k+1,n0,n1,n2,n3,by omega,by go_num,rfl,rfl,rfl,rfl,hn,hg⟩
   case measure=>simp[intOf]; omega
  ·obtain rfl:k=4:=by omega
   obtain⟨ge,gv⟩:=RQ HF.out (x0:=x0) (x1:=x1) (x2:=x2) (x3:=x3) (by rw[HX.out]; rfl) (by rw[HX.out]; rfl) (by rw[HX.out]; rfl) (by rw[HX.out]; rfl) g.out;have HGV:=Lib.hid gv;clear gv g;go_wp2_with fail;refine (sI F HF.out b t0 t1 t2 t3 ht ge _ (HK.out.same ?_)).mono ?_
   ·repeat (first|exact Below.refl _ _|refine Below.drew ?_|refine Below.alloc ?_ (by first|(simp; done)|(simp; omega)) _)
   rintro e w1 ⟨s0,s1,s2,s3,rfl,hs,hv,hbl⟩
   have HV:=Lib.hid hv;obtain⟨hc,hf⟩:=pY hbl;have hz:w.heap.size+1+1<w1.heap.size:=by have:=hbl.size; simp at this; omega
   have HBL:=Lib.hid hbl;clear hv hbl;go_wp2_with fail;refine bodyPost_ret (v:=.agg #[.int .u64 s0,.int .u64 s1,.int .u64 s2,.int .u64 s3]) (by simp[results,results95,go_sem, *]) rfl ?_;refine⟨_,_,_,_,rfl,hs,HV.out.trans HGV.out,?_⟩;refine bZ (Below.trans ?_ (HBL.out.mono (by simp; omega))) (by omega) _ _ _ _
   repeat (first|exact Below.refl _ _|refine Below.drew ?_|refine Below.alloc ?_ (by first|(simp; done)|(simp; omega)) _)
def wU (V M:Nat):Bool:=decide (V<M)
theorem Ij {V M c D:Nat} (hD:D<115792089237316195423570985008687907853269984665640564039457584007913129639936) (hc:c≤1) (e:D+M=V+115792089237316195423570985008687907853269984665640564039457584007913129639936*c) (hM:M<115792089237316195423570985008687907853269984665640564039457584007913129639936) (hV:V<115792089237316195423570985008687907853269984665640564039457584007913129639936):((c:Int)==1)=wU V M:=by
 have:c=0∨c=1:=by omega
 unfold wU
 rcases this with rfl|rfl
 ·rw[decide_eq_false (by omega)]; rfl
 ·rw[decide_eq_true (by omega)]; rfl
theorem zM {a b:Bool} (h:a=b):Ending.returned (.bool a)=.returned (.bool b):=by rw[h]
set_option maxHeartbeats 1000000 in
theorem dI (F:FC) (hF:F.Ok) (b a0 a1 a2 a3:Nat) (ha:cK a0 a1 a2 a3) (w:World) (hk:KIs w b F) :
  Calls prog 63 #[.pointer (some ⟨b,0,none⟩),.agg #[.int .u64 a0,.int .u64 a1,.int .u64 a2,.int .u64 a3]] w fun e w'=>e=.returned (.bool (wU (aD a0 a1 a2 a3) F.M))∧Below w.heap.size w w':=by
 obtain⟨d0,c0,d1,c1,d2,c2,d3,c3,r0,r1,r2,r3,hd,hc,e⟩:=xQ ha hF.okm;have HB:=Lib.hid (Ij (dT hd) hc e.out (dT hF.okm) (dT ha));have hL:=hk.lt;have hL':b≠w.heap.size:=by omega
 have k0:=hk.k0; have k1:=hk.k1; have k2:=hk.k2; have k3:=hk.k3;clear hk hF e
 go_enter func63,ntmps63
 go_wp2_with fail
 go_quiet (fail)
 go_wp2_with fail
 go_quiet (fail)
 go_wp2_with fail
 go_quiet (fail)
 go_wp2_with fail
 go_quiet (fail)
 go_wp2_with fail;go_ret;exact⟨zM HB.out,by repeat (first|exact Below.refl _ _|refine Below.drew ?_|exact aV _ _ _|refine Below.alloc ?_ (by first|(simp; done)|(simp; omega)) _|refine Below.trans ?_ (aV _ _ _))⟩
set_option maxHeartbeats 1000000 in
theorem sG (F:FC) (hF:F.Ok) (b a0 a1 a2 a3 b0 b1 b2 b3:Nat) (ha:cK a0 a1 a2 a3) (hb:cK b0 b1 b2 b3) (la:aD a0 a1 a2 a3<F.M) (lb:aD b0 b1 b2 b3<F.M) (w:World) (hk:KIs w b F) :
  Calls prog 65 #[.pointer (some ⟨b,0,none⟩),.agg #[.int .u64 a0,.int .u64 a1,.int .u64 a2,.int .u64 a3],.agg #[.int .u64 b0,.int .u64 b1,.int .u64 b2,.int .u64 b3]] w (eQ ((aD a0 a1 a2 a3+aD b0 b1 b2 b3)%F.M) w):=by
 obtain⟨d0,c0,d1,c1,d2,c2,d3,c3,r0,r1,r2,r3,hd,hc,e⟩:=IU ha hb;have e':aD d0 d1 d2 d3=aD a0 a1 a2 a3+aD b0 b1 b2 b3:=by have:=e.out; have:=hF.two; omega
 rw[←e'];have hlt:aD d0 d1 d2 d3<2*F.M:=by omega
 have HK:=Lib.hid hk;have hL:=hk.lt;clear e e' hk
 go_enter func65,ntmps65
 go_wp2_with fail;refine (sI F hF b d0 d1 d2 d3 hd hlt _ (HK.out.same ?_)).mono ?_
 ·repeat (first|exact Below.refl _ _|refine Below.drew ?_|refine Below.alloc ?_ (by first|(simp; done)|(simp; omega)) _)
 rintro e w1 ⟨s0,s1,s2,s3,rfl,hs,hv,hbl⟩
 have HV:=Lib.hid hv;obtain⟨hc,hf⟩:=pY hbl;have hz:w.heap.size+1+1<w1.heap.size:=by have:=hbl.size; simp at this; omega
 have HBL:=Lib.hid hbl;clear hv hbl;go_wp2_with fail;refine bodyPost_ret (v:=.agg #[.int .u64 s0,.int .u64 s1,.int .u64 s2,.int .u64 s3]) (by simp[results,results65,go_sem, *]) rfl ?_;refine⟨_,_,_,_,rfl,hs,HV.out,?_⟩;refine bZ (Below.trans ?_ (HBL.out.mono (by simp; omega))) (by omega) _ _ _ _
 repeat (first|exact Below.refl _ _|refine Below.drew ?_|refine Below.alloc ?_ (by first|(simp; done)|(simp; omega)) _)
theorem KS {A B D M c:Nat} (ha:A<M) (hb:B<M) (e:D+B=A+115792089237316195423570985008687907853269984665640564039457584007913129639936*c) (hc:c≤1) (hD:D<115792089237316195423570985008687907853269984665640564039457584007913129639936) (hM:2*M<115792089237316195423570985008687907853269984665640564039457584007913129639936) :
  (c=0→D=(A+M-B)%M)∧(c=1→∀E c',E+115792089237316195423570985008687907853269984665640564039457584007913129639936*c'=D+M→c'≤1→E<115792089237316195423570985008687907853269984665640564039457584007913129639936→E=(A+M-B)%M):=by
 refine⟨fun h => ?_,fun h E c' e' hc' hE => ?_⟩
 ·subst h;rw[show A+M-B=(A-B)+M by omega,Nat.add_mod_right,Nat.mod_eq_of_lt (by omega)]; omega
 ·subst h;have:c'=0∨c'=1:=by omega
  rw[Nat.mod_eq_of_lt (by omega)]; omega
set_option maxHeartbeats 1000000 in
theorem AM (F:FC) (hF:F.Ok) (b a0 a1 a2 a3 b0 b1 b2 b3:Nat) (ha:cK a0 a1 a2 a3) (hb:cK b0 b1 b2 b3) (la:aD a0 a1 a2 a3<F.M) (lb:aD b0 b1 b2 b3<F.M) (w:World) (hk:KIs w b F) :
  Calls prog 69 #[.pointer (some ⟨b,0,none⟩),.agg #[.int .u64 a0,.int .u64 a1,.int .u64 a2,.int .u64 a3],.agg #[.int .u64 b0,.int .u64 b1,.int .u64 b2,.int .u64 b3]] w (eQ ((aD a0 a1 a2 a3+F.M-aD b0 b1 b2 b3)%F.M) w):=by
 obtain⟨d0,c0,d1,c1,d2,c2,d3,c3,r0,r1,r2,r3,hd,hc,e⟩:=xQ ha hb;have hv:=KS la lb e.out hc (dT hd) hF.two;have hL:=hk.lt;have hL1:b<w.heap.size+1:=by omega
 have hL2:b<w.heap.size+1+1:=by omega
 have k0:=hk.k0; have k1:=hk.k1; have k2:=hk.k2; have k3:=hk.k3;have HM:=Lib.hid (show F.M=aD F.m0 F.m1 F.m2 F.m3 from rfl);clear la lb e hk;have hc':c3=0∨c3=1:=by omega
 rcases hc' with rfl|rfl
 ·have HV:=Lib.hid (hv.1 rfl);clear hv hF
  go_enter func69,ntmps69
  go_wp2_with fail;refine bodyPost_ret (v:=.agg #[.int .u64 d0,.int .u64 d1,.int .u64 d2,.int .u64 d3]) (by simp[results,results69,go_sem]) rfl ?_;refine⟨_,_,_,_,rfl,hd,HV.out,?_⟩
  repeat (first|exact Below.refl _ _|refine Below.drew ?_|refine Below.alloc ?_ (by first|(simp; done)|(simp; omega)) _|refine Below.setCell ?_ (by simp) _)
 ·obtain⟨n0,g0,n1,g1,n2,g2,n3,g3,q0,q1,q2,q3,hn,hg,f⟩:=IU hd hF.okm;have HV:=Lib.hid (hv.2 rfl _ _ (by rw[HM.out]; exact f.out) hg (dT hn));clear hv f hF
  go_enter func69,ntmps69
  go_wp2_with fail;refine bodyPost_ret (v:=.agg #[.int .u64 n0,.int .u64 n1,.int .u64 n2,.int .u64 n3]) (by simp[results,results69,go_sem]) rfl ?_;refine⟨_,_,_,_,rfl,hn,HV.out,?_⟩
  repeat (first|exact Below.refl _ _|refine Below.drew ?_|refine Below.alloc ?_ (by first|(simp; done)|(simp; omega)) _|refine Below.setCell ?_ (by simp) _)
theorem bM:fI 2:=aW 2 1 (by decide) (by decide) (by kernel_rfl)
theorem iH:fI 3:=aW 3 1 (by decide) (by decide) (by kernel_rfl)
theorem DX:fI 13:=aW 13 3 (by decide) (by decide) (by kernel_rfl)
theorem PQ:fI 29:=aW 29 5 (by decide) (by decide) (by kernel_rfl)
theorem Hh:fI 67:=aW 67 8 (by decide) (by decide) (by kernel_rfl)
theorem GT:fI 229:=aW 229 15 (by decide) (by decide) (by kernel_rfl)
theorem YI:fI 311:=aW 311 17 (by decide) (by decide) (by kernel_rfl)
theorem GS:fI 983:=aW 983 31 (by decide) (by decide) (by kernel_rfl)
theorem uW:fI 11003:=aW 11003 104 (by decide) (by decide) (by kernel_rfl)
theorem DY:fI 11:=aW 11 3 (by decide) (by decide) (by kernel_rfl)
theorem PO:fI 3691:=aW 3691 60 (by decide) (by decide) (by kernel_rfl)
theorem PN:fI 4999:=aW 4999 70 (by decide) (by decide) (by kernel_rfl)
theorem rT:Root 405928799 22:=by
 refine bX (l:=[2,11,3691,4999]) (by kernel_rfl) fun q hq => ?_
 simp only[List.mem_cons,List.not_mem_nil,or_false]at hq
 rcases hq with rfl|rfl|rfl|rfl
 ·exact bM
 ·exact DY
 ·exact PO
 ·exact PN
theorem mN:fI 405928799:=rT.prm
theorem pP:fI 5:=aW 5 2 (by decide) (by decide) (by kernel_rfl)
theorem zT:fI 7:=aW 7 2 (by decide) (by decide) (by kernel_rfl)
theorem wN:fI 19:=aW 19 4 (by decide) (by decide) (by kernel_rfl)
theorem Hj:fI 37:=aW 37 6 (by decide) (by decide) (by kernel_rfl)
theorem YK:fI 233:=aW 233 15 (by decide) (by decide) (by kernel_rfl)
theorem zI:Root 327599 19:=by
 refine bX (l:=[2,19,37,233]) (by kernel_rfl) fun q hq => ?_
 simp only[List.mem_cons,List.not_mem_nil,or_false]at hq
 rcases hq with rfl|rfl|rfl|rfl
 ·exact bM
 ·exact wN
 ·exact Hj
 ·exact YK
theorem DV:fI 327599:=zI.prm
theorem oV:Root 11465965001 3:=by
 refine bX (l:=[2,2,2,5,5,5,5,7,327599]) (by kernel_rfl) fun q hq => ?_
 simp only[List.mem_cons,List.not_mem_nil,or_false]at hq
 rcases hq with rfl|rfl|rfl|rfl|rfl|rfl|rfl|rfl|rfl
 ·exact bM
 ·exact bM
 ·exact bM
 ·exact pP
 ·exact pP
 ·exact pP
 ·exact pP
 ·exact zT
 ·exact DV
theorem qJ:fI 11465965001:=oV.prm
theorem YJ:fI 271:=aW 271 16 (by decide) (by decide) (by kernel_rfl)
theorem wH:Root 1853641 17:=by
 refine bX (l:=[2,2,2,3,3,5,19,271]) (by kernel_rfl) fun q hq => ?_
 simp only[List.mem_cons,List.not_mem_nil,or_false]at hq
 rcases hq with rfl|rfl|rfl|rfl|rfl|rfl|rfl|rfl
 ·exact bM
 ·exact bM
 ·exact bM
 ·exact iH
 ·exact iH
 ·exact pP
 ·exact wN
 ·exact YJ
theorem zV:fI 1853641:=wH.prm
theorem Hk:fI 17:=aW 17 4 (by decide) (by decide) (by kernel_rfl)
theorem YL:fI 109:=aW 109 10 (by decide) (by decide) (by kernel_rfl)
theorem PR:fI 1231:=aW 1231 35 (by decide) (by decide) (by kernel_rfl)
theorem wG:Root 4562087 5:=by
 refine bX (l:=[2,17,109,1231]) (by kernel_rfl) fun q hq => ?_
 simp only[List.mem_cons,List.not_mem_nil,or_false]at hq
 rcases hq with rfl|rfl|rfl|rfl
 ·exact bM
 ·exact Hk
 ·exact YL
 ·exact PR
theorem zU:fI 4562087:=wG.prm
theorem Hg:fI 73:=aW 73 8 (by decide) (by decide) (by kernel_rfl)
theorem Hd:fI 89:=aW 89 9 (by decide) (by decide) (by kernel_rfl)
theorem KJ:fI 13327:=aW 13327 115 (by decide) (by decide) (by kernel_rfl)
theorem rU:Root 173171039 13:=by
 refine bX (l:=[2,73,89,13327]) (by kernel_rfl) fun q hq => ?_
 simp only[List.mem_cons,List.not_mem_nil,or_false]at hq
 rcases hq with rfl|rfl|rfl|rfl
 ·exact bM
 ·exact Hg
 ·exact Hd
 ·exact KJ
theorem uJ:fI 173171039:=rU.prm
theorem Hi:fI 41:=aW 41 6 (by decide) (by decide) (by kernel_rfl)
theorem YC:fI 911:=aW 911 30 (by decide) (by decide) (by kernel_rfl)
theorem PP:fI 3557:=aW 3557 59 (by decide) (by decide) (by kernel_rfl)
theorem qD:Root 1263766531 10:=by
 refine bX (l:=[2,3,5,13,911,3557]) (by kernel_rfl) fun q hq => ?_
 simp only[List.mem_cons,List.not_mem_nil,or_false]at hq
 rcases hq with rfl|rfl|rfl|rfl|rfl|rfl
 ·exact bM
 ·exact iH
 ·exact pP
 ·exact DX
 ·exact YC
 ·exact PP
theorem sE:fI 1263766531:=qD.prm
theorem oT:Root 35385462869 2:=by
 refine bX (l:=[2,2,7,1263766531]) (by kernel_rfl) fun q hq => ?_
 simp only[List.mem_cons,List.not_mem_nil,or_false]at hq
 rcases hq with rfl|rfl|rfl|rfl
 ·exact bM
 ·exact bM
 ·exact zT
 ·exact sE
theorem qF:fI 35385462869:=oT.prm
theorem kJ:Root 2480874801745591 6:=by
 refine bX (l:=[2,3,3,5,19,41,35385462869]) (by kernel_rfl) fun q hq => ?_
 simp only[List.mem_cons,List.not_mem_nil,or_false]at hq
 rcases hq with rfl|rfl|rfl|rfl|rfl|rfl|rfl
 ·exact bM
 ·exact iH
 ·exact iH
 ·exact pP
 ·exact wN
 ·exact Hi
 ·exact qF
theorem lK:fI 2480874801745591:=kJ.prm
theorem dO:Root 13427688667394608761327070753331941386769 17:=by
 refine bX (l:=[2,2,2,2,3,7,11,1853641,4562087,173171039,2480874801745591]) (by kernel_rfl) fun q hq => ?_
 simp only[List.mem_cons,List.not_mem_nil,or_false]at hq
 rcases hq with rfl|rfl|rfl|rfl|rfl|rfl|rfl|rfl|rfl|rfl|rfl
 ·exact bM
 ·exact bM
 ·exact bM
 ·exact bM
 ·exact iH
 ·exact zT
 ·exact DY
 ·exact zV
 ·exact zU
 ·exact uJ
 ·exact lK
theorem dS:fI 13427688667394608761327070753331941386769:=dO.prm
theorem Fu:Root 21888242871839275222246405745257275088696311157297823662689037894645226208583 3:=by
 refine bX (l:=[2,3,3,13,29,67,229,311,983,11003,405928799,11465965001,13427688667394608761327070753331941386769]) (by kernel_rfl) fun q hq => ?_
 simp only[List.mem_cons,List.not_mem_nil,or_false]at hq
 rcases hq with rfl|rfl|rfl|rfl|rfl|rfl|rfl|rfl|rfl|rfl|rfl|rfl|rfl
 ·exact bM
 ·exact iH
 ·exact iH
 ·exact DX
 ·exact PQ
 ·exact Hh
 ·exact GT
 ·exact YI
 ·exact GS
 ·exact uW
 ·exact mN
 ·exact qJ
 ·exact dS
theorem YG:fI 449:=aW 449 21 (by decide) (by decide) (by kernel_rfl)
theorem zJ:Root 237073 15:=by
 refine bX (l:=[2,2,2,2,3,11,449]) (by kernel_rfl) fun q hq => ?_
 simp only[List.mem_cons,List.not_mem_nil,or_false]at hq
 rcases hq with rfl|rfl|rfl|rfl|rfl|rfl|rfl
 ·exact bM
 ·exact bM
 ·exact bM
 ·exact bM
 ·exact iH
 ·exact DY
 ·exact YG
theorem DW:fI 237073:=zJ.prm
theorem YM:fI 107:=aW 107 10 (by decide) (by decide) (by kernel_rfl)
theorem YF:fI 661:=aW 661 25 (by decide) (by decide) (by kernel_rfl)
theorem KH:fI 93001:=aW 93001 304 (by decide) (by decide) (by kernel_rfl)
theorem oU:Root 12048837557 2:=by
 refine bX (l:=[2,2,7,7,661,93001]) (by kernel_rfl) fun q hq => ?_
 simp only[List.mem_cons,List.not_mem_nil,or_false]at hq
 rcases hq with rfl|rfl|rfl|rfl|rfl|rfl
 ·exact bM
 ·exact bM
 ·exact zT
 ·exact zT
 ·exact YF
 ·exact KH
theorem qH:fI 12048837557:=oU.prm
theorem mX:Root 5156902474397 2:=by
 refine bX (l:=[2,2,107,12048837557]) (by kernel_rfl) fun q hq => ?_
 simp only[List.mem_cons,List.not_mem_nil,or_false]at hq
 rcases hq with rfl|rfl|rfl|rfl
 ·exact bM
 ·exact bM
 ·exact YM
 ·exact qH
theorem nU:fI 5156902474397:=mX.prm
theorem kK:Root 1670836401704629 2:=by
 refine bX (l:=[2,2,3,3,3,3,5156902474397]) (by kernel_rfl) fun q hq => ?_
 simp only[List.mem_cons,List.not_mem_nil,or_false]at hq
 rcases hq with rfl|rfl|rfl|rfl|rfl|rfl|rfl
 ·exact bM
 ·exact bM
 ·exact iH
 ·exact iH
 ·exact iH
 ·exact iH
 ·exact nU
theorem lL:fI 1670836401704629:=kK.prm
theorem YE:fI 823:=aW 823 28 (by decide) (by decide) (by kernel_rfl)
theorem KI:fI 41927:=aW 41927 204 (by decide) (by decide) (by kernel_rfl)
theorem wI:Root 1593227 2:=by
 refine bX (l:=[2,19,41927]) (by kernel_rfl) fun q hq => ?_
 simp only[List.mem_cons,List.not_mem_nil,or_false]at hq
 rcases hq with rfl|rfl|rfl
 ·exact bM
 ·exact wN
 ·exact KI
theorem zX:fI 1593227:=wI.prm
theorem He:fI 83:=aW 83 9 (by decide) (by decide) (by kernel_rfl)
theorem YH:fI 379:=aW 379 19 (by decide) (by decide) (by kernel_rfl)
theorem zW:fI 1637:=aW 1637 40 (by decide) (by decide) (by kernel_rfl)
theorem YD:fI 853:=aW 853 29 (by decide) (by decide) (by kernel_rfl)
theorem rR:Root 639533339 2:=by
 refine bX (l:=[2,229,853,1637]) (by kernel_rfl) fun q hq => ?_
 simp only[List.mem_cons,List.not_mem_nil,or_false]at hq
 rcases hq with rfl|rfl|rfl|rfl
 ·exact bM
 ·exact GT
 ·exact YD
 ·exact zW
theorem uI:fI 639533339:=rR.prm
theorem jV:Root 65865678001877903 5:=by
 refine bX (l:=[2,83,379,1637,639533339]) (by kernel_rfl) fun q hq => ?_
 simp only[List.mem_cons,List.not_mem_nil,or_false]at hq
 rcases hq with rfl|rfl|rfl|rfl|rfl
 ·exact bM
 ·exact He
 ·exact YH
 ·exact zW
 ·exact uI
theorem kN:fI 65865678001877903:=jV.prm
theorem fJ:Root 13818364434197438864469338081 3:=by
 refine bX (l:=[2,2,2,2,2,5,823,1593227,65865678001877903]) (by kernel_rfl) fun q hq => ?_
 simp only[List.mem_cons,List.not_mem_nil,or_false]at hq
 rcases hq with rfl|rfl|rfl|rfl|rfl|rfl|rfl|rfl|rfl
 ·exact bM
 ·exact bM
 ·exact bM
 ·exact bM
 ·exact bM
 ·exact pP
 ·exact YE
 ·exact zX
 ·exact kN
theorem fR:fI 13818364434197438864469338081:=fJ.prm
theorem DI:Root 21888242871839275222246405745257275088548364400416034343698204186575808495617 5:=by
 refine bX (l:=[2,2,2,2,2,2,2,2,2,2,2,2,2,2,2,2,2,2,2,2,2,2,2,2,2,2,2,2,3,3,13,29,983,11003,237073,405928799,1670836401704629,13818364434197438864469338081]) (by kernel_rfl) fun q hq => ?_
 simp only[List.mem_cons,List.not_mem_nil,or_false]at hq
 rcases hq with rfl|rfl|rfl|rfl|rfl|rfl|rfl|rfl|rfl|rfl|rfl|rfl|rfl|rfl|rfl|rfl|rfl|rfl|rfl|rfl|rfl|rfl|rfl|rfl|rfl|rfl|rfl|rfl|rfl|rfl|rfl|rfl|rfl|rfl|rfl|rfl|rfl|rfl
 ·exact bM
 ·exact bM
 ·exact bM
 ·exact bM
 ·exact bM
 ·exact bM
 ·exact bM
 ·exact bM
 ·exact bM
 ·exact bM
 ·exact bM
 ·exact bM
 ·exact bM
 ·exact bM
 ·exact bM
 ·exact bM
 ·exact bM
 ·exact bM
 ·exact bM
 ·exact bM
 ·exact bM
 ·exact bM
 ·exact bM
 ·exact bM
 ·exact bM
 ·exact bM
 ·exact bM
 ·exact bM
 ·exact iH
 ·exact iH
 ·exact DX
 ·exact PQ
 ·exact GS
 ·exact uW
 ·exact DW
 ·exact mN
 ·exact lL
 ·exact fR
theorem Qf:fI 21888242871839275222246405745257275088548364400416034343698204186575808495617:=DI.prm
section
variable {M g:Nat}
theorem PV (a n:Nat):(a%M)^n%M=a^n%M:=(Nat.pow_mod a n M).symm
theorem pC (a b:Nat):a%M*b%M=a*b%M:=by rw[Nat.mul_mod,Nat.mod_mod,←Nat.mul_mod]
theorem Kk (hr:Root M g) {a:Nat} (h0:0<a) (h:a<M):a^(M-1)%M=1:=by
 obtain⟨h1,hg,_,hs⟩:=hr;obtain⟨k,hk,rfl⟩:=hs a h0 h;rw[PV,←Nat.pow_mul,Nat.mul_comm,lM h1 hg]
end
def kp (F:FC) (a:Nat):Nat:=a*F.R%F.M
section
variable {F:FC}
theorem Ds (hF:F.Ok) (a:Nat):kp F a<F.M:=Nat.mod_lt _ (by have:=hF.gt; omega)
theorem iB (hF:F.Ok) (x:Nat):x*F.R*F.Ri%F.M=x%F.M:=by
 rw[Nat.mul_assoc,Nat.mul_mod,hF.ri,Nat.mul_one,Nat.mod_mod]
theorem jF {M a b c d:Nat} (h:a%M=b%M) (h':c%M=d%M):a*c%M=b*d%M:=by rw[Nat.mul_mod,h,h',←Nat.mul_mod]
theorem lU (M a:Nat):a%M%M=a%M:=Nat.mod_mod _ _
theorem AN (hF:F.Ok) (a b:Nat):kp F a*kp F b*F.Ri%F.M=kp F (a*b%F.M):=by
 have h:kp F a*kp F b*F.Ri%F.M=a*F.R*(b*F.R)*F.Ri%F.M:=jF (jF (lU _ _) (lU _ _)) rfl;have e:a*F.R*(b*F.R)=a*b*F.R*F.R:=by rw[Nat.mul_mul_mul_comm,Nat.mul_assoc (a*b)]
 rw[h,e,iB hF];unfold kp;rw[pC]
theorem IG (hF:F.Ok) (a:Nat):a*aD F.s0 F.s1 F.s2 F.s3*F.Ri%F.M=kp F a:=by
 have h:a*aD F.s0 F.s1 F.s2 F.s3*F.Ri%F.M=a*(F.R*F.R)*F.Ri%F.M:=by rw[hF.sq]; exact jF (jF rfl (lU _ _)) rfl
 rw[h,←Nat.mul_assoc,iB hF];rfl
theorem Ii (hF:F.Ok) (a:Nat) (h:a<F.M):kp F a*1*F.Ri%F.M=a:=by
 have h1:kp F a*1*F.Ri%F.M=a*F.R*F.Ri%F.M:=by rw[Nat.mul_one]; exact jF (lU _ _) rfl
 rw[h1,iB hF,Nat.mod_eq_of_lt h]
theorem sW (hF:F.Ok) (a b:Nat):kp F a*b*F.Ri%F.M=a*b%F.M:=by
 have h:kp F a*b*F.Ri%F.M=a*F.R*b*F.Ri%F.M:=jF (jF (lU _ _) rfl) rfl;rw[h,Nat.mul_right_comm a,iB hF]
theorem sX (F:FC) (a:Nat):kp F (a%F.M)=kp F a:=by unfold kp; rw[pC]
theorem pT (F:FC) (a n b:Nat) (h:b=0∨b=1):(b=0→kp F (a^(2*n+b))=kp F (a^n*a^n%F.M))∧(b=1→kp F (a^(2*n+b))=kp F (a^n*a^n%F.M*a%F.M)):=by
 have e:a^(2*n)=a^n*a^n:=by rw[Nat.two_mul,Nat.pow_add]
 refine⟨fun h => ?_,fun h => ?_⟩
 ·subst h; rw[Nat.add_zero,sX,e]
 ·subst h; rw[sX,Nat.pow_succ,e,←sX F (_%_*a),pC,sX]
end
theorem FC.Ok.sqlt {F:FC} (hF:F.Ok):aD F.s0 F.s1 F.s2 F.s3<F.M:=by rw[hF.sq]; exact Nat.mod_lt _ (by have:=hF.gt; omega)
theorem FC.Ok.pos {F:FC} (hF:F.Ok):0<F.M:=by have:=hF.gt; omega
set_option maxHeartbeats 1000000 in
theorem iJ (F:FC) (hF:F.Ok) (b a0 a1 a2 a3:Nat) (ha:cK a0 a1 a2 a3) (w:World) (hk:KIs w b F) :
  Calls prog 96 #[.pointer (some ⟨b,0,none⟩),.agg #[.int .u64 a0,.int .u64 a1,.int .u64 a2,.int .u64 a3]] w (eQ (kp F (aD a0 a1 a2 a3)) w):=by
 have HK:=Lib.hid hk;have HF:=Lib.hid hF;have hL:=hk.lt;have hL1:b<w.heap.size+1:=by omega
 have hL2:b<w.heap.size+1+1:=by omega
 have k5:=hk.k5; have k6:=hk.k6; have k7:=hk.k7; have k8:=hk.k8;clear hk hF
 go_enter func96,ntmps96
 go_wp2_with fail
 go_region_with (go_at_call 95; refine (eN F HF.out b a0 a1 a2 a3 F.s0 F.s1 F.s2 F.s3 ha HF.out.oks HF.out.sqlt _ (HK.out.same (by repeat (first|exact Below.refl _ _|refine Below.drew ?_|refine Below.trans ?_ (aV _ _ _)|refine Below.alloc ?_ (by first|(simp; done)|(simp; omega)) _)))).mono ?_; rintro e ws ⟨s0,s1,s2,s3,rfl,hs,hv,hbl⟩; have HVs:=Lib.hid hv; obtain⟨hcs,hfs⟩:=pY hbl; have hzs:w.heap.size+1<ws.heap.size:=by { have:=hbl.size; simp at this; omega }; have HBLs:=Lib.hid hbl; clear hv hbl)
 all_goals (
  go_wp2_with fail;refine bodyPost_ret (v:=.agg #[.int .u64 s0,.int .u64 s1,.int .u64 s2,.int .u64 s3]) (by simp[results,results96,go_sem, *]) rfl ?_;refine⟨_,_,_,_,rfl,hs,HVs.out.trans (IG HF.out _),?_⟩;refine bZ (Below.trans ?_ (HBLs.out.mono (by first|(simp; done)|(simp; omega)))) (by omega) _ _ _ _
  repeat (first|exact Below.refl _ _|refine Below.drew ?_|refine Below.trans ?_ (aV _ _ _)|refine Below.alloc ?_ (by first|(simp; done)|(simp; omega)) _)
 )
set_option maxHeartbeats 1000000 in
theorem KM (F:FC) (hF:F.Ok) (b a0 a1 a2 a3:Nat) (ha:cK a0 a1 a2 a3) (w:World) (hk:KIs w b F) :
  Calls prog 103 #[.pointer (some ⟨b,0,none⟩),.agg #[.int .u64 a0,.int .u64 a1,.int .u64 a2,.int .u64 a3]] w (eQ (aD a0 a1 a2 a3*1*F.Ri%F.M) w):=by
 have HK:=Lib.hid hk;have HF:=Lib.hid hF;have hL:=hk.lt;have hL1:b<w.heap.size+1:=by omega
 have hL2:b<w.heap.size+1+1:=by omega
 clear hk hF
 go_enter func103,ntmps103
 go_wp2_with fail;refine (eN F HF.out b a0 a1 a2 a3 1 0 0 0 ha ⟨by omega,by omega,by omega,by omega⟩ (by show 1<_; have:=HF.out.gt; omega) _ (HK.out.same (by repeat (first|exact Below.refl _ _|refine Below.drew ?_|refine Below.trans ?_ (aV _ _ _)|refine Below.alloc ?_ (by first|(simp; done)|(simp; omega)) _)))).mono ?_
 rintro e ws ⟨s0,s1,s2,s3,rfl,hs,hv,hbl⟩; have HVs:=Lib.hid hv; obtain⟨hcs,hfs⟩:=pY hbl; have hzs:w.heap.size+1<ws.heap.size:=by { have:=hbl.size; simp at this; omega }; have HBLs:=Lib.hid hbl; clear hv hbl
 go_wp2_with fail;refine bodyPost_ret (v:=.agg #[.int .u64 s0,.int .u64 s1,.int .u64 s2,.int .u64 s3]) (by simp[results,results103,go_sem, *]) rfl ?_;refine⟨_,_,_,_,rfl,hs,HVs.out,?_⟩;refine bZ (Below.trans ?_ (HBLs.out.mono (by first|(simp; done)|(simp; omega)))) (by omega) _ _ _ _
 repeat (first|exact Below.refl _ _|refine Below.drew ?_|refine Below.trans ?_ (aV _ _ _)|refine Below.alloc ?_ (by first|(simp; done)|(simp; omega)) _)
theorem sJ (n:Nat) (hn:n<18446744073709551616) (w:World):Calls prog 87 #[.int .u64 n] w fun e w'=>e=.returned (.agg #[.int .u64 n,.int .u64 0,.int .u64 0,.int .u64 0])∧Below w.heap.size w w':=by
 go_enter func87,ntmps87
 go_wp2_with fail;refine bodyPost_ret (v:=.agg #[.int .u64 n,.int .u64 0,.int .u64 0,.int .u64 0]) (by simp[results,results87,go_sem]) rfl ?_;exact⟨rfl,by repeat (first|exact Below.refl _ _|refine Below.drew ?_|refine Below.alloc ?_ (by first|(simp; done)|(simp; omega)) _|refine Below.setCell ?_ (by simp) _)⟩
set_option maxHeartbeats 1000000 in
theorem KO (F:FC) (hF:F.Ok) (b:Nat)  (w:World) (hk:KIs w b F) :
  Calls prog 107 #[.pointer (some ⟨b,0,none⟩)] w (eQ (kp F 1) w):=by
 have HK:=Lib.hid hk;have HF:=Lib.hid hF;have hL:=hk.lt;have hL1:b<w.heap.size+1:=by omega
 have hL2:b<w.heap.size+1+1:=by omega
 clear hk hF
 go_enter func107,ntmps107
 go_wp2_with fail;refine (sJ 1 (by omega) _).mono ?_
 rintro e w1 ⟨rfl,hb1⟩
 have hz1:w.heap.size<w1.heap.size:=by have:=hb1.size; simp at this; omega
 obtain⟨hc1,hf1⟩:=pY hb1;have HB1:=Lib.hid hb1;have HK1:=Lib.hid ((HK.out.same (by repeat (first|exact Below.refl _ _|refine Below.drew ?_|refine Below.trans ?_ (aV _ _ _)|refine Below.alloc ?_ (by first|(simp; done)|(simp; omega)) _)):KIs (w.alloc _) b F).same hb1);clear hb1;go_wp2_with fail;refine (iJ F HF.out b 1 0 0 0 ⟨by omega,by omega,by omega,by omega⟩ _ HK1.out).mono ?_
 rintro e ws ⟨s0,s1,s2,s3,rfl,hs,hv,hbl⟩
 have HVs:=Lib.hid hv;obtain⟨hcs,hfs⟩:=pY hbl;have hzs:w.heap.size<ws.heap.size:=by have:=hbl.size; omega
 have HBLs:=Lib.hid (HB1.out.trans (hbl.mono HB1.out.size));clear hv hbl;go_wp2_with fail;refine bodyPost_ret (v:=.agg #[.int .u64 s0,.int .u64 s1,.int .u64 s2,.int .u64 s3]) (by simp[results,results107,go_sem, *]) rfl ?_;refine⟨_,_,_,_,rfl,hs,HVs.out,?_⟩;refine bZ (Below.trans ?_ (HBLs.out.mono (by first|(simp; done)|(simp; omega)))) (by omega) _ _ _ _
 repeat (first|exact Below.refl _ _|refine Below.drew ?_|refine Below.trans ?_ (aV _ _ _)|refine Below.alloc ?_ (by first|(simp; done)|(simp; omega)) _)
set_option maxHeartbeats 1000000 in
theorem uH (F:FC) (hF:F.Ok) (b a0 a1 a2 a3 b0 b1 b2 b3:Nat) (ha:cK a0 a1 a2 a3) (hb:cK b0 b1 b2 b3) (lb:aD b0 b1 b2 b3<F.M) (w:World) (hk:KIs w b F) :
  Calls prog 71 #[.pointer (some ⟨b,0,none⟩),.agg #[.int .u64 a0,.int .u64 a1,.int .u64 a2,.int .u64 a3],.agg #[.int .u64 b0,.int .u64 b1,.int .u64 b2,.int .u64 b3]] w (eQ (aD a0 a1 a2 a3*aD b0 b1 b2 b3%F.M) w):=by
 have HK:=Lib.hid hk;have HF:=Lib.hid hF;have hL:=hk.lt;have hL1:b<w.heap.size+1:=by omega
 have hL2:b<w.heap.size+1+1:=by omega
 have HLB:=Lib.hid lb;clear lb;clear hk hF
 go_enter func71,ntmps71
 go_wp2_with fail
 go_region_with (first|(go_at_call 96; refine (iJ F HF.out b a0 a1 a2 a3 ha _ (HK.out.same (by repeat (first|exact Below.refl _ _|refine Below.drew ?_|refine Below.trans ?_ (aV _ _ _)|refine Below.alloc ?_ (by first|(simp; done)|(simp; omega)) _)))).mono ?_; rintro e ws ⟨s0,s1,s2,s3,rfl,hs,hv,hbl⟩; have HVs:=Lib.hid hv; obtain⟨hcs,hfs⟩:=pY hbl; have hzs:w.heap.size+1+1<ws.heap.size:=by { have:=hbl.size; simp at this; omega }; have HBLs:=Lib.hid hbl; clear hv hbl; have HKs:=Lib.hid (KIs.same (F:=F) (b:=b) (HK.out.same (by repeat (first|exact Below.refl _ _|refine Below.drew ?_|refine Below.trans ?_ (aV _ _ _)|refine Below.alloc ?_ (by first|(simp; done)|(simp; omega)) _))) HBLs.out))|(go_at_call 95; refine (eN F HF.out b s0 s1 s2 s3 b0 b1 b2 b3 hs hb HLB.out _ HKs.out).mono ?_; rintro e wp ⟨p0,p1,p2,p3,rfl,hp,hv,hbl⟩; have HVp:=Lib.hid hv; obtain⟨hcp,hfp⟩:=pY hbl; have hzp:w.heap.size+1+1<wp.heap.size:=by { have:=hbl.size; omega }; have HBLp:=Lib.hid (HBLs.out.trans (hbl.mono HBLs.out.size)); clear hv hbl))
 all_goals (
  go_wp2_with fail;refine bodyPost_ret (v:=.agg #[.int .u64 p0,.int .u64 p1,.int .u64 p2,.int .u64 p3]) (by simp[results,results71,go_sem, *]) rfl ?_;refine⟨_,_,_,_,rfl,hp,HVp.out.trans (by rw[HVs.out]; exact sW HF.out _ _),?_⟩;refine bZ (Below.trans ?_ (HBLp.out.mono (by first|(simp; done)|(simp; omega)))) (by omega) _ _ _ _
  repeat (first|exact Below.refl _ _|refine Below.drew ?_|refine Below.trans ?_ (aV _ _ _)|refine Below.alloc ?_ (by first|(simp; done)|(simp; omega)) _)
 )
theorem gI {a p:Nat} (ha:a<18446744073709551616) (hp:p≤63):∃lo up:Nat,(a:Int)/2^p=(lo:Int)∧IntKind.u64.wrap ((a:Int)*2^(64-p))=(up:Int) ∧
  lo<18446744073709551616∧up<18446744073709551616∧Hid (∃m,a=lo*2^p+m∧m<2^p∧up*2^p=m*18446744073709551616)∧Hid (lo<2^(64-p))∧Hid (∃t,up=2^(64-p)*t):=by
 have hps:=KL p hp;have hpos:0<2^p:=Nat.two_pow_pos p;refine⟨a/2^p,a%2^p*2^(64-p),?_,?_,Nat.lt_of_le_of_lt (Nat.div_le_self _ _) ha,?_,Lib.hid ⟨a%2^p,?_,Nat.mod_lt _ hpos,?_⟩,Lib.hid ?_,Lib.hid ⟨a%2^p,Nat.mul_comm _ _⟩⟩
 ·rw[Int.natCast_ediv,Int.natCast_pow]; rfl
 ·rw[xZ,jT];congr 1;rw[show 18446744073709551616=2^p*2^(64-p) by rw[Nat.mul_comm,hps],Nat.mul_mod_mul_right]
 ·have:=Nat.mul_lt_mul_of_pos_right (Nat.mod_lt a hpos) (Nat.two_pow_pos (64-p));rw[Nat.mul_comm (2^p),hps]at this;exact this
 ·rw[Nat.mul_comm]; exact (Nat.div_add_mod a (2^p)).symm
 ·rw[Nat.mul_assoc,hps]
 ·rw[Nat.div_lt_iff_lt_mul hpos,hps]; exact ha
theorem nE {lo up k:Nat} (hl:lo<18446744073709551616) (hu:up<18446744073709551616) (h1:Hid (lo<2^k)) (h2:Hid (∃t,up=2^k*t)):∃s:Nat,bits .or .u64 (lo:Int) (up:Int)=(s:Int)∧s<18446744073709551616∧Hid (s=lo+up):=by
 obtain⟨t,ht⟩:=h2.out;have e:lo ||| up=lo+up:=by rw[Nat.or_comm,ht,←Nat.two_pow_add_eq_or_of_lt h1.out,Nat.add_comm]
 refine⟨lo+up,by rw[bits_or_u64_nat _ _ hl hu,e],?_,Lib.hid rfl⟩;rw[←e]; exact Nat.or_lt_two_pow (n:=64) hl hu
theorem Bh {n:Int} (h0:0≤n) (q:Int) (h:n/64=q) (h1:0≤q):∃p:Nat,n%64=(p:Int)∧p≤63∧n.toNat=64*q.toNat+p :=
 ⟨(n%64).toNat,by omega,by omega,by omega⟩
theorem zZ (q p:Nat):2^(64*q+p)=18446744073709551616^q*2^p:=by rw[Nat.pow_add,Nat.pow_mul]
theorem qW {r x T m:Nat} (h:r*T+m=x) (hm:m<T):r=x/T:=by
 subst h;rw[Nat.mul_comm,Nat.mul_add_div (by omega),Nat.div_eq_of_lt hm,Nat.add_zero]
theorem Yy {a b A B:Nat} (ha:a<18446744073709551616) (hb:b<18446744073709551616):(a ||| b)+18446744073709551616*(A ||| B)=(a+18446744073709551616*A) ||| (b+18446744073709551616*B):=by
 have h1:a+18446744073709551616*A=2^64*A ||| a:=by rw[←Nat.two_pow_add_eq_or_of_lt (show a<2^64 from ha)]; omega
 have h2:b+18446744073709551616*B=2^64*B ||| b:=by rw[←Nat.two_pow_add_eq_or_of_lt (show b<2^64 from hb)]; omega
 have h3:(a ||| b)+18446744073709551616*(A ||| B)=2^64*(A ||| B) ||| (a ||| b):=by rw[←Nat.two_pow_add_eq_or_of_lt (Nat.or_lt_two_pow (n:=64) ha hb)]; omega
 have h4:2^64*(A ||| B)=2^64*A ||| 2^64*B:=by
  rw[Nat.mul_comm _ (A ||| B),Nat.mul_comm _ A,Nat.mul_comm _ B,←Nat.shiftLeft_eq,←Nat.shiftLeft_eq,←Nat.shiftLeft_eq,Nat.shiftLeft_or_distrib]
 rw[h1,h2,h3,h4];simp only[Nat.or_assoc];congr 1;rw[←Nat.or_assoc,←Nat.or_assoc,Nat.or_comm a]
theorem Yx {a0 a1 a2 a3 b0 b1 b2 b3:Nat} (ha:cK a0 a1 a2 a3) (hb:cK b0 b1 b2 b3):aD (a0 ||| b0) (a1 ||| b1) (a2 ||| b2) (a3 ||| b3)=aD a0 a1 a2 a3 ||| aD b0 b1 b2 b3:=by
 unfold aD;rw[Yy ha.2.2.1 hb.2.2.1,Yy ha.2.1 hb.2.1,Yy ha.1 hb.1]
def LenIs (n L:Nat):Prop:=n<2^L∧(0<L→2^(L-1)≤n)
theorem LenIs.zero:LenIs 0 0:=⟨by simp,fun h=>absurd h (by omega)⟩
theorem LenIs.up {n x L k:Nat} (hn:n<2^k) (hx:0<x) (h:LenIs x L):LenIs (n+x*2^k) (k+L):=by
 have hL:0<L:=by
  rcases Nat.eq_zero_or_pos L with e|e
  ·subst e; have:=h.1; simp at this; omega
  ·exact e
 constructor
 ·have:=Nat.mul_le_mul_right (2^k) (show x+1≤2^L from h.1);rw[Nat.add_mul,Nat.one_mul]at this;rw[Nat.pow_add,Nat.mul_comm (2^k)]; omega
 ·intro _;have:=Nat.mul_le_mul_right (2^k) (h.2 hL);rw[show k+L-1=k+(L-1) by omega,Nat.pow_add,Nat.mul_comm (2^k)]; omega
theorem BC {y:Nat} (h0:0<y) (hy:y<18446744073709551616):∃S:Nat,(∀w,Calls prog 99 #[.int .u64 y] w fun e w'=>e=.returned (.int .i64 S)∧w'=w)∧S≤64∧Hid (LenIs y S):=by
 obtain⟨hl,ha,hb,hk⟩:=Ih h0 hy;refine⟨y.log2+1,fun w => ?_,by omega,Lib.hid ⟨hb,fun _=>ha⟩⟩;have:=Tryz.bits_Len64 (y:Int) w (by omega) (by omega);rw[Int.toNat_natCast,hl]at this;exact this
theorem zF (a0 a1 a2 a3:Nat) (w:World):(Instr.index 66 (.agg #[.int .u64 a0,.int .u64 a1,.int .u64 a2,.int .u64 a3]) (.int .i64 (0:Nat))).run prog w=.ok (.int .u64 (a0:Nat)) w:=by kernel_rfl
theorem zE (a0 a1 a2 a3:Nat) (w:World):(Instr.index 66 (.agg #[.int .u64 a0,.int .u64 a1,.int .u64 a2,.int .u64 a3]) (.int .i64 (1:Nat))).run prog w=.ok (.int .u64 (a1:Nat)) w:=by kernel_rfl
theorem zD (a0 a1 a2 a3:Nat) (w:World):(Instr.index 66 (.agg #[.int .u64 a0,.int .u64 a1,.int .u64 a2,.int .u64 a3]) (.int .i64 (2:Nat))).run prog w=.ok (.int .u64 (a2:Nat)) w:=by kernel_rfl
theorem zC (a0 a1 a2 a3:Nat) (w:World):(Instr.index 66 (.agg #[.int .u64 a0,.int .u64 a1,.int .u64 a2,.int .u64 a3]) (.int .i64 (3:Nat))).run prog w=.ok (.int .u64 (a3:Nat)) w:=by kernel_rfl
theorem DE (a0 a1 a2 a3 k:Nat) (hk:k<4) (w:World):(Instr.index 66 (.agg #[.int .u64 a0,.int .u64 a1,.int .u64 a2,.int .u64 a3]) (.int .i64 (k:Nat))).run prog w=.ok (.int .u64 (eL [a0,a1,a2,a3] k:Nat)) w:=by
 match k,hk with
 | 0,_=>exact zF a0 a1 a2 a3 w
 | 1,_=>exact zE a0 a1 a2 a3 w
 | 2,_=>exact zD a0 a1 a2 a3 w
 | 3,_=>exact zC a0 a1 a2 a3 w
def Ct (A:Nat) (w:World) (e:Ending) (w':World):Prop :=
 ∃L:Nat,e=.returned (.int .i64 L)∧L≤256∧LenIs A L∧Below w.heap.size w w'
theorem QV {A:Nat→Nat} {k L S:Nat} (hA:∀j,j<k→A j<18446744073709551616) (h0:0<A k) (hS:LenIs (A k) S):LenIs (cZ 18446744073709551616 A (k+1)) (64*k+S):=by
 have h1:=CO 18446744073709551616 A (by omega) k hA;rw[show 18446744073709551616^k=2^(64*k) by rw[Nat.pow_mul]]at h1;rw[bR,show 18446744073709551616^k=2^(64*k) by rw[Nat.pow_mul]];exact LenIs.up h1 h0 hS
theorem KU (a0 a1 a2 a3:Nat) (ha:cK a0 a1 a2 a3) (w:World) :
  Calls prog 108 #[.agg #[.int .u64 a0,.int .u64 a1,.int .u64 a2,.int .u64 a3]] w (Ct (aD a0 a1 a2 a3) w):=by
 have lA:∀k,eL [a0,a1,a2,a3] k<18446744073709551616:=fun k=>by
  obtain⟨h0,h1,h2,h3⟩:=ha;unfold eL
  match k with
  | 0=>exact h0
  | 1=>exact h1
  | 2=>exact h2
  | 3=>exact h3
  | k+4=>simp
 obtain⟨A,eA⟩:∃A,A=eL [a0,a1,a2,a3]:=⟨_,rfl⟩
 have hix:=fun k hk w=>DE a0 a1 a2 a3 k hk w
 rw[←eA]at lA;simp only[←eA]at hix;have hv:aD a0 a1 a2 a3=cZ 18446744073709551616 A 4:=by rw[←kR,eA]; rfl
 have HV:=Lib.hid hv; have HlA:=Lib.hid lA; have Hix:=Lib.hid hix;clear eA lA hv hix
 go_enter func108,ntmps108
 go_wp2_with fail
 go_loop [3,7] (fun l i=>∃k L:Nat,k≤4∧i=.int .i64 k∧l=.int .i64 L∧L≤64*k∧Hid (LenIs (cZ 18446744073709551616 A k) L)) (fun _ i=>4-(intOf i).toNat)
 case atStart=>exact⟨0,0,by omega,rfl,rfl,by omega,Lib.hid LenIs.zero⟩
 case round =>
  obtain⟨k,L,hk,rfl,rfl,hL,hl⟩:=hrel
  by_cases hlt:k<4
  ·obtain⟨x,ex⟩:∃x,x=A k:=⟨_,rfl⟩
   have hx:=Hix.out k hlt;rw[←ex]at hx;have bx:x<18446744073709551616:=by rw[ex]; exact HlA.out k
   rcases Nat.eq_zero_or_pos x with h0|h0
   ·have t0:((x:Int) != 0)=false:=by simp[h0]
    have HN:Hid (LenIs (cZ 18446744073709551616 A (k+1)) L):=Lib.hid (by rw[bR,←ex,h0,Nat.zero_mul,Nat.add_zero]; exact hl.out);clear h0 ex;go_wp2_with fail
    go_round
    case rel=>exact⟨k+1,L,by omega,by go_num,rfl,by omega,HN⟩
    case measure=>simp[intOf]; omega
   ·have t0:((x:Int) != 0)=true:=by simp; omega
    obtain⟨S,rS,bS,hS⟩:=BC h0 bx;have HN:Hid (LenIs (cZ 18446744073709551616 A (k+1)) (64*k+S)):=Lib.hid (QV (L:=L) (fun j _=>HlA.out j) (by omega) (by rw[←ex]; exact hS.out));clear h0 ex;go_wp2_with fail;refine (rS _).mono ?_
    rintro e w' ⟨rfl,rfl⟩
    go_wp2_with fail
    go_round
    case rel=>exact⟨k+1,64*k+S,by omega,by go_num,by go_num,by omega,HN⟩
    case measure=>simp[intOf]; omega
  ·obtain rfl:k=4:=by omega
   go_wp2_with fail;go_ret;exact⟨L,rfl,by omega,by rw[HV.out]; exact hl.out,(Below.refl _ _).alloc (Nat.le_refl _) _⟩
def lV (A i:Nat):Nat:=A/2^i%2
theorem BP (A i:Nat):lV A i=0∨lV A i=1:=by unfold lV; omega
theorem JP (R:Nat) (P:Nat→Nat) (n:Nat):cZ R P (n+1)=P 0+R*cZ R (fun k=>P (1+k)) n:=by
 have:=oJ R P 1 n;rw[Nat.add_comm n 1,this];simp[cZ]
theorem MS (P:Nat→Nat) (hP:∀k,P k<18446744073709551616) (n j k:Nat) (hj:j<n) (hk:k<64):lV (cZ 18446744073709551616 P n) (64*j+k)=P j/2^k%2:=by
 obtain⟨m,rfl⟩:∃m,n=j+(m+1):=⟨n-j-1,by omega⟩
 have h1:=oJ 18446744073709551616 P j (m+1);have h2:=JP 18446744073709551616 (fun k=>P (j+k)) m;have h3:=CO 18446744073709551616 P (by omega) j (fun k _=>hP k);unfold lV;rw[h1,h2,zZ,←Nat.div_div_eq_div_mul,Nat.add_mul_div_left _ _ (by exact Nat.pow_pos (by omega)),Nat.div_eq_of_lt h3,Nat.zero_add];have e:18446744073709551616=2^k*(2*2^(63-k)):=by
  rw[←Nat.pow_succ',←Nat.pow_add,show k+(63-k).succ=64 by omega]
 show (P j+18446744073709551616*_)/2^k%2=_;generalize cZ 18446744073709551616 (fun k=>P (j+(1+k))) m=H;rw[show 18446744073709551616*H=2^k*(2*2^(63-k))*H by rw[←e],Nat.mul_assoc,Nat.add_mul_div_left _ _ (by exact Nat.pow_pos (by omega)),Nat.mul_assoc,Nat.add_mul_mod_self_left]
theorem Ud {i:Nat} (h:i<256):∃j k:Nat,(i:Int)/64=(j:Int)∧(i:Int)%64=(k:Int)∧j<4∧k<64∧Hid (i=64*j+k) :=
 ⟨i/64,i%64,by omega,by omega,by omega,by omega,Lib.hid (by omega)⟩
theorem ME (x:Nat) (hx:x<18446744073709551616):bits .and .u64 (x:Int) 1=((x%2:Nat):Int):=by
 rw[show (1:Int)=((1:Nat):Int)from rfl,bits_and_u64_nat _ _ hx (by omega),Nat.and_one_is_mod]
theorem Kl {x k b:Nat} (hx:x<18446744073709551616) (hb:x/2^k%2=b):∃s:Nat,(x:Int)/2^k=(s:Int)∧bits .and .u64 (s:Int) 1=(b:Int)∧s<18446744073709551616:=by
 have hs:x/2^k<18446744073709551616:=Nat.lt_of_le_of_lt (Nat.div_le_self _ _) hx;exact⟨x/2^k,by rw[Int.natCast_ediv,Int.natCast_pow]; rfl,by rw[ME _ hs,hb],hs⟩
theorem TZ (A i:Nat):A/2^i=2*(A/2^(i+1))+lV A i:=by
 unfold lV;rw[Nat.pow_succ,←Nat.div_div_eq_div_mul];omega
def tG (T i:Nat):Nat:=T/2^i*2^i
def Cv (b:Nat) (w:World) (e:Ending) (w':World):Prop:=e=.returned (.int .i64 b)∧Below w.heap.size w w'
theorem SJ {a0 a1 a2 a3:Nat} (ha:cK a0 a1 a2 a3) (k:Nat):eL [a0,a1,a2,a3] k<18446744073709551616:=by
 obtain⟨h0,h1,h2,h3⟩:=ha;unfold eL
 match k with
 | 0=>exact h0
 | 1=>exact h1
 | 2=>exact h2
 | 3=>exact h3
 | k+4=>simp
theorem VE (a0 a1 a2 a3:Nat):aD a0 a1 a2 a3=cZ 18446744073709551616 (eL [a0,a1,a2,a3]) 4:=by rw[←kR]; rfl
theorem Lk {a0 a1 a2 a3 i j k:Nat} (ha:cK a0 a1 a2 a3) (hj:j<4) (hk:k<64) (e:i=64*j+k):eL [a0,a1,a2,a3] j/2^k%2=lV (aD a0 a1 a2 a3) i:=by
 rw[VE,e,MS _ (SJ ha) 4 j k hj hk]
theorem QI (w:World) (t:TypeId) (a0 a1 a2 a3 j:Nat) (hj:j<4):(w.alloc (.cells #[.int .u64 a0,.int .u64 a1,.int .u64 a2,.int .u64 a3] t)).cell? ⟨w.heap.size,j,none⟩=some (.int .u64 (eL [a0,a1,a2,a3] j:Nat)) :=
 (RowIs.mk w t [a0,a1,a2,a3] w.heap.size rfl).cell hj
theorem Lj (a0 a1 a2 a3 i:Nat) (ha:cK a0 a1 a2 a3) (hi:i<256) (w:World) :
  Calls prog 109 #[.agg #[.int .u64 a0,.int .u64 a1,.int .u64 a2,.int .u64 a3],.int .i64 i] w (Cv (lV (aD a0 a1 a2 a3) i) w):=by
 obtain⟨j,k,q,r,hj,hk,e⟩:=Ud hi;have hc:=QI w 66 a0 a1 a2 a3 j hj;have hx:=SJ ha j;obtain⟨s,e1,e2,hs⟩:=Kl hx (Lk ha hj hk e.out);have hb:=BP (aD a0 a1 a2 a3) i;generalize lV (aD a0 a1 a2 a3) i=b at *;generalize eL [a0,a1,a2,a3] j=x at *;have hb':b≤1:=by omega
 clear hb e;have t0:decide ((i:Int)<0)=false:=decide_eq_false (by omega);have t1:decide ((256:Int)≤(i:Int))=false:=decide_eq_false (by omega)
 go_enter func109,ntmps109
 go_wp2_with fail;go_ret;exact⟨rfl,(Below.refl _ _).alloc (Nat.le_refl _) _⟩
theorem Mem.row {w wr:World} {rs:List (Nat×Nat×Nat×Nat×Nat)} (h:Mem w wr rs) {b c0 c1 c2 c3:Nat} (hm:(b,c0,c1,c2,c3)∈rs):Row4 wr b c0 c1 c2 c3:=(h.2 _ hm).2
theorem Mem.lt {w wr:World} {rs:List (Nat×Nat×Nat×Nat×Nat)} (h:Mem w wr rs) {b c0 c1 c2 c3:Nat} (hm:(b,c0,c1,c2,c3)∈rs):b<wr.heap.size:=(h.2 _ hm).1
theorem zY {N k L:Nat} (hk:k<L):N/2^(L-(k+1))=2*(N/2^(L-k))+lV N (L-1-k):=by
 have:=TZ N (L-1-k);rw[show L-1-k+1=L-k by omega]at this;rw[show L-(k+1)=L-1-k by omega,this]
set_option maxHeartbeats 4000000 in
theorem pQ (F:FC) (hF:F.Ok) (A b a0 a1 a2 a3 n0 n1 n2 n3:Nat) (ha:cK a0 a1 a2 a3) (hn:cK n0 n1 n2 n3) (hA:aD a0 a1 a2 a3=kp F A) (w:World) (hk:KIs w b F) :
  Calls prog 104 #[.pointer (some ⟨b,0,none⟩),.agg #[.int .u64 a0,.int .u64 a1,.int .u64 a2,.int .u64 a3],.agg #[.int .u64 n0,.int .u64 n1,.int .u64 n2,.int .u64 n3]] w (eQ (kp F (A^aD n0 n1 n2 n3)) w):=by
 have HK:=Lib.hid hk;have HF:=Lib.hid hF;have HA:=Lib.hid hA;have la:aD a0 a1 a2 a3<F.M:=by rw[hA]; exact Ds hF _
 have hL:=hk.lt;have HLA:=Lib.hid la;clear hk hF hA la
 go_enter func104,ntmps104
 go_wp2_with fail;have M0:=((((Mem.nil w).new w.heap.size a0 a1 a2 a3 82 rfl).new (w.heap.size+1) n0 n1 n2 n3 66 (by simp)).new (w.heap.size+1+1) 0 0 0 0 82 (by simp));refine (KO F HF.out b _ (HK.out.same M0.1)).mono ?_
 rintro e w1 ⟨s0,s1,s2,s3,rfl,hs,hv,hbl⟩
 have M1:=M0.on hbl;have HV1:=Lib.hid hv;have hz1:w.heap.size+1+1<w1.heap.size:=M1.lt (c0:=0) (c1:=0) (c2:=0) (c3:=0) (by simp);have R1:=M1.row (b:=w.heap.size+1) (c0:=n0) (c1:=n1) (c2:=n2) (c3:=n3) (by simp);have x0:=R1.c0; have x1:=R1.c1; have x2:=R1.c2; have x3:=R1.c3;have lt1:w.heap.size+1<w1.heap.size:=by omega
 have M2:=Lib.hid (M1.new w1.heap.size s0 s1 s2 s3 82 rfl);clear hbl hv R1 M0 M1;go_wp2_with fail;refine (KU n0 n1 n2 n3 hn _).mono ?_
 rintro e w2 ⟨L,rfl,hL256,hLen,hbl⟩
 have HLen:=Lib.hid hLen;have M3:=Lib.hid (M2.out.on hbl);have hz2:w1.heap.size<w2.heap.size:=by have:=hbl.size; simp at this; omega
 clear hbl hLen x0 x1 x2 x3;go_wp2_with fail
 go_loopw [15] (fun i wr=>∃k r0 r1 r2 r3:Nat,k≤L∧i=.int .i64 k∧cK r0 r1 r2 r3∧Hid (aD r0 r1 r2 r3=kp F (A^(aD n0 n1 n2 n3/2^(L-k))))∧Hid (Mem w wr [(w1.heap.size,r0,r1,r2,r3),(w.heap.size+1+1,0,0,0,0),(w.heap.size+1,n0,n1,n2,n3),(w.heap.size,a0,a1,a2,a3)])) (fun i _=>L-(intOf i).toNat)
 case atStart =>
  refine⟨0,s0,s1,s2,s3,Nat.zero_le _,rfl,hs,Lib.hid ?_,M3⟩;rw[HV1.out,Nat.sub_zero,Nat.div_eq_of_lt HLen.out.1,Nat.pow_zero]
 case round =>
  obtain⟨k,r0,r1,r2,r3,hkL,rfl,hr,HV,HM⟩:=hrel;have hrl:aD r0 r1 r2 r3<F.M:=by rw[HV.out]; exact Ds HF.out _
  by_cases hlt:k<L
  ·have Rr:=HM.out.row (b:=w1.heap.size) (c0:=r0) (c1:=r1) (c2:=r2) (c3:=r3) (by simp);have x0:=Rr.c0; have x1:=Rr.c1; have x2:=Rr.c2; have x3:=Rr.c3;have ltr:=HM.out.lt (b:=w1.heap.size) (c0:=r0) (c1:=r1) (c2:=r2) (c3:=r3) (by simp);have Hrl:=Lib.hid hrl;clear Rr hrl;go_wp2_with fail;refine (eN F HF.out b r0 r1 r2 r3 r0 r1 r2 r3 hr hr Hrl.out _ (HK.out.same HM.out.1)).mono ?_
   rintro e w3 ⟨p0,p1,p2,p3,rfl,hp,hv,hbl⟩
   have hv':aD p0 p1 p2 p3=kp F (A^(aD n0 n1 n2 n3/2^(L-k))*A^(aD n0 n1 n2 n3/2^(L-k))%F.M):=by rw[hv,HV.out,AN HF.out]
   have HP:=Lib.hid hv';have M4:=HM.out.on hbl;have lt4:=M4.lt (b:=w1.heap.size) (c0:=r0) (c1:=r1) (c2:=r2) (c3:=r3) (by simp);have Rr:=M4.row (b:=w1.heap.size) (c0:=r0) (c1:=r1) (c2:=r2) (c3:=r3) (by simp);have Rn:=M4.row (b:=w.heap.size+1) (c0:=n0) (c1:=n1) (c2:=n2) (c3:=n3) (by simp);have Ra:=M4.row (b:=w.heap.size) (c0:=a0) (c1:=a1) (c2:=a2) (c3:=a3) (by simp);have M5:=Lib.hid (M4.put p0 p1 p2 p3 (by omega) (by intro r hr; simp at hr; rcases hr with rfl|rfl|rfl<;>simp<;>omega));clear x0 x1 x2 x3 hv hv' hbl M4;have x0:=Rr.c0; have x1:=Rr.c1; have x2:=Rr.c2; have x3:=Rr.c3; have xf:=Rr.fr;have y0:=Rn.c0; have y1:=Rn.c1; have y2:=Rn.c2; have y3:=Rn.c3;have ne1:¬w.heap.size+1=w1.heap.size:=by omega
   have ne1':¬w1.heap.size=w.heap.size+1:=by omega
   clear Rr Rn Ra;obtain⟨L1,e1,hL1⟩:∃L1:Nat,(L:Int)-1=(L1:Int)∧L1+1=L:=⟨L-1,by omega,by omega⟩
   obtain⟨j,e2,hj⟩:∃j:Nat,(L1:Int)-(k:Int)=(j:Int)∧j+k=L1:=⟨L1-k,by omega,by omega⟩
   have hj256:j<256:=by omega
   have hjk:j=L-1-k:=by omega
   have HJ:=Lib.hid hjk;clear hjk;go_wp2_with fail;refine (Lj n0 n1 n2 n3 j hn hj256 _).mono ?_
   rintro e w4 ⟨he,hbl⟩
   have M5':=M5.out;unfold set4 at M5';have M6:=M5'.on hbl;clear hbl M5' x0 x1 x2 x3 xf y0 y1 y2 y3;have lt6:=M6.lt (b:=w1.heap.size) (c0:=p0) (c1:=p1) (c2:=p2) (c3:=p3) (by simp)
   rcases BP (aD n0 n1 n2 n3) j with hb|hb
   ·rw[hb]at he;subst he;have HS:=Lib.hid (show aD p0 p1 p2 p3=kp F (A^(aD n0 n1 n2 n3/2^(L-(k+1)))) by
     rw[HP.out,zY hlt,←HJ.out,hb]; exact ((pT F A _ 0 (Or.inl rfl)).1 rfl).symm)
    have M7:=Lib.hid M6;clear hb M6;go_wp2_with fail
    go_roundw
    case rel=>exact⟨k+1,p0,p1,p2,p3,by omega,by go_num,hp,HS,M7⟩
    case measure=>simp[intOf]; omega
   ·rw[hb]at he;subst he;have Rr:=M6.row (b:=w1.heap.size) (c0:=p0) (c1:=p1) (c2:=p2) (c3:=p3) (by simp);have Ra:=M6.row (b:=w.heap.size) (c0:=a0) (c1:=a1) (c2:=a2) (c3:=a3) (by simp);have x0:=Rr.c0; have x1:=Rr.c1; have x2:=Rr.c2; have x3:=Rr.c3;have z0:=Ra.c0; have z1:=Ra.c1; have z2:=Ra.c2; have z3:=Ra.c3;have HB:=Lib.hid hb;have M7:=Lib.hid M6;clear hb M6 Rr Ra;go_wp2_with fail;refine (eN F HF.out b p0 p1 p2 p3 a0 a1 a2 a3 hp ha HLA.out _ (HK.out.same M7.out.1)).mono ?_
    rintro e w5 ⟨q0,q1,q2,q3,rfl,hq,hv,hbl⟩
    have hv':aD q0 q1 q2 q3=kp F (A^(aD n0 n1 n2 n3/2^(L-(k+1)))):=by
     rw[hv,HP.out,HA.out,AN HF.out,zY hlt,←HJ.out,HB.out]; exact ((pT F A _ 1 (Or.inr rfl)).2 rfl).symm
    have HS:=Lib.hid hv';have M8:=M7.out.on hbl;have lt8:=M8.lt (b:=w1.heap.size) (c0:=p0) (c1:=p1) (c2:=p2) (c3:=p3) (by simp);have Rr:=M8.row (b:=w1.heap.size) (c0:=p0) (c1:=p1) (c2:=p2) (c3:=p3) (by simp);have M9:=Lib.hid (M8.put q0 q1 q2 q3 (by omega) (by intro r hr; simp at hr; rcases hr with rfl|rfl|rfl<;>simp<;>omega));clear x0 x1 x2 x3 z0 z1 z2 z3 hv hv' hbl M8;have x0:=Rr.c0; have x1:=Rr.c1; have x2:=Rr.c2; have x3:=Rr.c3; have xf:=Rr.fr;clear Rr;go_wp2_with fail
    go_roundw
    case rel=>exact⟨k+1,q0,q1,q2,q3,by omega,by go_num,hq,HS,M9⟩
    case measure=>simp[intOf]; omega
  ·obtain rfl:k=L:=by omega
   have Rr:=HM.out.row (b:=w1.heap.size) (c0:=r0) (c1:=r1) (c2:=r2) (c3:=r3) (by simp);have x0:=Rr.c0; have x1:=Rr.c1; have x2:=Rr.c2; have x3:=Rr.c3;have Ro:=HM.out.row (b:=w.heap.size+1+1) (c0:=0) (c1:=0) (c2:=0) (c3:=0) (by simp);have o0:=Ro.c0; have o1:=Ro.c1; have o2:=Ro.c2; have o3:=Ro.c3; have of:=Ro.fr;have ltr:=HM.out.lt (b:=w1.heap.size) (c0:=r0) (c1:=r1) (c2:=r2) (c3:=r3) (by simp);have lto:=HM.out.lt (b:=w.heap.size+1+1) (c0:=0) (c1:=0) (c2:=0) (c3:=0) (by simp);clear Rr Ro hrl;go_wp2_with fail;refine bodyPost_ret (v:=.agg #[.int .u64 r0,.int .u64 r1,.int .u64 r2,.int .u64 r3]) (by simp[results,results104,go_sem, *]) rfl ?_;refine⟨_,_,_,_,rfl,hr,by rw[HV.out,Nat.sub_self,Nat.pow_zero,Nat.div_one],?_⟩;exact bZ HM.out.1 (by omega) _ _ _ _
theorem sF {M A H T:Nat} (hM:M=2^T*(2*H+1)+1) (hT:1≤T):(A^(2*H+1))^2^(T-1)=A^(M/2):=by
 rw[←Nat.pow_mul];congr 1;obtain⟨t,rfl⟩:∃t,T=t+1:=⟨T-1,by omega⟩
 rw[hM,Nat.pow_succ,show t+1-1=t by omega,Nat.mul_comm (2^t) 2,Nat.mul_assoc,Nat.mul_comm (2*H+1)];omega
theorem ST (d:Nat) (a0 a1 a2 a3 b0 b1 b2 b3:Nat) (w:World):(Op.equalIn (d+1+1) 25 (.agg #[.int .u64 a0,.int .u64 a1,.int .u64 a2,.int .u64 a3]) (.agg #[.int .u64 b0,.int .u64 b1,.int .u64 b2,.int .u64 b3])).run prog w=.ok (SU a0 a1 a2 a3 b0 b1 b2 b3) w:=by
 have h0:∀(x y:Int) (w:World),(Op.equalIn (d+1) 23 (.int .u64 x) (.int .u64 y)).run prog w=.ok (x==y) w:=fun x y w=>run_equalIn_int w d 23 .u64 .u64 x y underlying23
 rw[Op.equalIn];simp only[Sem.run_bind,run_underlying underlying25,Result.andThen_ok,Tryz.sizeOf23];simp[Std.Legacy.Range.forIn_eq_forIn_range',Std.Legacy.Range.size,List.range',part,h0,Sem.run_bind,Result.andThen_ok];unfold SU
 by_cases q0:a0=b0<;>by_cases q1:a1=b1<;>by_cases q2:a2=b2<;>by_cases q3:a3=b3<;>simp[q0,q1,q2,q3]<;>omega
theorem Mem.drew {w wr:World} {rs:List (Nat×Nat×Nat×Nat×Nat)} (h:Mem w wr rs):Mem w wr.drew rs :=
 ⟨h.1.drew,fun r hr=>⟨(h.2 r hr).1,⟨(h.2 r hr).2.c0,(h.2 r hr).2.c1,(h.2 r hr).2.c2,(h.2 r hr).2.c3,(h.2 r hr).2.fr⟩⟩⟩
theorem SX:prog.eqGuardType prog.depth 25=false:=by kernel_rfl
set_option maxHeartbeats 1000000 in
theorem tB (F:FC) (hF:F.Ok) (A b a0 a1 a2 a3:Nat) (ha:cK a0 a1 a2 a3) (hA:aD a0 a1 a2 a3=kp F A) (w:World) (hk:KIs w b F) :
  Calls prog 112 #[.pointer (some ⟨b,0,none⟩),.agg #[.int .u64 a0,.int .u64 a1,.int .u64 a2,.int .u64 a3]] w (eQ (kp F (A^(F.M-2))) w):=by
 have HK:=Lib.hid hk;have HF:=Lib.hid hF;have HA:=Lib.hid hA;have hL:=hk.lt;have hL1:b<w.heap.size+1:=by omega
 have k0:=hk.k0; have k1:=hk.k1; have k2:=hk.k2; have k3:=hk.k3;clear hk hF hA
 go_enter func112,ntmps112
 go_wp2_with fail;have M0:=(((Mem.nil w).new w.heap.size a0 a1 a2 a3 82 rfl).new (w.heap.size+1) 0 0 0 0 82 (by simp));refine (uP F.m0 F.m1 F.m2 F.m3 2 0 0 0 HF.out.okm ⟨by omega,by omega,by omega,by omega⟩ _).mono ?_
 rintro e w1 ⟨n0,n1,n2,n3,c,rfl,hn,hc,hv,hbl⟩
 have hv':aD n0 n1 n2 n3=F.M-2:=by
  have e2:aD 2 0 0 0=2:=rfl;have:=dT hn; have:=HF.out.gt; have:=HF.out.two;rw[e2,show aD F.m0 F.m1 F.m2 F.m3=F.M from rfl]at hv;omega
 have HV:=Lib.hid hv';have M1:=M0.on hbl;have hz1:w.heap.size+1<w1.heap.size:=M1.lt (c0:=0) (c1:=0) (c2:=0) (c3:=0) (by simp);have R1:=M1.row (b:=w.heap.size) (c0:=a0) (c1:=a1) (c2:=a2) (c3:=a3) (by simp);have x0:=R1.c0; have x1:=R1.c1; have x2:=R1.c2; have x3:=R1.c3;have lt1:w.heap.size<w1.heap.size:=by omega
 have M2:=Lib.hid (M1.new w1.heap.size n0 n1 n2 n3 66 rfl);clear hbl hv hv' R1 M0 M1 k0 k1 k2 k3;go_wp2_with fail;refine (pQ F HF.out A b a0 a1 a2 a3 n0 n1 n2 n3 ha hn HA.out _ (HK.out.same M2.out.1)).mono ?_
 rintro e w2 ⟨s0,s1,s2,s3,rfl,hs,hv,hbl⟩
 have HVs:=Lib.hid hv;have M3:=Lib.hid (M2.out.on hbl);have Ro:=M3.out.row (b:=w.heap.size+1) (c0:=0) (c1:=0) (c2:=0) (c3:=0) (by simp);have o0:=Ro.c0; have o1:=Ro.c1; have o2:=Ro.c2; have o3:=Ro.c3; have of:=Ro.fr;have lto:=M3.out.lt (b:=w.heap.size+1) (c0:=0) (c1:=0) (c2:=0) (c3:=0) (by simp);clear hbl hv Ro x0 x1 x2 x3;go_wp2_with fail;refine bodyPost_ret (v:=.agg #[.int .u64 s0,.int .u64 s1,.int .u64 s2,.int .u64 s3]) (by simp[results,results112,go_sem, *]) rfl ?_;refine⟨_,_,_,_,rfl,hs,by rw[HVs.out,HV.out],?_⟩;exact bZ M3.out.1 (by omega) _ _ _ _
theorem Nw (a0 a1 a2 a3:Nat) (n:Int) (ha:cK a0 a1 a2 a3) (h0:0<n) (hq:n/64=0) (w:World) :
  Calls prog 91 #[.agg #[.int .u64 a0,.int .u64 a1,.int .u64 a2,.int .u64 a3],.int .i64 n] w (iO (fun v=>v=aD a0 a1 a2 a3/2^n.toNat) w):=by
 obtain⟨p,hr,hp,en⟩:=Bh (by omega) 0 hq (by omega);have b1:n<256:=by omega
 have t0:decide (n≤0)=false:=decide_eq_false (by omega);obtain⟨lo0,up0,u0,d0,bl0,bu0,e0,g0,m0⟩:=gI (a:=a0) (p:=p) ha.1 hp;obtain⟨lo1,up1,u1,d1,bl1,bu1,e1,g1,m1⟩:=gI (a:=a1) (p:=p) ha.2.1 hp;obtain⟨lo2,up2,u2,d2,bl2,bu2,e2,g2,m2⟩:=gI (a:=a2) (p:=p) ha.2.2.1 hp;obtain⟨lo3,up3,u3,d3,bl3,bu3,e3,g3,m3⟩:=gI (a:=a3) (p:=p) ha.2.2.2 hp;obtain⟨s0,o0,bs0,f0⟩:=nE bl0 bu1 g0 m1;obtain⟨s1,o1,bs1,f1⟩:=nE bl1 bu2 g1 m2;obtain⟨s2,o2,bs2,f2⟩:=nE bl2 bu3 g2 m3;have HF:Hid (aD s0 s1 s2 lo3=aD a0 a1 a2 a3/2^n.toNat):=Lib.hid (by
  rw[en,zZ,←Nat.div_div_eq_div_mul];have hq':aD a0 a1 a2 a3/18446744073709551616^((0:Int)).toNat=aD a0 a1 a2 a3:=by
   rw[show 18446744073709551616^((0:Int)).toNat=1 by simp];obtain⟨k0,k1,k2,k3⟩:=ha;unfold aD; omega
  rw[hq'];obtain⟨v0,x0,y0,z0⟩:=e0.out;obtain⟨v1,x1,y1,z1⟩:=e1.out;obtain⟨v2,x2,y2,z2⟩:=e2.out;obtain⟨v3,x3,y3,z3⟩:=e3.out;have f0:=f0.out;have f1:=f1.out;have f2:=f2.out;refine qW (m:=v0) ?_ y0;have hD:aD s0 s1 s2 lo3*2^p=1*(s0*2^p)+18446744073709551616*(s1*2^p)+340282366920938463463374607431768211456*(s2*2^p)+6277101735386680763835789423207666416102355444464034512896*(lo3*2^p):=by
   unfold aD; simp only[Nat.add_mul,Nat.mul_add,Nat.mul_assoc,Nat.mul_zero,Nat.zero_mul,Nat.add_zero]; omega
  rw[hD];have k0:s0*2^p=lo0*2^p+up1*2^p:=by rw[f0,Nat.add_mul]
  have k1:s1*2^p=lo1*2^p+up2*2^p:=by rw[f1,Nat.add_mul]
  have k2:s2*2^p=lo2*2^p+up3*2^p:=by rw[f2,Nat.add_mul]
  unfold aD;omega)
 clear e0 g0 m0 e1 g1 m1 e2 g2 m2 e3 g3 m3 f0 f1 f2;have HEN:=Lib.hid en;clear en
 go_enter func91,ntmps91
 go_wp2_with fail;refine wp_loop_rounds 5 ?_;rw[rounds_succ];go_wp2_with fail
 go_region
 go_wp2_with fail;rw[rounds_succ];go_wp2_with fail
 go_region
 go_wp2_with fail;rw[rounds_succ];go_wp2_with fail
 go_region
 go_wp2_with fail;rw[rounds_succ];go_wp2_with fail;rw[rounds_succ];go_wp2_with fail;refine bodyPost_ret (v:=.agg #[.int .u64 s0,.int .u64 s1,.int .u64 s2,.int .u64 lo3]) (by simp[results,results91,go_sem]) rfl ?_;refine⟨s0,s1,s2,lo3,rfl,⟨bs0,bs1,bs2,bl3⟩,HF.out,?_⟩
 repeat (first|exact Below.refl _ _|refine Below.drew ?_|refine Below.alloc ?_ (by first|(simp; done)|(simp; omega)) _)
theorem Nv (a0 a1 a2 a3:Nat) (n:Int) (ha:cK a0 a1 a2 a3) (h0:0<n) (hq:n/64=1) (w:World) :
  Calls prog 91 #[.agg #[.int .u64 a0,.int .u64 a1,.int .u64 a2,.int .u64 a3],.int .i64 n] w (iO (fun v=>v=aD a0 a1 a2 a3/2^n.toNat) w):=by
 obtain⟨p,hr,hp,en⟩:=Bh (by omega) 1 hq (by omega);have b1:n<256:=by omega
 have t0:decide (n≤0)=false:=decide_eq_false (by omega);obtain⟨lo1,up1,u1,d1,bl1,bu1,e1,g1,m1⟩:=gI (a:=a1) (p:=p) ha.2.1 hp;obtain⟨lo2,up2,u2,d2,bl2,bu2,e2,g2,m2⟩:=gI (a:=a2) (p:=p) ha.2.2.1 hp;obtain⟨lo3,up3,u3,d3,bl3,bu3,e3,g3,m3⟩:=gI (a:=a3) (p:=p) ha.2.2.2 hp;obtain⟨s1,o1,bs1,f1⟩:=nE bl1 bu2 g1 m2;obtain⟨s2,o2,bs2,f2⟩:=nE bl2 bu3 g2 m3;have HF:Hid (aD s1 s2 lo3 0=aD a0 a1 a2 a3/2^n.toNat):=Lib.hid (by
  rw[en,zZ,←Nat.div_div_eq_div_mul];have hq':aD a0 a1 a2 a3/18446744073709551616^((1:Int)).toNat=aD a1 a2 a3 0:=by
   rw[show 18446744073709551616^((1:Int)).toNat=18446744073709551616 by simp];obtain⟨k0,k1,k2,k3⟩:=ha;unfold aD; omega
  rw[hq'];obtain⟨v1,x1,y1,z1⟩:=e1.out;obtain⟨v2,x2,y2,z2⟩:=e2.out;obtain⟨v3,x3,y3,z3⟩:=e3.out;have f1:=f1.out;have f2:=f2.out;refine qW (m:=v1) ?_ y1;have hD:aD s1 s2 lo3 0*2^p=1*(s1*2^p)+18446744073709551616*(s2*2^p)+340282366920938463463374607431768211456*(lo3*2^p):=by
   unfold aD; simp only[Nat.add_mul,Nat.mul_add,Nat.mul_assoc,Nat.mul_zero,Nat.zero_mul,Nat.add_zero]; omega
  rw[hD];have k1:s1*2^p=lo1*2^p+up2*2^p:=by rw[f1,Nat.add_mul]
  have k2:s2*2^p=lo2*2^p+up3*2^p:=by rw[f2,Nat.add_mul]
  unfold aD;omega)
 clear e1 g1 m1 e2 g2 m2 e3 g3 m3 f1 f2;have HEN:=Lib.hid en;clear en
 go_enter func91,ntmps91
 go_wp2_with fail;refine wp_loop_rounds 4 ?_;rw[rounds_succ];go_wp2_with fail
 go_region
 go_wp2_with fail;rw[rounds_succ];go_wp2_with fail
 go_region
 go_wp2_with fail;rw[rounds_succ];go_wp2_with fail;rw[rounds_succ];go_wp2_with fail;refine bodyPost_ret (v:=.agg #[.int .u64 s1,.int .u64 s2,.int .u64 lo3,.int .u64 0]) (by simp[results,results91,go_sem]) rfl ?_;refine⟨s1,s2,lo3,0,rfl,⟨bs1,bs2,bl3,(by omega)⟩,HF.out,?_⟩
 repeat (first|exact Below.refl _ _|refine Below.drew ?_|refine Below.alloc ?_ (by first|(simp; done)|(simp; omega)) _)
theorem Nu (a0 a1 a2 a3:Nat) (n:Int) (ha:cK a0 a1 a2 a3) (h0:0<n) (hq:n/64=2) (w:World) :
  Calls prog 91 #[.agg #[.int .u64 a0,.int .u64 a1,.int .u64 a2,.int .u64 a3],.int .i64 n] w (iO (fun v=>v=aD a0 a1 a2 a3/2^n.toNat) w):=by
 obtain⟨p,hr,hp,en⟩:=Bh (by omega) 2 hq (by omega);have b1:n<256:=by omega
 have t0:decide (n≤0)=false:=decide_eq_false (by omega);obtain⟨lo2,up2,u2,d2,bl2,bu2,e2,g2,m2⟩:=gI (a:=a2) (p:=p) ha.2.2.1 hp;obtain⟨lo3,up3,u3,d3,bl3,bu3,e3,g3,m3⟩:=gI (a:=a3) (p:=p) ha.2.2.2 hp;obtain⟨s2,o2,bs2,f2⟩:=nE bl2 bu3 g2 m3;have HF:Hid (aD s2 lo3 0 0=aD a0 a1 a2 a3/2^n.toNat):=Lib.hid (by
  rw[en,zZ,←Nat.div_div_eq_div_mul];have hq':aD a0 a1 a2 a3/18446744073709551616^((2:Int)).toNat=aD a2 a3 0 0:=by
   rw[show 18446744073709551616^((2:Int)).toNat=340282366920938463463374607431768211456 by simp];obtain⟨k0,k1,k2,k3⟩:=ha;unfold aD; omega
  rw[hq'];obtain⟨v2,x2,y2,z2⟩:=e2.out;obtain⟨v3,x3,y3,z3⟩:=e3.out;have f2:=f2.out;refine qW (m:=v2) ?_ y2;have hD:aD s2 lo3 0 0*2^p=1*(s2*2^p)+18446744073709551616*(lo3*2^p):=by
   unfold aD; simp only[Nat.add_mul,Nat.mul_add,Nat.mul_assoc,Nat.mul_zero,Nat.zero_mul,Nat.add_zero]; omega
  rw[hD];have k2:s2*2^p=lo2*2^p+up3*2^p:=by rw[f2,Nat.add_mul]
  unfold aD;omega)
 clear e2 g2 m2 e3 g3 m3 f2;have HEN:=Lib.hid en;clear en
 go_enter func91,ntmps91
 go_wp2_with fail;refine wp_loop_rounds 3 ?_;rw[rounds_succ];go_wp2_with fail
 go_region
 go_wp2_with fail;rw[rounds_succ];go_wp2_with fail;rw[rounds_succ];go_wp2_with fail;refine bodyPost_ret (v:=.agg #[.int .u64 s2,.int .u64 lo3,.int .u64 0,.int .u64 0]) (by simp[results,results91,go_sem]) rfl ?_;refine⟨s2,lo3,0,0,rfl,⟨bs2,bl3,(by omega),(by omega)⟩,HF.out,?_⟩
 repeat (first|exact Below.refl _ _|refine Below.drew ?_|refine Below.alloc ?_ (by first|(simp; done)|(simp; omega)) _)
theorem Nt (a0 a1 a2 a3:Nat) (n:Int) (ha:cK a0 a1 a2 a3) (h0:0<n) (hq:n/64=3) (w:World) :
  Calls prog 91 #[.agg #[.int .u64 a0,.int .u64 a1,.int .u64 a2,.int .u64 a3],.int .i64 n] w (iO (fun v=>v=aD a0 a1 a2 a3/2^n.toNat) w):=by
 obtain⟨p,hr,hp,en⟩:=Bh (by omega) 3 hq (by omega);have b1:n<256:=by omega
 have t0:decide (n≤0)=false:=decide_eq_false (by omega);obtain⟨lo3,up3,u3,d3,bl3,bu3,e3,g3,m3⟩:=gI (a:=a3) (p:=p) ha.2.2.2 hp;have HF:Hid (aD lo3 0 0 0=aD a0 a1 a2 a3/2^n.toNat):=Lib.hid (by
  rw[en,zZ,←Nat.div_div_eq_div_mul];have hq':aD a0 a1 a2 a3/18446744073709551616^((3:Int)).toNat=aD a3 0 0 0:=by
   rw[show 18446744073709551616^((3:Int)).toNat=6277101735386680763835789423207666416102355444464034512896 by simp];obtain⟨k0,k1,k2,k3⟩:=ha;unfold aD; omega
  rw[hq'];obtain⟨v3,x3,y3,z3⟩:=e3.out;refine qW (m:=v3) ?_ y3;have hD:aD lo3 0 0 0*2^p=1*(lo3*2^p):=by
   unfold aD; simp only[Nat.add_mul,Nat.mul_add,Nat.mul_assoc,Nat.mul_zero,Nat.zero_mul,Nat.add_zero]; omega
  rw[hD];unfold aD;omega)
 clear e3 g3 m3;have HEN:=Lib.hid en;clear en
 go_enter func91,ntmps91
 go_wp2_with fail;refine wp_loop_rounds 2 ?_;rw[rounds_succ];go_wp2_with fail;rw[rounds_succ];go_wp2_with fail;refine bodyPost_ret (v:=.agg #[.int .u64 lo3,.int .u64 0,.int .u64 0,.int .u64 0]) (by simp[results,results91,go_sem]) rfl ?_;refine⟨lo3,0,0,0,rfl,⟨bl3,(by omega),(by omega),(by omega)⟩,HF.out,?_⟩
 repeat (first|exact Below.refl _ _|refine Below.drew ?_|refine Below.alloc ?_ (by first|(simp; done)|(simp; omega)) _)
theorem NX (a0 a1 a2 a3:Nat) (n:Int) (ha:cK a0 a1 a2 a3) (h0:n≤0) (w:World) :
  Calls prog 91 #[.agg #[.int .u64 a0,.int .u64 a1,.int .u64 a2,.int .u64 a3],.int .i64 n] w (iO (fun v=>v=aD a0 a1 a2 a3) w):=by
 have t0:decide (n≤0)=true:=decide_eq_true h0
 go_enter func91,ntmps91
 go_wp2_with fail;refine bodyPost_ret (v:=.agg #[.int .u64 a0,.int .u64 a1,.int .u64 a2,.int .u64 a3]) (by simp[results,results91,go_sem]) rfl ?_;refine⟨a0,a1,a2,a3,rfl,ha,rfl,?_⟩
 repeat (first|exact Below.refl _ _|refine Below.drew ?_|refine Below.alloc ?_ (by first|(simp; done)|(simp; omega)) _)
theorem VZ (a0 a1 a2 a3:Nat) (n:Int) (ha:cK a0 a1 a2 a3) (h0:256≤n) (h1:n≤9223372036854775807) (w:World) :
  Calls prog 91 #[.agg #[.int .u64 a0,.int .u64 a1,.int .u64 a2,.int .u64 a3],.int .i64 n] w (iO (fun v=>v=0) w):=by
 have t0:decide (n≤0)=false:=decide_eq_false (by omega);obtain⟨q,hq,bq,bq'⟩:∃q:Nat,n/64=(q:Int)∧4≤q∧q≤9223372036854775807:=⟨(n/64).toNat,by omega,by omega,by omega⟩
 have t1:decide ((0:Int)<4-(q:Int))=false:=decide_eq_false (by omega)
 go_enter func91,ntmps91
 go_wp2_with fail;refine wp_loop_rounds 1 ?_;rw[rounds_succ];go_wp2_with fail;refine bodyPost_ret (v:=.agg #[.int .u64 0,.int .u64 0,.int .u64 0,.int .u64 0]) (by simp[results,results91,go_sem]) rfl ?_;refine⟨0,0,0,0,rfl,⟨by omega,by omega,by omega,by omega⟩,rfl,?_⟩
 repeat (first|exact Below.refl _ _|refine Below.drew ?_|refine Below.alloc ?_ (by first|(simp; done)|(simp; omega)) _)
theorem JS (a0 a1 a2 a3:Nat) (n:Int) (ha:cK a0 a1 a2 a3) (h0:0≤n) (h1:n≤9223372036854775807) (w:World) :
  Calls prog 91 #[.agg #[.int .u64 a0,.int .u64 a1,.int .u64 a2,.int .u64 a3],.int .i64 n] w (iO (fun v=>v=aD a0 a1 a2 a3/2^n.toNat) w):=by
 by_cases hz:n≤0
 ·refine (NX a0 a1 a2 a3 n ha hz w).mono ?_
  rintro e w' ⟨s0,s1,s2,s3,he,hs,hv,hb⟩
  refine⟨s0,s1,s2,s3,he,hs,?_,hb⟩;have:=dT ha;rw[hv,show n.toNat=0 by omega,Nat.pow_zero]; omega
 ·by_cases hf:256≤n
  ·refine (VZ a0 a1 a2 a3 n ha hf h1 w).mono ?_
   rintro e w' ⟨s0,s1,s2,s3,he,hs,hv,hb⟩
   refine⟨s0,s1,s2,s3,he,hs,?_,hb⟩;rw[hv];have hp:=Nat.pow_le_pow_right (show 0<2 by omega) (show 256≤n.toNat by omega);have:=dT ha;exact (Nat.div_eq_of_lt (Nat.lt_of_lt_of_le this hp)).symm
  ·have hq:n/64=0∨n/64=1∨n/64=2∨n/64=3:=by omega
   rcases hq with h|h|h|h
   ·exact Nw a0 a1 a2 a3 n ha (by omega) h w
   ·exact Nv a0 a1 a2 a3 n ha (by omega) h w
   ·exact Nu a0 a1 a2 a3 n ha (by omega) h w
   ·exact Nt a0 a1 a2 a3 n ha (by omega) h w
end Go.Proofs.YtjjnbgoepbiojaaGreat
