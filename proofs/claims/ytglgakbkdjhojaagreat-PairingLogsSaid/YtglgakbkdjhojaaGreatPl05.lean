/- Pl05 -/
import Derived.WalkKit
import Derived.WalkLawsBesides
import Derived.WalkSpells
import Derived.ProofKit
import Derived.RegionTactic
import Derived.BigRegion
import Derived.BigQuiet
import Derived.Deep.QuietTactic
import Derived.ChangeAlike
import Derived.Laws.Externs
import Derived.LoopN
import Derived.Below
import Derived.Lib.Hide
import Derived.Shelf.Small.Bits
import Derived.Shelf.Strconv.Itoa0
import Derived.Shelf.Bits.Mul64
import Derived.StillTailTactics
import Derived.Laws.Bits64b
import Derived.Laws.Bits64
import Derived.Deep.Draws
import Derived.LoopTactic
import Derived.Deep.LoopGhost
import Derived.Deep.RegionWith
import Derived.Test.YtglgakbkdjhojaaGreatProg
import Derived.Test.YtglgakbkdjhojaaGreatPl00
import Derived.Test.YtglgakbkdjhojaaGreatPl04
set_option maxRecDepth 100000
set_option linter.unusedVariables false
set_option linter.unusedSimpArgs false
namespace Go.Proofs.YtglgakbkdjhojaaGreat
open Go.Proofs.Tryz
open Go.RowKit
theorem CC (x y c:Nat) (hc:c≤1) (w:World) :
  (callFunc 119 #[.int .u64 (x:Int),.int .u64 (y:Int),.int .u64 (c:Int)]).run prog w =
   .ok (.value (.tuple #[.int .u64 (Qb x y c:Nat),.int .u64 (Qc x y c:Nat)])) w:=by
 rw[run_callFunc_extern func119 (by kernel_rfl) (by kernel_rfl) (by kernel_rfl) (e:=add64Entry) (by kernel_rfl),run_add64 x y c (by omega) (by omega) (by omega) (by omega)];simp only[Result.andThen];unfold Qb Qc;congr 5<;>omega
theorem Ml (x y:Nat) (w:World) :
  (callFunc 119 #[.int .u64 (x:Int),.int .u64 (y:Int),.int .u64 0]).run prog w =
   .ok (.value (.tuple #[.int .u64 (Qb x y 0:Nat),.int .u64 (Qc x y 0:Nat)])) w:=CC x y 0 (by omega) w
def aEc:Array Value→Sem Value:=fun args=>do
 let (x,y,b) ←Extern.MathBitsCarry.three "Sub64" args
 pure (Extern.MathBitsCarry.pair ((x+Extern.MathBitsCarry.m64-y-b)%Extern.MathBitsCarry.m64) (if x<y+b then 1 else 0))
theorem Jr {P:Program} (x y b:Nat) (hb:b≤1) (w:World) :
  (aEc #[.int .u64 x,.int .u64 y,.int .u64 b]).run P w=.ok (.tuple #[.int .u64 (Iy x y b:Nat),.int .u64 (Iz x y b:Nat)]) w:=by
 have:b=0∨b=1:=by omega
 rcases this with rfl|rfl<;>rfl
theorem PF (x y c:Nat) (hc:c≤1) (w:World) :
  (callFunc 123 #[.int .u64 (x:Int),.int .u64 (y:Int),.int .u64 (c:Int)]).run prog w =
   .ok (.value (.tuple #[.int .u64 (Iy x y c:Nat),.int .u64 (Iz x y c:Nat)])) w:=by
 rw[run_callFunc_extern func123 (by kernel_rfl) (by kernel_rfl) (by kernel_rfl) (e:=aEc) (by kernel_rfl),Jr x y c hc];rfl
theorem Mj (x y:Nat) (w:World) :
  (callFunc 123 #[.int .u64 (x:Int),.int .u64 (y:Int),.int .u64 0]).run prog w =
   .ok (.value (.tuple #[.int .u64 (Iy x y 0:Nat),.int .u64 (Iz x y 0:Nat)])) w:=PF x y 0 (by omega) w
theorem sB {x y c:Nat} (hx:x<18446744073709551616) (hy:y<18446744073709551616) (hc:c≤1):∃d b:Nat,(∀w,(callFunc 119 #[.int .u64 (x:Int),.int .u64 (y:Int),.int .u64 (c:Int)]).run prog w =
   .ok (.value (.tuple #[.int .u64 (d:Int),.int .u64 (b:Int)])) w)∧d<18446744073709551616∧b≤1∧Hid (d+18446744073709551616*b=x+y+c) :=
 ⟨_,_,CC x y c hc,XA _ _ _,XB hx hy hc,aKA x y c⟩
theorem sA {x y:Nat} (hx:x<18446744073709551616) (hy:y<18446744073709551616):∃d b:Nat,(∀w,(callFunc 119 #[.int .u64 (x:Int),.int .u64 (y:Int),.int .u64 0]).run prog w =
   .ok (.value (.tuple #[.int .u64 (d:Int),.int .u64 (b:Int)])) w)∧d<18446744073709551616∧b≤1∧Hid (d+18446744073709551616*b=x+y) :=
 ⟨_,_,Ml x y,XA _ _ _,XB hx hy (Nat.zero_le _),aKA x y 0⟩
theorem rZ {x y c:Nat} (hx:x<18446744073709551616) (hy:y<18446744073709551616) (hc:c≤1):∃d b:Nat,(∀w,(callFunc 123 #[.int .u64 (x:Int),.int .u64 (y:Int),.int .u64 (c:Int)]).run prog w =
   .ok (.value (.tuple #[.int .u64 (d:Int),.int .u64 (b:Int)])) w)∧d<18446744073709551616∧b≤1∧Hid (d+y+c=x+18446744073709551616*b) :=
 ⟨_,_,PF x y c hc,Sg _ _ _,Sh _ _ _,aQF hx hy hc⟩
theorem RC {x y:Nat} (hx:x<18446744073709551616) (hy:y<18446744073709551616):∃d b:Nat,(∀w,(callFunc 123 #[.int .u64 (x:Int),.int .u64 (y:Int),.int .u64 0]).run prog w =
   .ok (.value (.tuple #[.int .u64 (d:Int),.int .u64 (b:Int)])) w)∧d<18446744073709551616∧b≤1∧Hid (d+y=x+18446744073709551616*b) :=
 ⟨_,_,Mj x y,Sg _ _ _,Sh _ _ _,aQF hx hy (Nat.zero_le _)⟩
def Yy (A B:Nat) (w:World) (e:Ending) (w':World):Prop :=
 ∃s0 s1 s2 s3 c:Nat,e=.returned (.tuple #[.agg #[.int .u64 s0,.int .u64 s1,.int .u64 s2,.int .u64 s3],.int .u64 c])∧bY s0 s1 s2 s3∧c≤1∧aC s0 s1 s2 s3+115792089237316195423570985008687907853269984665640564039457584007913129639936*c=A+B∧Below w.heap.size w w'
def Ys (A B:Nat) (w:World) (e:Ending) (w':World):Prop :=
 ∃s0 s1 s2 s3 c:Nat,e=.returned (.tuple #[.agg #[.int .u64 s0,.int .u64 s1,.int .u64 s2,.int .u64 s3],.int .u64 c])∧bY s0 s1 s2 s3∧c≤1∧aC s0 s1 s2 s3+B=A+115792089237316195423570985008687907853269984665640564039457584007913129639936*c∧Below w.heap.size w w'
theorem DV (a0 a1 a2 a3 b0 b1 b2 b3:Nat) (ha:bY a0 a1 a2 a3) (hb:bY b0 b1 b2 b3) (w:World) :
  Calls prog 166 #[.agg #[.int .u64 a0,.int .u64 a1,.int .u64 a2,.int .u64 a3],.agg #[.int .u64 b0,.int .u64 b1,.int .u64 b2,.int .u64 b3]] w (Yy (aC a0 a1 a2 a3) (aC b0 b1 b2 b3) w):=by
 obtain⟨s0,c0,r0,bs0,bc0,e0⟩:=sA ha.1 hb.1;obtain⟨s1,c1,r1,bs1,bc1,e1⟩:=sB ha.2.1 hb.2.1 bc0;obtain⟨s2,c2,r2,bs2,bc2,e2⟩:=sB ha.2.2.1 hb.2.2.1 bc1;obtain⟨s3,c3,r3,bs3,bc3,e3⟩:=sB ha.2.2.2 hb.2.2.2 bc2
 go_enter func166,ntmps166
 go_wp2
 refine wp_loop_rounds 5 ?_;rw[rounds_succ]
 go_wp2
 go_region
 go_wp2
 rw[rounds_succ]
 go_wp2
 go_region
 go_wp2
 rw[rounds_succ]
 go_wp2
 go_region
 go_wp2
 rw[rounds_succ]
 go_wp2
 go_region
 go_wp2
 rw[rounds_succ]
 go_wp2
 refine bodyPost_ret (v:=.tuple #[.agg #[.int .u64 s0,.int .u64 s1,.int .u64 s2,.int .u64 s3],.int .u64 c3]) (by simp[results,results166,go_sem]) rfl ?_;refine⟨_,_,_,_,_,rfl,⟨bs0,bs1,bs2,bs3⟩,bc3,by have:=e0.out; have:=e1.out; have:=e2.out; have:=e3.out; unfold aC; omega,?_⟩
 repeat (first|exact Below.refl _ _|refine Below.drew ?_|refine Below.alloc ?_ (by first|(simp; done)|(simp; omega)) _)
theorem vV (a0 a1 a2 a3 b0 b1 b2 b3:Nat) (ha:bY a0 a1 a2 a3) (hb:bY b0 b1 b2 b3) (w:World) :
  Calls prog 203 #[.agg #[.int .u64 a0,.int .u64 a1,.int .u64 a2,.int .u64 a3],.agg #[.int .u64 b0,.int .u64 b1,.int .u64 b2,.int .u64 b3]] w (Ys (aC a0 a1 a2 a3) (aC b0 b1 b2 b3) w):=by
 obtain⟨s0,c0,r0,bs0,bc0,e0⟩:=RC ha.1 hb.1;obtain⟨s1,c1,r1,bs1,bc1,e1⟩:=rZ ha.2.1 hb.2.1 bc0;obtain⟨s2,c2,r2,bs2,bc2,e2⟩:=rZ ha.2.2.1 hb.2.2.1 bc1;obtain⟨s3,c3,r3,bs3,bc3,e3⟩:=rZ ha.2.2.2 hb.2.2.2 bc2
 go_enter func203,ntmps203
 go_wp2
 refine wp_loop_rounds 5 ?_;rw[rounds_succ]
 go_wp2
 go_region
 go_wp2
 rw[rounds_succ]
 go_wp2
 go_region
 go_wp2
 rw[rounds_succ]
 go_wp2
 go_region
 go_wp2
 rw[rounds_succ]
 go_wp2
 go_region
 go_wp2
 rw[rounds_succ]
 go_wp2
 refine bodyPost_ret (v:=.tuple #[.agg #[.int .u64 s0,.int .u64 s1,.int .u64 s2,.int .u64 s3],.int .u64 c3]) (by simp[results,results203,go_sem]) rfl ?_;refine⟨_,_,_,_,_,rfl,⟨bs0,bs1,bs2,bs3⟩,bc3,by have:=e0.out; have:=e1.out; have:=e2.out; have:=e3.out; unfold aC; omega,?_⟩
 repeat (first|exact Below.refl _ _|refine Below.drew ?_|refine Below.alloc ?_ (by first|(simp; done)|(simp; omega)) _)
theorem MU {W w1:World} (hb:Below W.heap.size W w1):(∀b o,b<W.heap.size→w1.cell? ⟨b,o,none⟩=W.cell? ⟨b,o,none⟩)∧(∀b o,b<W.heap.size→w1.frozen? ⟨b,o,none⟩=W.frozen? ⟨b,o,none⟩) :=
 ⟨fun b o h=>hb.cell (p:=⟨b,o,none⟩) h,fun b o h=>hb.frozen (p:=⟨b,o,none⟩) h⟩
def Xc (a0 a1 a2 a3 b0 b1 b2 b3:Nat):Bool:=decide (a0=b0∧a1=b1∧a2=b2∧a3=b3)
theorem vF (d:Nat) (a0 a1 a2 a3 b0 b1 b2 b3:Nat) (w:World):(Op.equalIn (d+1+1) 24 (.agg #[.int .u64 a0,.int .u64 a1,.int .u64 a2,.int .u64 a3]) (.agg #[.int .u64 b0,.int .u64 b1,.int .u64 b2,.int .u64 b3])).run prog w=.ok (Xc a0 a1 a2 a3 b0 b1 b2 b3) w:=by
 have h0:∀(x y:Int) (w:World),(Op.equalIn (d+1) 22 (.int .u64 x) (.int .u64 y)).run prog w=.ok (x==y) w:=fun x y w=>run_equalIn_int w d 22 .u64 .u64 x y underlying22
 rw[Op.equalIn];simp only[Sem.run_bind,run_underlying underlying24,Result.andThen_ok,Tryz.sizeOf22];simp[Std.Legacy.Range.forIn_eq_forIn_range',Std.Legacy.Range.size,List.range',part,h0,Sem.run_bind,Result.andThen_ok];unfold Xc
 by_cases q0:a0=b0<;>by_cases q1:a1=b1<;>by_cases q2:a2=b2<;>by_cases q3:a3=b3<;>simp[q0,q1,q2,q3]<;>omega
theorem Gu:prog.eqGuardType prog.depth 24=false:=by kernel_rfl
theorem tB {a0 a1 a2 a3 b0 b1 b2 b3:Nat} (ha:bY a0 a1 a2 a3) (hb:bY b0 b1 b2 b3):Xc a0 a1 a2 a3 b0 b1 b2 b3=true↔aC a0 a1 a2 a3=aC b0 b1 b2 b3:=by
 unfold Xc; rw[decide_eq_true_iff];exact⟨fun⟨h0,h1,h2,h3⟩=>by rw[h0,h1,h2,h3],YV ha hb⟩
def fB (A B:Nat):Int:=if A=B then 0 else if A<B then -1 else 1
end Go.Proofs.YtglgakbkdjhojaaGreat
namespace Go.Proofs
open Go.Shelf
def Tryz.lays134_ren:Go.Shelf.Ren:=⟨fun|134=>273|129=>262|n=>n,fun|53=>22|3=>3|4=>4|46=>139|5=>5|9=>9|n=>n,fun|n=>n⟩
theorem Tryz.lays134:Go.Proofs.Lays.n134 prog Tryz.lays134_ren:={
 mixed:=by kernel_rfl
 f129:=func262.trans (congrArg some (by kernel_rfl))
 f134:=func273.trans (congrArg some (by kernel_rfl))
 t3:=underlying3
 a3:=Tryz.isAgg3
 z3:=Tryz.sizeOf3
 v3:=Tryz.zeroValue3
 t4:=underlying4
 a4:=Tryz.isAgg4
 z4:=Tryz.sizeOf4
 v4:=Tryz.zeroValue4
 t5:=underlying5
 a5:=Tryz.isAgg5
 z5:=Tryz.sizeOf5
 v5:=Tryz.zeroValue5
 t9:=underlying9
 a9:=Tryz.isAgg9
 z9:=Tryz.sizeOf9
 v9:=Tryz.zeroValue9
 t46:=underlying139
 a46:=Tryz.isAgg139
 z46:=Tryz.sizeOf139
 v46:=Tryz.zeroValue139
 t53:=underlying22
 a53:=Tryz.isAgg22
 z53:=Tryz.sizeOf22
 v53:=Tryz.zeroValue22 }
theorem Tryz.bits_LeadingZeros64 (x:Int) (w:World) (h0:0≤x) (h1:x≤18446744073709551615) :
  Calls prog 273 #[.int .u64 x] w fun e w'=>e=.returned (.int .i64 (64-(Lib.bitLen x.toNat:Int)))∧w'=w:=Any.bits_LeadingZeros64 Tryz.lays134 x w h0 h1
def Tryz.lays129_ren:Go.Shelf.Ren:=⟨fun|129=>262|n=>n,fun|53=>22|3=>3|4=>4|46=>139|5=>5|9=>9|n=>n,fun|n=>n⟩
theorem Tryz.lays129:Go.Proofs.Lays.n129 prog Tryz.lays129_ren:={
 mixed:=by kernel_rfl
 f129:=func262.trans (congrArg some (by kernel_rfl))
 t3:=underlying3
 a3:=Tryz.isAgg3
 z3:=Tryz.sizeOf3
 v3:=Tryz.zeroValue3
 t4:=underlying4
 a4:=Tryz.isAgg4
 z4:=Tryz.sizeOf4
 v4:=Tryz.zeroValue4
 t5:=underlying5
 a5:=Tryz.isAgg5
 z5:=Tryz.sizeOf5
 v5:=Tryz.zeroValue5
 t9:=underlying9
 a9:=Tryz.isAgg9
 z9:=Tryz.sizeOf9
 v9:=Tryz.zeroValue9
 t46:=underlying139
 a46:=Tryz.isAgg139
 z46:=Tryz.sizeOf139
 v46:=Tryz.zeroValue139
 t53:=underlying22
 a53:=Tryz.isAgg22
 z53:=Tryz.sizeOf22
 v53:=Tryz.zeroValue22 }
theorem Tryz.bits_Len64 (x:Int) (w:World) (h0:0≤x) (h1:x≤18446744073709551615) :
  Calls prog 262 #[.int .u64 x] w fun e w'=>e=.returned (.int .i64 (Lib.bitLen x.toNat))∧w'=w:=Any.bits_Len64 Tryz.lays129 x w h0 h1
def Tryz.lays264_ren:Go.Shelf.Ren:=⟨fun|264=>175|n=>n,fun|53=>22|46=>139|n=>n,fun|n=>n⟩
theorem Tryz.lays264:Go.Proofs.Lays.n264 prog Tryz.lays264_ren:={
 mixed:=by kernel_rfl
 f264:=func175.trans (congrArg some (by kernel_rfl))
 t46:=underlying139
 a46:=Tryz.isAgg139
 z46:=Tryz.sizeOf139
 v46:=Tryz.zeroValue139
 t53:=underlying22
 a53:=Tryz.isAgg22
 z53:=Tryz.sizeOf22
 v53:=Tryz.zeroValue22 }
open Go.RowKit Go.Lib in
theorem Tryz.bits_Mul64 (x y:Nat) (hx:x<18446744073709551616) (hy:y<18446744073709551616) (w:World) :
  Calls prog 175 #[.int .u64 x,.int .u64 y] w fun e w'=>e=.returned (.tuple #[.int .u64 ((x*y/18446744073709551616:Nat):Int),.int .u64 ((x*y%18446744073709551616:Nat):Int)])∧w'=w:=Any.bits_Mul64 Tryz.lays264 x y hx hy w
end Go.Proofs
namespace Go.Proofs.YtglgakbkdjhojaaGreat
open Go.Proofs.Tryz
open Go.RowKit
theorem Fr (x y:Nat) (hx:x<18446744073709551616) (hy:y<18446744073709551616) (w:World) :
  Calls prog 175 #[.int .u64 x,.int .u64 y] w fun e w'=>e=.returned (.tuple #[.int .u64 (aHu x y:Nat),.int .u64 (aHt x y:Nat)])∧w'=w :=
 Tryz.bits_Mul64 x y hx hy w
theorem Gq {x y:Nat} (hx:x<18446744073709551616) (hy:y<18446744073709551616):∃h l:Nat,(∀w,Calls prog 175 #[.int .u64 x,.int .u64 y] w fun e w'=>e=.returned (.tuple #[.int .u64 (h:Nat),.int .u64 (l:Nat)])∧w'=w)∧h≤18446744073709551614∧l<18446744073709551616∧Hid (l+18446744073709551616*h=x*y) :=
 ⟨_,_,Fr x y hx hy,aOu hx hy,aOt _ _,bCw x y⟩
def aZN (A y:Nat) (w:World) (e:Ending) (w':World):Prop :=
 ∃s0 s1 s2 s3 o:Nat,e=.returned (.tuple #[.int .u64 o,.agg #[.int .u64 s0,.int .u64 s1,.int .u64 s2,.int .u64 s3]])∧bY s0 s1 s2 s3∧o<18446744073709551616∧aC s0 s1 s2 s3+115792089237316195423570985008687907853269984665640564039457584007913129639936*o=A*y∧Below w.heap.size w w'
theorem Xa {x y o:Nat} (hx:x<18446744073709551616) (hy:y<18446744073709551616) (ho:o<18446744073709551616):∃h l d b p:Nat,(∀w,Calls prog 175 #[.int .u64 x,.int .u64 y] w fun e w'=>e=.returned (.tuple #[.int .u64 (h:Nat),.int .u64 (l:Nat)])∧w'=w) ∧
  (∀w,(callFunc 119 #[.int .u64 (l:Int),.int .u64 (o:Int),.int .u64 0]).run prog w=.ok (.value (.tuple #[.int .u64 (d:Int),.int .u64 (b:Int)])) w)∧h≤18446744073709551614∧b≤1∧d<18446744073709551616∧p<18446744073709551616∧((h:Int)+(b:Int)=(p:Int))∧Hid (d+18446744073709551616*p=x*y+o):=by
 obtain⟨h,l,r,hh,hl,e⟩:=Gq hx hy;obtain⟨d,b,r',hd,hb,e'⟩:=sA hl ho;exact⟨h,l,d,b,h+b,r,r',hh,hb,hd,by omega,by omega,Lib.hid (by have:=e.out; have:=e'.out; omega)⟩
theorem aYg {x y:Nat} (hx:x<18446744073709551616) (hy:y<18446744073709551616):∃h l d b p:Nat,(∀w,Calls prog 175 #[.int .u64 x,.int .u64 y] w fun e w'=>e=.returned (.tuple #[.int .u64 (h:Nat),.int .u64 (l:Nat)])∧w'=w) ∧
  (∀w,(callFunc 119 #[.int .u64 (l:Int),.int .u64 0,.int .u64 0]).run prog w=.ok (.value (.tuple #[.int .u64 (d:Int),.int .u64 (b:Int)])) w)∧h≤18446744073709551614∧b≤1∧d<18446744073709551616∧p<18446744073709551616∧((h:Int)+(b:Int)=(p:Int))∧Hid (d+18446744073709551616*p=x*y):=by
 obtain⟨h,l,d,b,p,r,r',hh,hb,hd,hp,q,e⟩:=Xa hx hy (by omega:0<18446744073709551616);exact⟨h,l,d,b,p,r,r',hh,hb,hd,hp,q,e⟩
theorem ZA (a0 a1 a2 a3 y:Nat) (ha:bY a0 a1 a2 a3) (hy:y<18446744073709551616) (w:World) :
  Calls prog 271 #[.agg #[.int .u64 a0,.int .u64 a1,.int .u64 a2,.int .u64 a3],.int .u64 y] w (aZN (aC a0 a1 a2 a3) y w):=by
 obtain⟨h0,l0,d0,b0,o0,m0,r0,bh0,bb0,bd0,bo0,q0,e0⟩:=aYg ha.1 hy;obtain⟨h1,l1,d1,b1,o1,m1,r1,bh1,bb1,bd1,bo1,q1,e1⟩:=Xa ha.2.1 hy bo0;obtain⟨h2,l2,d2,b2,o2,m2,r2,bh2,bb2,bd2,bo2,q2,e2⟩:=Xa ha.2.2.1 hy bo1;obtain⟨h3,l3,d3,b3,o3,m3,r3,bh3,bb3,bd3,bo3,q3,e3⟩:=Xa ha.2.2.2 hy bo2;have HF:Hid (aC d0 d1 d2 d3+115792089237316195423570985008687907853269984665640564039457584007913129639936*o3=aC a0 a1 a2 a3*y):=Lib.hid (by
  have:=e0.out; have:=e1.out; have:=e2.out; have:=e3.out;unfold aC; simp only[Nat.add_mul,Nat.mul_assoc]; omega)
 clear e0 e1 e2 e3
 go_enter func271,ntmps271
 go_wp2_with fail;refine wp_loop_rounds 5 ?_;rw[rounds_succ];go_wp2_with fail;refine (m0 _).mono ?_
 rintro e w' ⟨rfl,rfl⟩
 go_wp2_with fail;rw[rounds_succ];go_wp2_with fail;refine (m1 _).mono ?_
 rintro e w' ⟨rfl,rfl⟩
 go_wp2_with fail;rw[rounds_succ];go_wp2_with fail;refine (m2 _).mono ?_
 rintro e w' ⟨rfl,rfl⟩
 go_wp2_with fail;rw[rounds_succ];go_wp2_with fail;refine (m3 _).mono ?_
 rintro e w' ⟨rfl,rfl⟩
 go_wp2_with fail;rw[rounds_succ];go_wp2_with fail
 go_region
 all_goals (
  go_wp2
  refine bodyPost_ret (v:=.tuple #[.int .u64 o3,.agg #[.int .u64 d0,.int .u64 d1,.int .u64 d2,.int .u64 d3]]) (by simp[results,results271,go_sem]) rfl ?_;refine⟨_,_,_,_,_,rfl,⟨bd0,bd1,bd2,bd3⟩,bo3,HF.out,?_⟩
  repeat (first|exact Below.refl _ _|refine Below.drew ?_|refine Below.alloc ?_ (by first|(simp; done)|(simp; omega)) _))
theorem PA (x:Nat) (h:x<18446744073709551616):IntKind.u64.wrap (x:Int)=(x:Int):=by rw[IntKind.wrap_u64]; omega
theorem lN (x:Nat):IntKind.u64.wrap (x:Int)=((x%18446744073709551616:Nat):Int):=by rw[IntKind.wrap_u64]; omega
theorem kY (x S:Nat):(x:Int)*2^S=((x*2^S:Nat):Int):=by rw[Int.natCast_mul,Int.natCast_pow]; rfl
theorem CL (S:Nat) (h:S≤63):2^(64-S)*2^S=18446744073709551616:=by
 rw[←Nat.pow_add,show 64-S+S=64 by omega]
theorem aJo {hi lo y S:Nat} (h2:hi<y) (hl:lo<18446744073709551616) (hS:S≤63) (hY:y*2^S<18446744073709551616) :
  ∃u L:Nat,bits .or .u64 (IntKind.u64.wrap ((hi:Int)*2^S)) ((lo:Int)/2^(64-S))=(u:Int)∧IntKind.u64.wrap ((lo:Int)*2^S)=(L:Int)∧u<y*2^S∧L<18446744073709551616∧u*18446744073709551616+L=(hi*18446744073709551616+lo)*2^S:=by
 have hp:0<2^S:=Nat.two_pow_pos S;have hps:=CL S hS;have hb:lo/2^(64-S)<2^S:=by
  rw[Nat.div_lt_iff_lt_mul (Nat.two_pow_pos _),Nat.mul_comm,hps]; exact hl
 have hhi:hi*2^S+2^S≤y*2^S:=by
  have:=Nat.mul_le_mul_right (2^S) (show hi+1≤y by omega);rw[Nat.add_mul]at this; omega
 have hd:lo*2^S/18446744073709551616=lo/2^(64-S):=by
  rw[←hps]; exact Nat.mul_div_mul_right _ _ hp
 refine⟨hi*2^S+lo/2^(64-S),lo*2^S%18446744073709551616,?_,?_,?_,by omega,?_⟩
 ·rw[kY,PA _ (by omega),show ((lo:Int)/2^(64-S))=((lo/2^(64-S):Nat):Int) by rw[Int.natCast_ediv,Int.natCast_pow]; rfl,
   bits_or_u64_nat _ _ (by omega) (by omega),Nat.mul_comm hi,Nat.two_pow_add_eq_or_of_lt hb]
 ·rw[kY,lN]
 ·omega
 ·rw[Nat.add_mul,←hd];have e:(hi*18446744073709551616+lo)*2^S=hi*2^S*18446744073709551616+lo*2^S:=by
   rw[Nat.add_mul,Nat.mul_right_comm]
  rw[e]; omega
theorem WH {Y:Nat} (h:Y<18446744073709551616):∃a b:Nat,(Y:Int)/4294967296=(a:Int)∧bits .and .u64 (Y:Int) 4294967295=(b:Int)∧a<4294967296∧b<4294967296∧Y=a*4294967296+b:=by
 refine⟨Y/4294967296,Y%4294967296,by omega,?_,by omega,by omega,by omega⟩;have h':=bits_and_u64_nat Y 4294967295 h (by omega);rw[show Y &&& 4294967295=Y%4294967296 from Nat.and_two_pow_sub_one_eq_mod Y 32]at h';exact h'
theorem bGS (u y1:Nat) (h:0<y1):∃q r:Nat,(u:Int)/(y1:Int)=(q:Int)∧(u:Int)-(q:Int)*(y1:Int)=(r:Int)∧q*y1+r=u∧r<y1:=by
 have e:=Nat.div_add_mod u y1;rw[Nat.mul_comm]at e;refine⟨u/y1,u%y1,(Int.natCast_ediv u y1).symm,?_,e,Nat.mod_lt _ h⟩;rw[←Int.natCast_mul]; omega
def KI (y1 y0 u u1 q r:Nat):Prop:=q*y1+r=u∧(u*4294967296+u1)/(y1*4294967296+y0)≤q∧q≤4294967297∧r<4294967296
structure KS (y1 y0 u u1:Nat):Prop where
 a1:y1<4294967296
 a2:2147483648≤y1
 a3:y0<4294967296
 a4:u<y1*4294967296+y0
 a5:u1<4294967296
section
variable {y1 y0 u u1 q r:Nat}
theorem VI (q y1 y0:Nat):q*(y1*4294967296+y0)=q*y1*4294967296+q*y0:=by rw[Nat.mul_add,Nat.mul_assoc]
theorem aHR (s:KS y1 y0 u u1):0<y1*4294967296+y0:=by have:=s.a2; omega
theorem aHS (s:KS y1 y0 u u1) (e:q*y1+r=u) (h:r<y1):KI y1 y0 u u1 q r:=by
 obtain⟨b1,b2,b3,b4,b5⟩:=s;refine⟨e,?_,?_,by omega⟩
 ·rw[←Nat.lt_succ_iff,Nat.div_lt_iff_lt_mul (by omega),VI];have:(q+1)*y1=q*y1+y1:=by rw[Nat.add_mul,Nat.one_mul]
  rw[Nat.succ_eq_add_one,this]; omega
 ·rcases Nat.lt_or_ge q 4294967298 with h'|h'
  ·omega
  ·have:=Nat.mul_le_mul_right y1 h';omega
theorem bCJ (s:KS y1 y0 u u1):(u*4294967296+u1)/(y1*4294967296+y0)<4294967296:=by
 obtain⟨b1,b2,b3,b4,b5⟩:=s;rw[Nat.div_lt_iff_lt_mul (by omega)]; omega
theorem aRL (s:KS y1 y0 u u1) (e:q*y1+r=u) (h:q*y0≤4294967296*r+u1):q≤(u*4294967296+u1)/(y1*4294967296+y0):=by
 rw[Nat.le_div_iff_mul_le (aHR s),VI]; omega
theorem aWR (s:KS y1 y0 u u1) (k:KI y1 y0 u u1 q r) (h:q*y0≤4294967296*r+u1):q=(u*4294967296+u1)/(y1*4294967296+y0) :=
 Nat.le_antisymm (aRL s k.1 h) k.2.1
theorem bCK (s:KS y1 y0 u u1) (k:KI y1 y0 u u1 q r) (h:4294967296*r+u1<q*y0):(u*4294967296+u1)/(y1*4294967296+y0)+1≤q:=by
 rw[Nat.succ_le_iff,Nat.div_lt_iff_lt_mul (aHR s),VI]; have:=k.1; omega
theorem aWS (s:KS y1 y0 u u1) (h:4294967296≤q):(u*4294967296+u1)/(y1*4294967296+y0)+1≤q:=by have:=bCJ s; omega
theorem Vu (h:1≤q):(q-1)*y1+(r+y1)=q*y1+r:=by
 obtain⟨p,rfl⟩:∃p,q=p+1:=⟨q-1,by omega⟩
 rw[Nat.add_sub_cancel,Nat.add_mul,Nat.one_mul]; omega
theorem Vv (k:KI y1 y0 u u1 q r) (h:(u*4294967296+u1)/(y1*4294967296+y0)+1≤q) (h':r+y1<4294967296):KI y1 y0 u u1 (q-1) (r+y1) :=
 ⟨by rw[Vu (Nat.le_trans (Nat.le_add_left 1 _) h)]; exact k.1,Nat.le_sub_one_of_lt h,by have:=k.2.2.1; omega,h'⟩
theorem Ga (s:KS y1 y0 u u1) (k:KI y1 y0 u u1 q r) (h:(u*4294967296+u1)/(y1*4294967296+y0)+1≤q) (h':4294967296≤r+y1):q-1=(u*4294967296+u1)/(y1*4294967296+y0):=by
 have e:=Vu (y1:=y1) (r:=r) (Nat.le_trans (Nat.le_add_left 1 _) h);refine Nat.le_antisymm (aRL s (e.trans k.1) ?_) (Nat.le_sub_one_of_lt h);have:=CT (show q-1≤4294967296 by have:=k.2.2.1; omega) (show y0≤4294967295 by have:=s.a3; omega);omega
end
theorem aPB {Y u u1:Nat} (hY:Y<18446744073709551616) (hp:0<Y) :
  ∃m:Nat,IntKind.u64.wrap (IntKind.u64.wrap (IntKind.u64.wrap ((u:Int)*4294967296)+(u1:Int))-IntKind.u64.wrap (((u*4294967296+u1)/Y:Nat)*(Y:Int)))=(m:Int)∧m<Y∧(u*4294967296+u1)/Y*Y+m=u*4294967296+u1:=by
 have e:=Nat.div_add_mod (u*4294967296+u1) Y;have hm:=Nat.mod_lt (u*4294967296+u1) hp;rw[Nat.mul_comm]at e;refine⟨(u*4294967296+u1)%Y,?_,hm,e⟩;rw[←Int.natCast_mul];generalize (u*4294967296+u1)/Y*Y=P at *;generalize (u*4294967296+u1)%Y=m at *;simp only[IntKind.wrap_u64];omega
theorem aPC {U Y y S V Q1 Q0 u L m R u1 u0:Nat} (hy:Y=y*2^S) (hU:U=V*2^S) (e:u*18446744073709551616+L=U) (eL:L=u1*4294967296+u0)
  (e1:Q1*Y+m=u*4294967296+u1) (e0:Q0*Y+R=m*4294967296+u0) (hR:R<Y):Q1*4294967296+Q0=V/y∧R/2^S=V%y:=by
 have hp:0<2^S:=Nat.two_pow_pos S;have hYp:0<Y:=by omega
 have hYU:U=(Q1*4294967296+Q0)*Y+R:=by
  have:(Q1*4294967296+Q0)*Y=Q1*Y*4294967296+Q0*Y:=by rw[Nat.add_mul,Nat.mul_right_comm]
  rw[this]; omega
 have hq:U/Y=Q1*4294967296+Q0:=by
  rw[hYU,Nat.mul_comm,Nat.mul_add_div hYp,Nat.div_eq_of_lt hR,Nat.add_zero]
 have hr:U%Y=R:=by
  rw[hYU,Nat.mul_comm,Nat.mul_add_mod,Nat.mod_eq_of_lt hR]
 constructor
 ·rw[←hq,hU,hy,Nat.mul_div_mul_right _ _ hp]
 ·rw[←hr,hU,hy,Nat.mul_mod_mul_right,Nat.mul_div_cancel _ hp]
theorem aHN {y:Nat} (h0:1≤y) (hy:y<18446744073709551616):Lib.bitLen y=y.log2+1∧2^y.log2≤y∧y<2^(y.log2+1)∧y.log2≤63:=by
 have a:=Nat.log2_self_le (show y≠0 by omega);have b:y<2^(y.log2+1):=Nat.lt_log2_self;refine⟨?_,a,b,?_⟩
 ·rw[Lib.bitLen_shift y.log2 y a hy];have:y/2^y.log2=1:=by
   rw[Nat.pow_succ]at b;exact (Nat.div_eq_iff (Nat.two_pow_pos _)).2 ⟨by omega,by omega⟩
  rw[this]; rfl
 ·have:=(Nat.log2_lt (show y≠0 by omega)).2 (show y<2^64 from hy);omega
theorem bDx {y:Nat} (h0:1≤y) (hy:y<18446744073709551616):∃S:Nat,(∀w,Calls prog 273 #[.int .u64 y] w fun e w'=>e=.returned (.int .i64 S)∧w'=w)∧S≤63∧9223372036854775808≤y*2^S∧y*2^S<18446744073709551616:=by
 obtain⟨hl,ha,hb,hk⟩:=aHN h0 hy;refine⟨63-y.log2,fun w => ?_,by omega,?_,?_⟩
 ·have:=Tryz.bits_LeadingZeros64 (y:Int) w (by omega) (by omega);rw[Int.toNat_natCast,hl,show (64-((y.log2+1:Nat):Int))=((63-y.log2:Nat):Int) by omega]at this;exact this
 ·have:=Nat.mul_le_mul_right (2^(63-y.log2)) ha;rw[←Nat.pow_add,show y.log2+(63-y.log2)=63 by omega]at this;exact this
 ·have:=Nat.mul_lt_mul_of_pos_right hb (Nat.two_pow_pos (63-y.log2));rw[←Nat.pow_add,show y.log2+1+(63-y.log2)=64 by omega]at this;exact this
def Yw (V y:Nat) (w:World) (e:Ending) (w':World):Prop :=
 ∃n:Nat,e=.returned (.tuple #[.int .u64 (V/y:Nat),.int .u64 (V%y:Nat)])∧w'=w.drewN n
theorem Gp {y1 y0 u u1 Y:Nat} (ks:KS y1 y0 u u1) (hY:Y<18446744073709551616) (eY:Y=y1*4294967296+y0):∃q r p Q m:Nat,
  (u:Int)/(y1:Int)=(q:Int)∧(q:Int)*(y1:Int)=(p:Int)∧(u:Int)-(p:Int)=(r:Int)∧q≤4294967297∧r<4294967296∧p≤u∧Hid (KI y1 y0 u u1 q r) ∧
  IntKind.u64.wrap (IntKind.u64.wrap (IntKind.u64.wrap ((u:Int)*4294967296)+(u1:Int))-IntKind.u64.wrap ((Q:Int)*(Y:Int)))=(m:Int) ∧
  Q<4294967296∧m<Y∧Hid (Q=(u*4294967296+u1)/(y1*4294967296+y0))∧Hid (Q*Y+m=u*4294967296+u1):=by
 have b2:0<y1:=by have:=ks.a2; omega
 obtain⟨q,r,E8,E9,eq,hr⟩:=bGS u y1 b2;have ki:=aHS ks eq hr;obtain⟨m,Em,hm,em⟩:=aPB (u:=u) (u1:=u1) hY (by have:=ks.a2; omega);have hQ:=bCJ ks;rw[←eY]at hQ;refine⟨q,r,q*y1,(u*4294967296+u1)/Y,m,E8,(Int.natCast_mul q y1).symm,by rw[Int.natCast_mul]; exact E9,ki.2.2.1,ki.2.2.2,by omega,Lib.hid ki,Em,hQ,hm,Lib.hid (by rw[←eY]),Lib.hid em⟩
def aSL (u1 q r t:Nat):Prop:=decide ((4294967296:Int)≤(q:Int))=true∨decide ((4294967296:Int)≤(q:Int))=false∧decide ((4294967296:Int)*(r:Int)+(u1:Int)<(t:Int))=true∧t<18446744073709551616
theorem aQD {y1 y0 u u1 q r:Nat} (s:KS y1 y0 u u1) (k:KI y1 y0 u u1 q r) {Q:Nat} (hQ:Q=(u*4294967296+u1)/(y1*4294967296+y0)) :
  ∃t v:Nat,(q:Int)*(y0:Int)=(t:Int)∧(r:Int)+(y1:Int)=(v:Int)∧v<18446744073709551616 ∧
  ((∃p:Nat,(q:Int)-1=(p:Int)∧p<q∧decide ((4294967296:Int)≤(v:Int))=false∧aSL u1 q r t∧Hid (KI y1 y0 u u1 p v)) ∨
  ((q:Int)-1=(Q:Int)∧1≤q∧decide ((4294967296:Int)≤(v:Int))=true∧aSL u1 q r t)∨(q=Q∧decide ((4294967296:Int)≤(q:Int))=false∧decide ((4294967296:Int)*(r:Int)+(u1:Int)<(t:Int))=false∧t<18446744073709551616)):=by
 have b1:=s.a1;have b3:=s.a3;have b5:=s.a5;have br:r<4294967296:=k.2.2.2;refine⟨q*y0,r+y1,(Int.natCast_mul q y0).symm,by omega,by omega,?_⟩
 rcases Nat.lt_or_ge q 4294967296 with h|h
 ·have hp:=CT (show q≤4294967295 by omega) (show y0≤4294967295 by omega)
  rcases Nat.lt_or_ge (4294967296*r+u1) (q*y0)with h'|h'
  ·have hn:=bCK s k h';have h1:=Nat.le_trans (Nat.le_add_left 1 _) hn
   rcases Nat.lt_or_ge (r+y1) 4294967296 with g|g
   ·exact Or.inl ⟨q-1,by omega,by omega,decide_eq_false (by omega),Or.inr ⟨decide_eq_false (by omega),decide_eq_true (by omega),by omega⟩,Lib.hid (Vv k hn g)⟩
   ·have:=(Ga s k hn g).trans hQ.symm;exact Or.inr (Or.inl ⟨by omega,h1,decide_eq_true (by omega),Or.inr ⟨decide_eq_false (by omega),decide_eq_true (by omega),by omega⟩⟩)
  ·exact Or.inr (Or.inr ⟨(aWR s k h').trans hQ.symm,decide_eq_false (by omega),decide_eq_false (by omega),by omega⟩)
 ·have hn:=aWS s h
  rcases Nat.lt_or_ge (r+y1) 4294967296 with g|g
  ·exact Or.inl ⟨q-1,by omega,by omega,decide_eq_false (by omega),Or.inl (decide_eq_true (by omega)),Lib.hid (Vv k hn g)⟩
  ·have:=(Ga s k hn g).trans hQ.symm;exact Or.inr (Or.inl ⟨by omega,by omega,decide_eq_true (by omega),Or.inl (decide_eq_true (by omega))⟩)
set_option maxHeartbeats 4000000 in
theorem aCF (hi lo y:Nat) (h1:1≤hi) (h2:hi<y) (hl:lo<18446744073709551616) (hy:y<18446744073709551616) (w:World) :
  Calls prog 270 #[.int .u64 hi,.int .u64 lo,.int .u64 y] w (Yw (hi*18446744073709551616+lo) y w):=by
 obtain⟨S,m,hS,hY1,hY2⟩:=bDx (show 1≤y by omega) hy;obtain⟨u,L,E4,E5,hu,hL,eU⟩:=aJo h2 hl hS hY2;obtain⟨Y,eY⟩:∃Y,Y=y*2^S:=⟨_,rfl⟩
 rw[←eY]at hY1 hY2 hu;have E1:IntKind.u64.wrap ((y:Int)*2^S)=(Y:Int):=by rw[kY,←eY,PA _ hY2]
 obtain⟨y1,y0,E2,E3,b1,b0,eYh⟩:=WH hY2;obtain⟨u1,u0,E6,E7,c1,c0,eLh⟩:=WH hL;have ks:KS y1 y0 u u1:=⟨b1,by omega,b0,by omega,c1⟩;obtain⟨q,r,p,Q1,m1,F1,F2,F3,F4,F5,F6,K1,F7,F8,F9,F10,F11⟩:=Gp ks hY2 eYh;have ks':KS y1 y0 m1 u0:=⟨b1,by omega,b0,by omega,c0⟩;obtain⟨q',r',p',Q0,R,G1,G2,G3,G4,G5,G6,K2,G7,G8,G9,G10,G11⟩:=Gp ks' hY2 eYh;obtain⟨j1,j2⟩:=aPC eY rfl eU eLh F11.out G11.out G9;have b2:0<y1:=by have:=ks.a2; omega
 have b3:0<(y1:Int):=by omega
 have bu:u<18446744073709551616:=by omega
 have bm:m1<18446744073709551616:=by omega
 have J2:(R:Int)/2^S=(((hi*18446744073709551616+lo)%y:Nat):Int):=by rw[←j2,Int.natCast_ediv,Int.natCast_pow]; rfl
 have J1:(Q1:Int)*4294967296+(Q0:Int)=(((hi*18446744073709551616+lo)/y:Nat):Int):=by rw[←j1]; omega
 have HJ2:=Lib.hid J2; have HJ1:=Lib.hid J1;have Hks:=Lib.hid ks; have Hks':=Lib.hid ks';clear eU eYh eLh eY j1 j2 ks ks' J1 J2 hY1 F11 G11 hu;have t1:((y:Int)==0)=false:=by simp; omega
 have t2:((hi:Int)==0)=false:=by simp; omega
 go_enter func270,ntmps270
 go_wp2_with fail;refine (m _).mono ?_
 rintro e w' ⟨rfl,rfl⟩
 go_wp2_with fail;clear t1 t2 E1 E2 E3 E4 E5 E6 E7 F1 F2 F3 h1 h2 m
 go_loop [15,16] (fun a b=>∃q r:Nat,a=.int .u64 q∧b=.int .u64 r∧Hid (KI y1 y0 u u1 q r)) (fun a _=>(intOf a).toNat)
 case atStart=>exact⟨q,r,rfl,rfl,K1⟩
 case round =>
  obtain⟨q2,r2,rfl,rfl,k⟩:=hrel;have d1:q2≤4294967297:=k.out.2.2.1;have d2:r2<4294967296:=k.out.2.2.2;obtain⟨t,v,ht,hv,bv,hc⟩:=aQD Hks.out k.out F10.out
  rcases hc with⟨p2,hp,lp,lv,g2|⟨g2,g3,g5⟩,g4⟩|⟨hp,lp,lv,g2|⟨g2,g3,g5⟩⟩|⟨rfl,g1,g2,g5⟩
  ·go_wp2_with fail
   go_round
   case rel=>exact⟨p2,v,rfl,rfl,g4⟩
   case measure=>simp[intOf]; omega
  ·go_wp2_with fail
   go_round
   case rel=>exact⟨p2,v,rfl,rfl,g4⟩
   case measure=>simp[intOf]; omega
  all_goals (
   go_wp2_with fail;clear ht hv bv d1 d2 k F7 G1 G2 G3
   go_loop [18,16] (fun a b=>∃q r:Nat,a=.int .u64 q∧b=.int .u64 r∧Hid (KI y1 y0 m1 u0 q r)) (fun a _=>(intOf a).toNat)
   case atStart=>exact⟨q',r',rfl,rfl,K2⟩
   case round =>
    obtain⟨q3,r3,rfl,rfl,k⟩:=hrel;have d1:q3≤4294967297:=k.out.2.2.1;have d2:r3<4294967296:=k.out.2.2.2;obtain⟨t,v,ht,hv,bv,hc⟩:=aQD Hks'.out k.out G10.out
    rcases hc with⟨p2,hp,lp,lv,g2|⟨g2,g3,g5⟩,g4⟩|⟨hp,lp,lv,g2|⟨g2,g3,g5⟩⟩|⟨rfl,g1,g2,g5⟩
    ·go_wp2_with fail
     go_round
     case rel=>exact⟨p2,v,rfl,rfl,g4⟩
     case measure=>simp[intOf]; omega
    ·go_wp2_with fail
     go_round
     case rel=>exact⟨p2,v,rfl,rfl,g4⟩
     case measure=>simp[intOf]; omega
    all_goals (
     go_wp2_with fail
     go_ret2
     exact⟨0,by rw[HJ1.out,HJ2.out]; rfl,rfl⟩))
theorem Pk (lo y:Nat) (h2:0<y) (hl:lo<18446744073709551616) (hy:y<18446744073709551616) (w:World) :
  Calls prog 270 #[.int .u64 0,.int .u64 lo,.int .u64 y] w (Yw lo y w):=by
 obtain⟨q,E1⟩:∃q:Nat,(lo:Int)/(y:Int)=(q:Int):=⟨lo/y,(Int.natCast_ediv lo y).symm⟩
 obtain⟨r,E2⟩:∃r:Nat,(lo:Int)%(y:Int)=(r:Int):=⟨lo%y,(Int.natCast_emod lo y).symm⟩
 have e1:q=lo/y:=by rw[←Int.natCast_ediv]at E1; exact (Int.ofNat.inj E1).symm
 have e2:r=lo%y:=by rw[←Int.natCast_emod]at E2; exact (Int.ofNat.inj E2).symm
 have b1:q<18446744073709551616:=by rw[e1]; exact Nat.lt_of_le_of_lt (Nat.div_le_self _ _) hl
 have b2:r<18446744073709551616:=by rw[e2]; exact Nat.lt_of_lt_of_le (Nat.mod_lt _ h2) (by omega)
 have H1:=Lib.hid e1; have H2:=Lib.hid e2;clear e1 e2;have t1:((y:Int)==0)=false:=by simp; omega
 go_enter func270,ntmps270
 go_wp2_with fail
 go_quiet (fail)
 go_wp2_with fail
 go_ret2
 exact⟨_,by rw[←H1.out,←H2.out,←E2]; rfl,rfl⟩
theorem aJd {hi lo y:Nat} (h:hi<y) (hl:lo<18446744073709551616) (hy:y<18446744073709551616):∃q r:Nat,
  (∀w,Calls prog 270 #[.int .u64 hi,.int .u64 lo,.int .u64 y] w fun e w'=>e=.returned (.tuple #[.int .u64 (q:Nat),.int .u64 (r:Nat)])∧∃n,w'=w.drewN n) ∧
  q<18446744073709551616∧r<y∧Hid (q*y+r=hi*18446744073709551616+lo):=by
 refine⟨(hi*18446744073709551616+lo)/y,(hi*18446744073709551616+lo)%y,fun w => ?_,?_,Nat.mod_lt _ (by omega),Lib.hid (by rw[Nat.mul_comm]; exact Nat.div_add_mod _ _)⟩
 ·rcases Nat.eq_zero_or_pos hi with rfl|h1
  ·have:=Pk lo y h hl hy w;rw[Nat.zero_mul,Nat.zero_add];exact this.mono fun e w' ⟨n,he,hw⟩=>⟨he,n,hw⟩
  ·exact (aCF hi lo y h1 h hl hy w).mono fun e w' ⟨n,he,hw⟩=>⟨he,n,hw⟩
 ·rw[Nat.div_lt_iff_lt_mul (by omega)];have:=Nat.mul_le_mul_right 18446744073709551616 (show hi+1≤y by omega);rw[Nat.mul_comm 18446744073709551616 y];omega
def RowIs (w:World) (b n:Nat) (P:Nat→Nat):Prop:=∀k,k<n→w.cell? ⟨b,k,none⟩=some (.int .u64 (P k:Nat))∧w.frozen? ⟨b,k,none⟩=false
def gI (P:Nat→Nat) (i v:Nat):Nat→Nat:=fun k=>if k=i then v else P k
def fL (l:List Nat):Nat→Nat:=fun k=>l.getD k 0
section
variable {w w':World} {b n i v:Nat} {P:Nat→Nat}
theorem RowIs.cell (h:RowIs w b n P) (hi:i<n):w.cell? ⟨b,i,none⟩=some (.int .u64 (P i:Nat)):=(h i hi).1
theorem RowIs.free (h:RowIs w b n P) (hi:i<n):w.frozen? ⟨b,i,none⟩=false:=(h i hi).2
theorem RowIs.set (h:RowIs w b n P) (hi:i<n):RowIs (w.setCell ⟨b,i,none⟩ (.int .u64 (v:Nat))) b n (gI P i v):=by
 intro k hk;refine⟨?_,by rw[World.frozen?_setCell]; exact h.free hk⟩;unfold gI
 by_cases e:k=i
 ·subst e; rw[if_pos rfl]; exact World.cell?_setCell_same (h:=h.cell hk) ..
 ·rw[if_neg e,World.cell?_setCell_other (h:=fun he=>e (by simpa using (congrArg Addr.off he).symm)) ..]; exact h.cell hk
theorem RowIs.other (h:RowIs w b n P) {c:Nat} (hc:c≠b) (x:Value):RowIs (w.setCell ⟨c,i,none⟩ x) b n P:=by
 intro k hk;exact⟨by rw[World.cell?_setCell_other (h:=fun he=>hc (by simpa using congrArg Addr.block he)) ..]; exact h.cell hk,by rw[World.frozen?_setCell]; exact h.free hk⟩
theorem RowIs.drew (h:RowIs w b n P):RowIs w.drew b n P:=h
theorem RowIs.drewN (h:RowIs w b n P) (m:Nat):RowIs (w.drewN m) b n P:=h
theorem RowIs.below (h:RowIs w b n P) {B:Nat} (hb:Below B w w') (hB:b<B):RowIs w' b n P:=by
 intro k hk;exact⟨by rw[hb.cell (p:=⟨b,k,none⟩) hB]; exact h.cell hk,by rw[hb.frozen (p:=⟨b,k,none⟩) hB]; exact h.free hk⟩
theorem RowIs.alloc (h:RowIs w b n P) (hb:b<w.heap.size) (o:Obj):RowIs (w.alloc o) b n P :=
 h.below ((Below.refl w.heap.size w).alloc (Nat.le_refl _) o) hb
theorem RowIs.mk (w:World) (t:TypeId) (l:List Nat) (b:Nat) (hb:b=w.heap.size):RowIs (w.alloc (.cells (l.map fun x=>Value.int .u64 (x:Nat)).toArray t)) b l.length (fL l):=by
 subst hb;intro k hk;refine⟨?_,World.frozen?_alloc_new _ _ _ _⟩;rw[World.cell?_alloc_new];simp[fL,hk]
end
structure Row4 (w:World) (b:Nat) (c0 c1 c2 c3:Nat):Prop where
 c0:w.cell? ⟨b,0,none⟩=some (.int .u64 c0)
 c1:w.cell? ⟨b,1,none⟩=some (.int .u64 c1)
 c2:w.cell? ⟨b,2,none⟩=some (.int .u64 c2)
 c3:w.cell? ⟨b,3,none⟩=some (.int .u64 c3)
 fr:∀k,w.frozen? ⟨b,k,none⟩=false
theorem Row4.below {w w':World} {b:Nat} {c0 c1 c2 c3:Nat} (h:Row4 w b c0 c1 c2 c3) {B:Nat} (hb:Below B w w') (hB:b<B):Row4 w' b c0 c1 c2 c3 :=
 ⟨by rw[hb.cell (p:=⟨b,0,none⟩) hB]; exact h.c0,by rw[hb.cell (p:=⟨b,1,none⟩) hB]; exact h.c1,by rw[hb.cell (p:=⟨b,2,none⟩) hB]; exact h.c2,by rw[hb.cell (p:=⟨b,3,none⟩) hB]; exact h.c3,
  fun k=>by rw[hb.frozen (p:=⟨b,k,none⟩) hB]; exact h.fr k⟩
theorem Row4.alloc {w:World} {b:Nat} {c0 c1 c2 c3:Nat} (h:Row4 w b c0 c1 c2 c3) (hb:b<w.heap.size) (o:Obj):Row4 (w.alloc o) b c0 c1 c2 c3 :=
 h.below ((Below.refl w.heap.size w).alloc (Nat.le_refl _) o) hb
theorem Row4.drewN {w:World} {b:Nat} {c0 c1 c2 c3:Nat} (h:Row4 w b c0 c1 c2 c3) (n:Nat):Row4 (w.drewN n) b c0 c1 c2 c3:=⟨h.c0,h.c1,h.c2,h.c3,h.fr⟩
theorem Row4.new (w:World) (c0 c1 c2 c3:Nat) (t:TypeId):Row4 (w.alloc (.cells #[.int .u64 c0,.int .u64 c1,.int .u64 c2,.int .u64 c3] t)) w.heap.size c0 c1 c2 c3 :=
 ⟨by rw[World.cell?_alloc_new]; rfl,by rw[World.cell?_alloc_new]; rfl,by rw[World.cell?_alloc_new]; rfl,by rw[World.cell?_alloc_new]; rfl,fun k=>World.frozen?_alloc_new _ _ _ _⟩
theorem Row4.other {w:World} {b d i:Nat} {c0 c1 c2 c3:Nat} (h:Row4 w b c0 c1 c2 c3) (hd:d≠b) (v:Value):Row4 (w.setCell ⟨d,i,none⟩ v) b c0 c1 c2 c3 :=
 ⟨by rw[World.cell?_setCell_other (h:=fun he=>hd (by simpa using congrArg Addr.block he)) ..]; exact h.c0,by rw[World.cell?_setCell_other (h:=fun he=>hd (by simpa using congrArg Addr.block he)) ..]; exact h.c1,
  by rw[World.cell?_setCell_other (h:=fun he=>hd (by simpa using congrArg Addr.block he)) ..]; exact h.c2,by rw[World.cell?_setCell_other (h:=fun he=>hd (by simpa using congrArg Addr.block he)) ..]; exact h.c3,
  fun k=>by rw[World.frozen?_setCell]; exact h.fr k⟩
def set4 (w:World) (b:Nat) (d0 d1 d2 d3:Nat):World:=(((w.setCell ⟨b,0,none⟩ (.int .u64 d0)).setCell ⟨b,1,none⟩ (.int .u64 d1)).setCell ⟨b,2,none⟩ (.int .u64 d2)).setCell ⟨b,3,none⟩ (.int .u64 d3)
theorem Row4.rows {w:World} {b:Nat} {c0 c1 c2 c3:Nat} (h:Row4 w b c0 c1 c2 c3):RowIs w b 4 (fL [c0,c1,c2,c3]):=by
 intro k hk;refine⟨?_,h.fr k⟩
 match k,hk with
 | 0,_=>exact h.c0
 | 1,_=>exact h.c1
 | 2,_=>exact h.c2
 | 3,_=>exact h.c3
theorem Row4.set4 {w:World} {b:Nat} {c0 c1 c2 c3:Nat} (h:Row4 w b c0 c1 c2 c3) (d0 d1 d2 d3:Nat):Row4 (set4 w b d0 d1 d2 d3) b d0 d1 d2 d3:=by
 have r:=(((h.rows.set (show 0<4 by omega) (v:=d0)).set (show 1<4 by omega) (v:=d1)).set (show 2<4 by omega) (v:=d2)).set (show 3<4 by omega) (v:=d3);exact⟨r.cell (by omega),r.cell (show 1<4 by omega),r.cell (show 2<4 by omega),r.cell (show 3<4 by omega),fun k=>by
  show World.frozen? (((_:World).setCell _ _)) _=_;rw[World.frozen?_setCell,World.frozen?_setCell,World.frozen?_setCell,World.frozen?_setCell]; exact h.fr k⟩
theorem Row4.set4_other {w:World} {b d:Nat} {c0 c1 c2 c3:Nat} (h:Row4 w b c0 c1 c2 c3) (hd:d≠b) (e0 e1 e2 e3:Nat):Row4 (Go.Proofs.YtglgakbkdjhojaaGreat.set4 w d e0 e1 e2 e3) b c0 c1 c2 c3 :=
 (((h.other hd _).other hd _).other hd _).other hd _
theorem bF {B:Nat} {w w':World} {b:Nat} (h:Below B w w') (hb:B≤b) (d0 d1 d2 d3:Nat):Below B w (set4 w' b d0 d1 d2 d3) :=
 (((h.setCell (p:=⟨b,0,none⟩) hb _).setCell (p:=⟨b,1,none⟩) hb _).setCell (p:=⟨b,2,none⟩) hb _).setCell (p:=⟨b,3,none⟩) hb _
theorem bG (B:Nat) (w:World) (n:Nat):Below B w (w.drewN n):=⟨rfl,rfl,rfl,Nat.le_refl _,fun _ _=>rfl⟩
def tot (B:Nat) (P:Nat→Nat):Nat→Nat
 | 0=>0
 | n+1=>tot B P n+P n*B^n
theorem cC (B:Nat) (P:Nat→Nat) (n:Nat):tot B P (n+1)=tot B P n+P n*B^n:=rfl
theorem gK (B:Nat) (P:Nat→Nat) (k v:Nat):∀n,n≤k→tot B (gI P k v) n=tot B P n
 | 0,_=>rfl
 | n+1,h=>by
  rw[cC,cC,gK B P k v n (by omega)];unfold gI;rw[if_neg (by omega)]
theorem Sb (B:Nat) (P:Nat→Nat) (k v:Nat):∀n,k<n→tot B (gI P k v) n+P k*B^k=tot B P n+v*B^k
 | n+1,h=>by
  rw[cC,cC]
  by_cases e:k=n
  ·subst e;rw[gK B P k v k (Nat.le_refl _)];unfold gI;rw[if_pos rfl]; omega
  ·have:=Sb B P k v n (by omega);have e':gI P k v n=P n:=by unfold gI; rw[if_neg (by omega)]
   rw[e']; omega
theorem ZF (B:Nat) (P:Nat→Nat) (h:∀k,P k=0):∀n,tot B P n=0
 | 0=>rfl
 | n+1=>by rw[cC,ZF B P h n,h n,Nat.zero_mul]
theorem Io (B:Nat) (P:Nat→Nat) (hB:0<B):∀n,(∀k,k<n→P k<B)→tot B P n<B^n
 | 0,_=>by simp[tot]
 | n+1,h=>by
  have h1:=Io B P hB n (fun k hk=>h k (by omega));have h2:=Nat.mul_le_mul_right (B^n) (show P n+1≤B by have:=h n (by omega); omega);rw[cC,Nat.pow_succ,Nat.mul_comm (B^n) B];rw[Nat.add_mul,Nat.one_mul]at h2;omega
theorem Jd {B:Nat} {P:Nat→Nat} {n k x o d o' T:Nat} (hk:k<n) (he:d+B*o'=x+P k+o) (hT:tot B P n+o*B^k=T) :
  tot B (gI P k d) n+o'*B^(k+1)=T+x*B^k:=by
 have h1:=Sb B P k d n hk;have h2:d*B^k+o'*B^(k+1)=x*B^k+P k*B^k+o*B^k:=by
  rw[Nat.pow_succ,←Nat.add_mul,←Nat.add_mul,←he,Nat.add_mul];congr 1;rw[Nat.mul_comm (B^k) B,←Nat.mul_assoc,Nat.mul_comm o' B]
 omega
section
variable {R n:Nat} {A B P:Nat→Nat} {i j o d o':Nat}
theorem BR (R:Nat) (P:Nat→Nat) (n:Nat):∀m,tot R P (n+m)=tot R P n+R^n*tot R (fun k=>P (n+k)) m
 | 0=>by rw[Nat.add_zero]; show _=_+R^n*0; rw[Nat.mul_zero,Nat.add_zero]
 | m+1=>by
  rw[show n+(m+1)=n+m+1 by omega,cC,BR R P n m,cC,Nat.mul_add,Nat.pow_add,←Nat.mul_assoc (R^n),Nat.add_assoc];rw[Nat.mul_comm (P (n+m)) (R^n*R^m),Nat.mul_right_comm]
end
theorem uD (P:Nat→Nat):aC (P 0) (P 1) (P 2) (P 3)=tot 18446744073709551616 P 4:=by
 unfold aC;simp only[tot];omega
structure MW (w wr:World) (A B P:Nat→Nat):Prop where
 below:Below w.heap.size w wr
 size:wr.heap.size=w.heap.size+1+1+1+1+1
 rowA:RowIs wr w.heap.size 4 A
 rowB:RowIs wr (w.heap.size+1) 4 B
 rowH:∃H,RowIs wr (w.heap.size+1+1) 4 H
 rowL:∃L,RowIs wr (w.heap.size+1+1+1) 4 L
 rowP:RowIs wr (w.heap.size+1+1+1+1) 8 P
 lt:∀k,P k<18446744073709551616
theorem MW.set {w wr:World} {A B P:Nat→Nat} (h:MW w wr A B P) {k d:Nat} (hk:k<8) (hd:d<18446744073709551616) :
  MW w (wr.setCell ⟨w.heap.size+1+1+1+1,k,none⟩ (.int .u64 (d:Nat))) A B (gI P k d) :=
 ⟨h.below.setCell (p:=⟨w.heap.size+1+1+1+1,k,none⟩) (by simp; omega) _,by rw[World.size_setCell]; exact h.size,h.rowA.other (by omega) _,h.rowB.other (by omega) _,
  h.rowH.elim fun H x=>⟨H,x.other (by omega) _⟩,h.rowL.elim fun L x=>⟨L,x.other (by omega) _⟩,h.rowP.set hk,
  fun x=>by unfold gI; split; exact hd; exact h.lt x⟩
theorem MW.drewN {w wr:World} {A B P:Nat→Nat} (h:MW w wr A B P) (n:Nat):MW w (wr.drewN n) A B P :=
 ⟨h.below.trans (bG _ _ _),h.size,h.rowA,h.rowB,h.rowH,h.rowL,h.rowP,h.lt⟩
theorem RowIs.mk4 {w:World} {b:Nat} {c0 c1 c2 c3:Nat} (h0:w.cell? ⟨b,0,none⟩=some (.int .u64 c0)) (h1:w.cell? ⟨b,1,none⟩=some (.int .u64 c1)) (h2:w.cell? ⟨b,2,none⟩=some (.int .u64 c2)) (h3:w.cell? ⟨b,3,none⟩=some (.int .u64 c3))
  (hf:∀k,w.frozen? ⟨b,k,none⟩=false):RowIs w b 4 (fL [c0,c1,c2,c3]):=by
 intro k hk;refine⟨?_,hf k⟩
 match k,hk with
 | 0,_=>exact h0
 | 1,_=>exact h1
 | 2,_=>exact h2
 | 3,_=>exact h3
theorem vC {a0 a1 a2 a3:Nat} (ha:bY a0 a1 a2 a3) (k:Nat):fL [a0,a1,a2,a3] k<18446744073709551616:=by
 obtain⟨h0,h1,h2,h3⟩:=ha;unfold fL
 match k with
 | 0=>exact h0
 | 1=>exact h1
 | 2=>exact h2
 | 3=>exact h3
 | k+4=>simp
theorem aLv (r0 r1 r2 r3 x:Nat):aC r0 r1 r2 r3*18446744073709551616+x=r3*115792089237316195423570985008687907853269984665640564039457584007913129639936+aC x r0 r1 r2:=by unfold aC; omega
theorem SD (b0 b1 b2 b3:Nat) (h:bY b0 b1 b2 b3):∃t,aC b0 b1 b2 b3=b3*6277101735386680763835789423207666416102355444464034512896+t∧t<6277101735386680763835789423207666416102355444464034512896:=by
 obtain⟨h0,h1,h2,_⟩:=h;exact⟨b0+18446744073709551616*(b1+18446744073709551616*b2),by unfold aC; omega,by omega⟩
theorem bCB {x r0 r1 r2:Nat} (hx:x<18446744073709551616) (h0:r0<18446744073709551616) (h1:r1<18446744073709551616):∃t,aC x r0 r1 r2=r2*6277101735386680763835789423207666416102355444464034512896+t∧t<6277101735386680763835789423207666416102355444464034512896 :=
 ⟨x+18446744073709551616*(r0+18446744073709551616*r1),by unfold aC; omega,by omega⟩
theorem aIq {N b b3 t r g m:Nat} (hb:b=b3*6277101735386680763835789423207666416102355444464034512896+t) (ht:t<6277101735386680763835789423207666416102355444464034512896) (h3:9223372036854775808≤b3) (hN:N=r*6277101735386680763835789423207666416102355444464034512896+m) (hm:m<6277101735386680763835789423207666416102355444464034512896)
  (hg:g<18446744073709551616) (h1:g*b3≤r) (h2:r<g*b3+b3):N/b≤g∧g≤N/b+2:=by
 have hp:0<b:=by omega
 constructor
 ·rw[←Nat.lt_succ_iff,Nat.div_lt_iff_lt_mul hp,Nat.succ_mul,hb,Nat.mul_add,←Nat.mul_assoc];omega
 ·have e:=Nat.div_add_mod N b;have hl:=Nat.mod_lt N hp;have h4:=CT (show g≤18446744073709551615 by omega) (show t≤6277101735386680763835789423207666416102355444464034512895 by omega);have h5:g*b<N+2*b:=by
   rw[hb,Nat.mul_add,←Nat.mul_assoc]; omega
  rcases Nat.lt_or_ge g (N/b+3)with h|h
  ·omega
  ·have h6:=Nat.mul_le_mul_right b h;rw[Nat.add_mul,Nat.mul_comm (N/b) b]at h6;omega
theorem aIr {N b b3 t r2 m x R:Nat} (hb:b=b3*6277101735386680763835789423207666416102355444464034512896+t) (ht:t<6277101735386680763835789423207666416102355444464034512896) (h3:9223372036854775808≤b3) (hN:N=b3*115792089237316195423570985008687907853269984665640564039457584007913129639936+(r2*6277101735386680763835789423207666416102355444464034512896+m)) (hR:N=R*18446744073709551616+x) (hx:x<18446744073709551616) (hl:R<b) :
  N/b≤18446744073709551615∧18446744073709551615≤N/b+2:=by
 have hp:0<b:=by omega
 constructor
 ·rw[←Nat.lt_succ_iff,Nat.div_lt_iff_lt_mul hp]; omega
 ·have e:=Nat.div_add_mod N b;have hl':=Nat.mod_lt N hp
  rcases Nat.lt_or_ge 18446744073709551615 (N/b+3)with h|h
  ·omega
  ·have h6:=Nat.mul_le_mul_right b h;rw[Nat.add_mul,Nat.mul_comm (N/b) b]at h6;omega
def TI (b R k top s:Nat):Prop:=k≤2∧(k=0→top=0∧s=R)∧(k=1→top*115792089237316195423570985008687907853269984665640564039457584007913129639936+s+b=18446744073709551616*115792089237316195423570985008687907853269984665640564039457584007913129639936+R∧0<top)∧(k=2→top*115792089237316195423570985008687907853269984665640564039457584007913129639936+s+b+b=18446744073709551616*115792089237316195423570985008687907853269984665640564039457584007913129639936+R∧0<top)
theorem ZH {N b g r3 xr p o s c:Nat} (hb:b<115792089237316195423570985008687907853269984665640564039457584007913129639936) (hp:0<b) (hN:N=r3*115792089237316195423570985008687907853269984665640564039457584007913129639936+xr) (hxr:xr<115792089237316195423570985008687907853269984665640564039457584007913129639936) (h1:N/b≤g) (h2:g≤N/b+2) (hr:r3<18446744073709551616) (ho:o<18446744073709551616)
  (e1:p+115792089237316195423570985008687907853269984665640564039457584007913129639936*o=b*g) (hpp:p<115792089237316195423570985008687907853269984665640564039457584007913129639936) (e2:s+p=xr+115792089237316195423570985008687907853269984665640564039457584007913129639936*c) (hs:s<115792089237316195423570985008687907853269984665640564039457584007913129639936) :
  ∃top:Nat,IntKind.u64.wrap (IntKind.u64.wrap ((r3:Int)-(o:Int))-(c:Int))=(top:Int)∧top<18446744073709551616∧TI b (N%b) (g-N/b) top s:=by
 have e:=Nat.div_add_mod N b;have hl:=Nat.mod_lt N hp;obtain⟨k,hk⟩:∃k,g=N/b+k:=⟨g-N/b,by omega⟩
 subst hk;rw[Nat.mul_add]at e1;generalize b*(N/b)=P at *;generalize N%b=R at *;generalize N/b=q at *;have hk:k=0∨k=1∨k=2:=by omega
 rw[show q+k-q=k by omega];simp only[IntKind.wrap_u64];unfold TI
 rcases hk with rfl|rfl|rfl
 ·refine⟨0,by omega,by omega,by omega,fun _=>⟨rfl,by omega⟩,by omega,by omega⟩
 ·refine⟨(r3+18446744073709551616+18446744073709551616-o-c)%18446744073709551616,by omega,by omega,by omega,by omega,fun _=>by omega,by omega⟩
 ·refine⟨(r3+18446744073709551616+18446744073709551616-o-c)%18446744073709551616,by omega,by omega,by omega,by omega,by omega,fun _=>by omega⟩
theorem aDX {b R k top s:Nat} (h:TI b R k top s) (hk:0<k):0<top:=by
 obtain⟨h0,_,h2,h3⟩:=h;have:k=1∨k=2:=by omega
 rcases this with rfl|rfl
 ·exact (h2 rfl).2
 ·exact (h3 rfl).2
theorem ZI {b R k top s s' c:Nat} (hb:b<115792089237316195423570985008687907853269984665640564039457584007913129639936) (hR:R<b) (h:TI b R (k+1) top s) (ht:top<18446744073709551616) (hs:s<115792089237316195423570985008687907853269984665640564039457584007913129639936) (hs':s'<115792089237316195423570985008687907853269984665640564039457584007913129639936) (hc:c≤1) (e:s'+115792089237316195423570985008687907853269984665640564039457584007913129639936*c=s+b) :
  ∃top':Nat,IntKind.u64.wrap ((top:Int)+(c:Int))=(top':Int)∧top'<18446744073709551616∧TI b R k top' s':=by
 obtain⟨h0,_,h2,h3⟩:=h;have hk:k=0∨k=1:=by omega
 simp only[IntKind.wrap_u64];unfold TI
 rcases hk with rfl|rfl
 ·have h2:=h2 rfl;exact⟨0,by omega,by omega,by omega,fun _=>⟨rfl,by omega⟩,by omega,by omega⟩
 ·obtain⟨h3,h4⟩:=h3 rfl;have hv:top+c<18446744073709551616:=by omega
  refine⟨top+c,by omega,hv,by omega,(fun h=>absurd h (by omega)),(fun _=>⟨?_,by omega⟩),(fun h=>absurd h (by omega))⟩;rw[Nat.add_mul];omega
def dM (P:Nat→Prop) (w:World) (e:Ending) (w':World):Prop :=
 ∃s0 s1 s2 s3:Nat,e=.returned (.agg #[.int .u64 s0,.int .u64 s1,.int .u64 s2,.int .u64 s3])∧bY s0 s1 s2 s3∧P (aC s0 s1 s2 s3)∧Below w.heap.size w w'
structure TW (w wr:World) (lb:Nat) (b0 b1 b2 b3 s0 s1 s2 s3:Nat):Prop where
 below:Below w.heap.size w wr
 size:lb<wr.heap.size
 lo:w.heap.size+1+1<lb
 rowB:Row4 wr (w.heap.size+1) b0 b1 b2 b3
 rowO:Row4 wr (w.heap.size+1+1) 0 0 0 0
 rowS:Row4 wr lb s0 s1 s2 s3
theorem Py (w:World) (o1 o2 o3:Obj):Below w.heap.size w (((w.alloc o1).alloc o2).alloc o3) :=
 (((Below.refl _ _).alloc (Nat.le_refl _) o1).alloc (by simp) o2).alloc (by simp; omega) o3
set_option maxHeartbeats 1000000 in
theorem ZK (r0 r1 r2 r3 x b0 b1 b2 b3:Nat) (hr:bY r0 r1 r2 r3) (hx:x<18446744073709551616) (hb:bY b0 b1 b2 b3) (h3:9223372036854775808≤b3) (hlt:aC r0 r1 r2 r3<aC b0 b1 b2 b3) (hg:r3<b3) (w:World) :
  Calls prog 268 #[.agg #[.int .u64 r0,.int .u64 r1,.int .u64 r2,.int .u64 r3],.int .u64 x,.agg #[.int .u64 b0,.int .u64 b1,.int .u64 b2,.int .u64 b3]] w (dM (fun n=>n=(aC r0 r1 r2 r3*18446744073709551616+x)%aC b0 b1 b2 b3) w):=by
 obtain⟨g,ρ,dg,bg,bρ,eg⟩:=aJd hg hr.2.2.1 hb.2.2.2;have cg:g<18446744073709551616:=bg;have HF:=Lib.hid (show (aC r0 r1 r2 r3*18446744073709551616+x)/aC b0 b1 b2 b3≤g∧g≤(aC r0 r1 r2 r3*18446744073709551616+x)/aC b0 b1 b2 b3+2 by
  obtain⟨t,e1,ht⟩:=SD b0 b1 b2 b3 hb;obtain⟨m,e2,hm⟩:=bCB (r2:=r2) hx hr.1 hr.2.1;have eg:=eg.out;exact aIq e1 ht h3 (r:=r3*18446744073709551616+r2) (m:=m) (by rw[aLv,e2]; omega) hm bg (by omega) (by omega))
 clear eg bρ
 go_enter func268,ntmps268
 go_wp2_with fail;refine (dg _).mono ?_
 rintro e w' ⟨rfl,n,rfl⟩
 go_wp2_with fail;refine (ZA b0 b1 b2 b3 g hb cg _).mono ?_
 rintro e w1 ⟨p0,p1,p2,p3,o,rfl,hp,ho,ep,hbl⟩
 have R1:=(((Row4.new w r0 r1 r2 r3 24).alloc (by simp) _).alloc (by simp; omega) _).drewN n |>.below hbl (by simp; omega)
 have B1:=(((Row4.new (w.alloc _) b0 b1 b2 b3 24).alloc (by simp) _).drewN n).below hbl (by simp);have O1:=((Row4.new ((w.alloc _).alloc _) 0 0 0 0 24).drewN n).below hbl (by simp);simp only[World.size_alloc]at B1 O1;have hz1:w.heap.size+1+1<w1.heap.size:=by have:=hbl.size; simp at this; omega
 have hy1:w.heap.size+1<w1.heap.size:=by omega
 have hx1:w.heap.size<w1.heap.size:=by omega
 have Hbl:=Lib.hid hbl; have Hep:=Lib.hid ep;clear hbl ep;have R1':=R1;obtain⟨x0,x1,x2,x3,xf⟩:=R1;go_wp2_with fail;refine (vV x r0 r1 r2 p0 p1 p2 p3 ⟨hx,hr.1,hr.2.1,hr.2.2.1⟩ hp _).mono ?_
 rintro e w2 ⟨s0,s1,s2,s3,c,rfl,hs,hc,es,hbl⟩
 have R2:=(R1'.alloc hx1 _).below hbl (by rw[World.size_alloc]; omega);have B2:=(B1.alloc hy1 _).below hbl (by rw[World.size_alloc]; omega);have O2:=(O1.alloc hz1 _).below hbl (by rw[World.size_alloc]; omega);have hz2:w1.heap.size<w2.heap.size:=by have:=hbl.size; simp at this; omega
 have hw2:w.heap.size+1+1<w2.heap.size:=by omega
 have hy2:w.heap.size+1<w2.heap.size:=by omega
 have hx2:w.heap.size<w2.heap.size:=by omega
 have Hbl2:=Lib.hid hbl; have Hes:=Lib.hid es;clear hbl es x0 x1 x2 x3 xf;obtain⟨x0,x1,x2,x3,xf⟩:=R2;have vb:=bO hb;obtain⟨top,etop,btop,ti⟩:=ZH (N:=aC r0 r1 r2 r3*18446744073709551616+x) (r3:=r3) vb (by omega) (aLv r0 r1 r2 r3 x) (bO ⟨hx,hr.1,hr.2.1,hr.2.2.1⟩) HF.out.1 HF.out.2 hr.2.2.2 ho Hep.out (bO hp) Hes.out (bO hs);have Hti:=Lib.hid ti;have HB2:Below w.heap.size w (w2.alloc (.cells #[.int .u64 s0,.int .u64 s1,.int .u64 s2,.int .u64 s3] 24)) :=
  (((Py w _ _ _).trans (bG _ _ n)).trans (Hbl.out.mono (by simp; omega)) |>.alloc (by omega) _ |>.trans (Hbl2.out.mono (by rw[World.size_alloc]; omega))).alloc (by omega) _
 have HH:=Lib.hid HB2;clear ti vb HB2 Hbl Hbl2 Hep Hes HF;go_wp2_with fail;clear etop x0 x1 x2 x3 xf
 go_loopg [12] (g-(aC r0 r1 r2 r3*18446744073709551616+x)/aC b0 b1 b2 b3) (fun k t wr=>∃top s0 s1 s2 s3,t=.int .u64 (top:Nat)∧top<18446744073709551616∧bY s0 s1 s2 s3∧Hid (TI (aC b0 b1 b2 b3) ((aC r0 r1 r2 r3*18446744073709551616+x)%aC b0 b1 b2 b3) k top (aC s0 s1 s2 s3))∧TW w wr w2.heap.size b0 b1 b2 b3 s0 s1 s2 s3)
 case atStart=>exact⟨top,s0,s1,s2,s3,rfl,btop,hs,Hti,⟨HH.out,by simp,by omega,B2.alloc hy2 _,O2.alloc hw2 _,Row4.new _ _ _ _ _ _⟩⟩
 case round =>
  obtain⟨top,s0,s1,s2,s3,rfl,btop,hs,ti,tw⟩:=hrel;obtain⟨y0,y1,y2,y3,yf⟩:=tw.rowB;obtain⟨z0,z1,z2,z3,zf⟩:=tw.rowS;obtain⟨o0,o1,o2,o3,of⟩:=tw.rowO;have hsz:=tw.size;have hlo:=tw.lo
  rcases Nat.eq_zero_or_pos gk with rfl|hk
  ·have ht:=ti.out.2.1 rfl;have t0:((top:Int) != 0)=false:=by simp[ht.1]
   have HR:=Lib.hid ht.2;have HB:=Lib.hid tw.below;have HW:=Lib.hid tw;clear ti ht tw;go_wp2_with fail;refine bodyPost_ret (v:=.agg #[.int .u64 s0,.int .u64 s1,.int .u64 s2,.int .u64 s3]) (by simp[results,results268,go_sem, *]) rfl ?_;exact⟨s0,s1,s2,s3,rfl,hs,HR.out,bF HB.out (by omega) _ _ _ _⟩
  ·obtain⟨k,rfl⟩:∃k,gk=k+1:=⟨gk-1,by omega⟩
   have hp:=aDX ti.out hk;have t0:((top:Int) != 0)=true:=by simp; omega
   have HW:=Lib.hid tw;clear tw;go_wp2_with fail;refine (DV s0 s1 s2 s3 b0 b1 b2 b3 hs hb _).mono ?_
   rintro e w3 ⟨n0,n1,n2,n3,c,rfl,hn,hc,en,hbl⟩
   have hz3:wr.heap.size≤w3.heap.size:=hbl.size;obtain⟨top',et,bt,ti'⟩:=ZI (bO hb) (Nat.mod_lt _ (by have:=bO hb; omega)) ti.out btop (bO hs) (bO hn) hc en;have S3:=HW.out.rowS.below hbl hsz;have T3:TW w (set4 w3 w2.heap.size n0 n1 n2 n3) w2.heap.size b0 b1 b2 b3 n0 n1 n2 n3 :=
    ⟨bF (HW.out.below.trans (hbl.mono HW.out.below.size)) (by omega) _ _ _ _,by unfold set4; simp only[World.size_setCell]; omega,hlo,
     (HW.out.rowB.below hbl (by omega)).set4_other (by omega) _ _ _ _,(HW.out.rowO.below hbl (by omega)).set4_other (by omega) _ _ _ _,S3.set4 _ _ _ _⟩
   have HT:=Lib.hid T3;have Hti:=Lib.hid ti';obtain⟨v0,v1,v2,v3,vf⟩:=S3;clear hbl en T3 ti' ti;go_wp2_with fail
   go_roundg k
   case rel=>exact⟨top',n0,n1,n2,n3,rfl,bt,hn,Hti,HT.out⟩
   case measure=>omega
set_option maxHeartbeats 1000000 in
theorem ZL (r0 r1 r2 r3 x b0 b1 b2 b3:Nat) (hr:bY r0 r1 r2 r3) (hx:x<18446744073709551616) (hb:bY b0 b1 b2 b3) (h3:9223372036854775808≤b3) (hlt:aC r0 r1 r2 r3<aC b0 b1 b2 b3) (hg:¬r3<b3) (w:World) :
  Calls prog 268 #[.agg #[.int .u64 r0,.int .u64 r1,.int .u64 r2,.int .u64 r3],.int .u64 x,.agg #[.int .u64 b0,.int .u64 b1,.int .u64 b2,.int .u64 b3]] w (dM (fun n=>n=(aC r0 r1 r2 r3*18446744073709551616+x)%aC b0 b1 b2 b3) w):=by
 have HF:=Lib.hid (show (aC r0 r1 r2 r3*18446744073709551616+x)/aC b0 b1 b2 b3≤18446744073709551615∧18446744073709551615≤(aC r0 r1 r2 r3*18446744073709551616+x)/aC b0 b1 b2 b3+2 by
  obtain⟨t,e1,ht⟩:=SD b0 b1 b2 b3 hb;obtain⟨t',e1',ht'⟩:=SD r0 r1 r2 r3 hr;obtain⟨m,e2,hm⟩:=bCB (r2:=r2) hx hr.1 hr.2.1;exact aIr e1 ht h3 (r2:=r2) (m:=m) (by rw[aLv,e2]; omega) rfl hx hlt)
 go_enter func268,ntmps268
 go_wp2_with fail;refine (ZA b0 b1 b2 b3 18446744073709551615 hb (by omega) _).mono ?_
 rintro e w1 ⟨p0,p1,p2,p3,o,rfl,hp,ho,ep,hbl⟩
 have R1:=(((Row4.new w r0 r1 r2 r3 24).alloc (by simp) _).alloc (by simp; omega) _) |>.below hbl (by simp; omega)
 have B1:=(((Row4.new (w.alloc _) b0 b1 b2 b3 24).alloc (by simp) _)).below hbl (by simp);have O1:=((Row4.new ((w.alloc _).alloc _) 0 0 0 0 24)).below hbl (by simp);simp only[World.size_alloc]at B1 O1;have hz1:w.heap.size+1+1<w1.heap.size:=by have:=hbl.size; simp at this; omega
 have hy1:w.heap.size+1<w1.heap.size:=by omega
 have hx1:w.heap.size<w1.heap.size:=by omega
 have Hbl:=Lib.hid hbl; have Hep:=Lib.hid ep;clear hbl ep;have R1':=R1;obtain⟨x0,x1,x2,x3,xf⟩:=R1;go_wp2_with fail;refine (vV x r0 r1 r2 p0 p1 p2 p3 ⟨hx,hr.1,hr.2.1,hr.2.2.1⟩ hp _).mono ?_
 rintro e w2 ⟨s0,s1,s2,s3,c,rfl,hs,hc,es,hbl⟩
 have R2:=(R1'.alloc hx1 _).below hbl (by rw[World.size_alloc]; omega);have B2:=(B1.alloc hy1 _).below hbl (by rw[World.size_alloc]; omega);have O2:=(O1.alloc hz1 _).below hbl (by rw[World.size_alloc]; omega);have hz2:w1.heap.size<w2.heap.size:=by have:=hbl.size; simp at this; omega
 have hw2:w.heap.size+1+1<w2.heap.size:=by omega
 have hy2:w.heap.size+1<w2.heap.size:=by omega
 have hx2:w.heap.size<w2.heap.size:=by omega
 have Hbl2:=Lib.hid hbl; have Hes:=Lib.hid es;clear hbl es x0 x1 x2 x3 xf;obtain⟨x0,x1,x2,x3,xf⟩:=R2;have vb:=bO hb;obtain⟨top,etop,btop,ti⟩:=ZH (N:=aC r0 r1 r2 r3*18446744073709551616+x) (r3:=r3) vb (by omega) (aLv r0 r1 r2 r3 x) (bO ⟨hx,hr.1,hr.2.1,hr.2.2.1⟩) HF.out.1 HF.out.2 hr.2.2.2 ho Hep.out (bO hp) Hes.out (bO hs);have Hti:=Lib.hid ti;have HB2:Below w.heap.size w (w2.alloc (.cells #[.int .u64 s0,.int .u64 s1,.int .u64 s2,.int .u64 s3] 24)) :=
  ((Py w _ _ _).trans (Hbl.out.mono (by simp; omega)) |>.alloc (by omega) _ |>.trans (Hbl2.out.mono (by rw[World.size_alloc]; omega))).alloc (by omega) _
 have HH:=Lib.hid HB2;clear ti vb HB2 Hbl Hbl2 Hep Hes HF;go_wp2_with fail;clear etop x0 x1 x2 x3 xf
 go_loopg [12] (18446744073709551615-(aC r0 r1 r2 r3*18446744073709551616+x)/aC b0 b1 b2 b3) (fun k t wr=>∃top s0 s1 s2 s3,t=.int .u64 (top:Nat)∧top<18446744073709551616∧bY s0 s1 s2 s3∧Hid (TI (aC b0 b1 b2 b3) ((aC r0 r1 r2 r3*18446744073709551616+x)%aC b0 b1 b2 b3) k top (aC s0 s1 s2 s3))∧TW w wr w2.heap.size b0 b1 b2 b3 s0 s1 s2 s3)
 case atStart=>exact⟨top,s0,s1,s2,s3,rfl,btop,hs,Hti,⟨HH.out,by simp,by omega,B2.alloc hy2 _,O2.alloc hw2 _,Row4.new _ _ _ _ _ _⟩⟩
 case round =>
  obtain⟨top,s0,s1,s2,s3,rfl,btop,hs,ti,tw⟩:=hrel;obtain⟨y0,y1,y2,y3,yf⟩:=tw.rowB;obtain⟨z0,z1,z2,z3,zf⟩:=tw.rowS;obtain⟨o0,o1,o2,o3,of⟩:=tw.rowO;have hsz:=tw.size;have hlo:=tw.lo
  rcases Nat.eq_zero_or_pos gk with rfl|hk
  ·have ht:=ti.out.2.1 rfl;have t0:((top:Int) != 0)=false:=by simp[ht.1]
   have HR:=Lib.hid ht.2;have HB:=Lib.hid tw.below;have HW:=Lib.hid tw;clear ti ht tw;go_wp2_with fail;refine bodyPost_ret (v:=.agg #[.int .u64 s0,.int .u64 s1,.int .u64 s2,.int .u64 s3]) (by simp[results,results268,go_sem, *]) rfl ?_;exact⟨s0,s1,s2,s3,rfl,hs,HR.out,bF HB.out (by omega) _ _ _ _⟩
  ·obtain⟨k,rfl⟩:∃k,gk=k+1:=⟨gk-1,by omega⟩
   have hp:=aDX ti.out hk;have t0:((top:Int) != 0)=true:=by simp; omega
   have HW:=Lib.hid tw;clear tw;go_wp2_with fail;refine (DV s0 s1 s2 s3 b0 b1 b2 b3 hs hb _).mono ?_
   rintro e w3 ⟨n0,n1,n2,n3,c,rfl,hn,hc,en,hbl⟩
   have hz3:wr.heap.size≤w3.heap.size:=hbl.size;obtain⟨top',et,bt,ti'⟩:=ZI (bO hb) (Nat.mod_lt _ (by have:=bO hb; omega)) ti.out btop (bO hs) (bO hn) hc en;have S3:=HW.out.rowS.below hbl hsz;have T3:TW w (set4 w3 w2.heap.size n0 n1 n2 n3) w2.heap.size b0 b1 b2 b3 n0 n1 n2 n3 :=
    ⟨bF (HW.out.below.trans (hbl.mono HW.out.below.size)) (by omega) _ _ _ _,by unfold set4; simp only[World.size_setCell]; omega,hlo,
     (HW.out.rowB.below hbl (by omega)).set4_other (by omega) _ _ _ _,(HW.out.rowO.below hbl (by omega)).set4_other (by omega) _ _ _ _,S3.set4 _ _ _ _⟩
   have HT:=Lib.hid T3;have Hti:=Lib.hid ti';obtain⟨v0,v1,v2,v3,vf⟩:=S3;clear hbl en T3 ti' ti;go_wp2_with fail
   go_roundg k
   case rel=>exact⟨top',n0,n1,n2,n3,rfl,bt,hn,Hti,HT.out⟩
   case measure=>omega
theorem JD (r0 r1 r2 r3 x b0 b1 b2 b3:Nat) (hr:bY r0 r1 r2 r3) (hx:x<18446744073709551616) (hb:bY b0 b1 b2 b3) (h3:9223372036854775808≤b3) (hlt:aC r0 r1 r2 r3<aC b0 b1 b2 b3) (w:World) :
  Calls prog 268 #[.agg #[.int .u64 r0,.int .u64 r1,.int .u64 r2,.int .u64 r3],.int .u64 x,.agg #[.int .u64 b0,.int .u64 b1,.int .u64 b2,.int .u64 b3]] w (dM (fun n=>n=(aC r0 r1 r2 r3*18446744073709551616+x)%aC b0 b1 b2 b3) w):=by
 by_cases hg:r3<b3
 ·exact ZK r0 r1 r2 r3 x b0 b1 b2 b3 hr hx hb h3 hlt hg w
 ·exact ZL r0 r1 r2 r3 x b0 b1 b2 b3 hr hx hb h3 hlt hg w
def Mem (w wr:World) (rs:List (Nat×Nat×Nat×Nat×Nat)):Prop :=
 Below w.heap.size w wr∧∀r,r∈rs→r.1<wr.heap.size∧Row4 wr r.1 r.2.1 r.2.2.1 r.2.2.2.1 r.2.2.2.2
theorem Mem.nil (w:World):Mem w w []:=⟨Below.refl _ _,fun _ h=>by cases h⟩
theorem Mem.on {w wr w':World} {rs:List (Nat×Nat×Nat×Nat×Nat)} (h:Mem w wr rs) (hb:Below wr.heap.size wr w'):Mem w w' rs :=
 ⟨h.1.trans (hb.mono h.1.size),fun r hr=>⟨Nat.lt_of_lt_of_le (h.2 r hr).1 hb.size,(h.2 r hr).2.below hb (h.2 r hr).1⟩⟩
theorem Mem.drewN {w wr:World} {rs:List (Nat×Nat×Nat×Nat×Nat)} (h:Mem w wr rs) (n:Nat):Mem w (wr.drewN n) rs:=h.on (bG _ _ n)
theorem Mem.new {w wr:World} {rs:List (Nat×Nat×Nat×Nat×Nat)} (h:Mem w wr rs) (b c0 c1 c2 c3:Nat) (t:TypeId) (hb:b=wr.heap.size) :
  Mem w (wr.alloc (.cells #[.int .u64 c0,.int .u64 c1,.int .u64 c2,.int .u64 c3] t)) ((b,c0,c1,c2,c3)::rs):=by
 subst hb;have hB:Below wr.heap.size wr (wr.alloc (.cells #[.int .u64 c0,.int .u64 c1,.int .u64 c2,.int .u64 c3] t)):=(Below.refl _ _).alloc (Nat.le_refl _) _;refine⟨(h.on hB).1,fun r hr => ?_⟩
 rcases List.mem_cons.1 hr with e|hr
 ·rw[e];exact⟨by simp,Row4.new wr c0 c1 c2 c3 t⟩
 ·exact (h.on hB).2 r hr
theorem Mem.get {w wr:World} {rs:List (Nat×Nat×Nat×Nat×Nat)} (h:Mem w wr rs) {b c0 c1 c2 c3:Nat} (hm:(b,c0,c1,c2,c3)∈rs):b<wr.heap.size∧Row4 wr b c0 c1 c2 c3:=h.2 _ hm
theorem Mem.sub {w wr:World} {rs rs':List (Nat×Nat×Nat×Nat×Nat)} (h:Mem w wr rs) (hs:∀r,r∈rs'→r∈rs):Mem w wr rs':=⟨h.1,fun r hr=>h.2 r (hs r hr)⟩
theorem Mem.put {w wr:World} {rs:List (Nat×Nat×Nat×Nat×Nat)} {b c0 c1 c2 c3:Nat} (h:Mem w wr ((b,c0,c1,c2,c3)::rs)) (d0 d1 d2 d3:Nat) (hw:w.heap.size≤b) (hne:∀r,r∈rs→r.1≠b) :
  Mem w (set4 wr b d0 d1 d2 d3) ((b,d0,d1,d2,d3)::rs):=by
 refine⟨bF h.1 hw _ _ _ _,fun r hr => ?_⟩;have hs:(set4 wr b d0 d1 d2 d3).heap.size=wr.heap.size:=by unfold set4; simp only[World.size_setCell]
 rcases List.mem_cons.1 hr with e|hr
 ·rw[e];exact⟨by rw[hs]; exact (h.2 _ List.mem_cons_self).1,(h.2 _ List.mem_cons_self).2.set4 _ _ _ _⟩
 ·exact⟨by rw[hs]; exact (h.2 r (List.mem_cons_of_mem _ hr)).1,(h.2 r (List.mem_cons_of_mem _ hr)).2.set4_other (fun e=>hne r hr e.symm) _ _ _ _⟩
theorem RD {x c:Nat} (hx:x<18446744073709551616) (hc:c≤1):∃d b:Nat,(∀w,(callFunc 119 #[.int .u64 (x:Int),.int .u64 0,.int .u64 (c:Int)]).run prog w =
   .ok (.value (.tuple #[.int .u64 (d:Int),.int .u64 (b:Int)])) w)∧d<18446744073709551616∧b≤1∧Hid (d+18446744073709551616*b=x+c) :=
 ⟨_,_,CC x 0 c hc,XA _ _ _,XB hx (by omega) hc,Lib.hid (by have:=aKA x 0 c; omega)⟩
set_option maxHeartbeats 1000000 in
theorem EY {a b c d:Nat} (ha:a<18446744073709551616) (hb:b<18446744073709551616) (hc:c<18446744073709551616) (hd:d<18446744073709551616):∃h l:Nat,
  (∀w,Calls prog 121 #[.int .u64 a,.int .u64 b,.int .u64 c,.int .u64 d] w fun e w'=>e=.returned (.tuple #[.int .u64 (h:Nat),.int .u64 (l:Nat)])∧w'=w) ∧
  h<18446744073709551616∧l<18446744073709551616∧Hid (l+18446744073709551616*h=a*b+c+d):=by
 obtain⟨h,l,r,hh,hl,e⟩:=Gq ha hb;obtain⟨l1,c1,r1,hl1,hc1,e1⟩:=sA hl hc;obtain⟨h1,z1,r2,hh1,hz1,e2⟩:=RD (show h<18446744073709551616 by omega) hc1;obtain⟨l2,c2,r3,hl2,hc2,e3⟩:=sA hl1 hd;obtain⟨h2,z2,r4,hh2,hz2,e4⟩:=RD hh1 hc2;have hab:=CT (show a≤18446744073709551615 by omega) (show b≤18446744073709551615 by omega);refine⟨h2,l2,fun w => ?_,hh2,hl2,Lib.hid (by have:=e.out; have:=e1.out; have:=e2.out; have:=e3.out; have:=e4.out; omega)⟩;clear e e1 e2 e3 e4 hab
 go_enter func121,ntmps121
 go_wp2_with fail;refine (r _).mono ?_
 rintro e w' ⟨rfl,rfl⟩
 go_wp2_with fail
 go_ret2
 exact⟨rfl,rfl⟩
structure KIs (w:World) (b:Nat) (F:FC):Prop where
 k0:w.cell? ⟨b,0,none⟩=some (.int .u64 F.m0)
 k1:w.cell? ⟨b,1,none⟩=some (.int .u64 F.m1)
 k2:w.cell? ⟨b,2,none⟩=some (.int .u64 F.m2)
 k3:w.cell? ⟨b,3,none⟩=some (.int .u64 F.m3)
 k4:w.cell? ⟨b,4,none⟩=some (.int .u64 F.inv)
 k5:w.cell? ⟨b,5,none⟩=some (.int .u64 F.s0)
 k6:w.cell? ⟨b,6,none⟩=some (.int .u64 F.s1)
 k7:w.cell? ⟨b,7,none⟩=some (.int .u64 F.s2)
 k8:w.cell? ⟨b,8,none⟩=some (.int .u64 F.s3)
 lt:b<w.heap.size
theorem KIs.below {w w':World} {b:Nat} {F:FC} (h:KIs w b F) {B:Nat} (hb:Below B w w') (hB:b<B):KIs w' b F :=
 ⟨by rw[hb.cell (p:=⟨b,0,none⟩) hB]; exact h.k0,by rw[hb.cell (p:=⟨b,1,none⟩) hB]; exact h.k1,by rw[hb.cell (p:=⟨b,2,none⟩) hB]; exact h.k2,by rw[hb.cell (p:=⟨b,3,none⟩) hB]; exact h.k3,
  by rw[hb.cell (p:=⟨b,4,none⟩) hB]; exact h.k4,by rw[hb.cell (p:=⟨b,5,none⟩) hB]; exact h.k5,by rw[hb.cell (p:=⟨b,6,none⟩) hB]; exact h.k6,by rw[hb.cell (p:=⟨b,7,none⟩) hB]; exact h.k7,by rw[hb.cell (p:=⟨b,8,none⟩) hB]; exact h.k8,Nat.lt_of_lt_of_le h.lt hb.size⟩
theorem KIs.same {w w':World} {b:Nat} {F:FC} (h:KIs w b F) (hb:Below w.heap.size w w'):KIs w' b F:=h.below hb h.lt
theorem KIs.drewN {w:World} {b:Nat} {F:FC} (h:KIs w b F) (n:Nat):KIs (w.drewN n) b F:=⟨h.k0,h.k1,h.k2,h.k3,h.k4,h.k5,h.k6,h.k7,h.k8,h.lt⟩
theorem KIs.other {w:World} {b d i:Nat} {F:FC} (h:KIs w b F) (hd:d≠b) (v:Value):KIs (w.setCell ⟨d,i,none⟩ v) b F :=
 ⟨by rw[World.cell?_setCell_other (h:=fun he=>hd (by simpa using congrArg Addr.block he)) ..]; exact h.k0,by rw[World.cell?_setCell_other (h:=fun he=>hd (by simpa using congrArg Addr.block he)) ..]; exact h.k1,
  by rw[World.cell?_setCell_other (h:=fun he=>hd (by simpa using congrArg Addr.block he)) ..]; exact h.k2,by rw[World.cell?_setCell_other (h:=fun he=>hd (by simpa using congrArg Addr.block he)) ..]; exact h.k3,
  by rw[World.cell?_setCell_other (h:=fun he=>hd (by simpa using congrArg Addr.block he)) ..]; exact h.k4,by rw[World.cell?_setCell_other (h:=fun he=>hd (by simpa using congrArg Addr.block he)) ..]; exact h.k5,
  by rw[World.cell?_setCell_other (h:=fun he=>hd (by simpa using congrArg Addr.block he)) ..]; exact h.k6,by rw[World.cell?_setCell_other (h:=fun he=>hd (by simpa using congrArg Addr.block he)) ..]; exact h.k7,
  by rw[World.cell?_setCell_other (h:=fun he=>hd (by simpa using congrArg Addr.block he)) ..]; exact h.k8,by rw[World.size_setCell]; exact h.lt⟩
theorem WC {a0 a1 a2 a3 b0 b1 b2 b3:Nat} (ha:bY a0 a1 a2 a3) (hb:bY b0 b1 b2 b3):∃d0 c0 d1 c1 d2 c2 d3 c3:Nat,
  (∀w,(callFunc 123 #[.int .u64 (a0:Int),.int .u64 (b0:Int),.int .u64 0]).run prog w=.ok (.value (.tuple #[.int .u64 (d0:Int),.int .u64 (c0:Int)])) w) ∧
  (∀w,(callFunc 123 #[.int .u64 (a1:Int),.int .u64 (b1:Int),.int .u64 (c0:Int)]).run prog w=.ok (.value (.tuple #[.int .u64 (d1:Int),.int .u64 (c1:Int)])) w) ∧
  (∀w,(callFunc 123 #[.int .u64 (a2:Int),.int .u64 (b2:Int),.int .u64 (c1:Int)]).run prog w=.ok (.value (.tuple #[.int .u64 (d2:Int),.int .u64 (c2:Int)])) w) ∧
  (∀w,(callFunc 123 #[.int .u64 (a3:Int),.int .u64 (b3:Int),.int .u64 (c2:Int)]).run prog w=.ok (.value (.tuple #[.int .u64 (d3:Int),.int .u64 (c3:Int)])) w) ∧
  bY d0 d1 d2 d3∧c3≤1∧Hid (aC d0 d1 d2 d3+aC b0 b1 b2 b3=aC a0 a1 a2 a3+115792089237316195423570985008687907853269984665640564039457584007913129639936*c3):=by
 obtain⟨d0,c0,r0,h0,k0,e0⟩:=RC ha.1 hb.1;obtain⟨d1,c1,r1,h1,k1,e1⟩:=rZ ha.2.1 hb.2.1 k0;obtain⟨d2,c2,r2,h2,k2,e2⟩:=rZ ha.2.2.1 hb.2.2.1 k1;obtain⟨d3,c3,r3,h3,k3,e3⟩:=rZ ha.2.2.2 hb.2.2.2 k2;exact⟨d0,c0,d1,c1,d2,c2,d3,c3,r0,r1,r2,r3,⟨h0,h1,h2,h3⟩,k3,Lib.hid (by have:=e0.out; have:=e1.out; have:=e2.out; have:=e3.out; unfold aC; omega)⟩
theorem Xb {a0 a1 a2 a3 b0 b1 b2 b3:Nat} (ha:bY a0 a1 a2 a3) (hb:bY b0 b1 b2 b3):∃d0 c0 d1 c1 d2 c2 d3 c3:Nat,
  (∀w,(callFunc 119 #[.int .u64 (a0:Int),.int .u64 (b0:Int),.int .u64 0]).run prog w=.ok (.value (.tuple #[.int .u64 (d0:Int),.int .u64 (c0:Int)])) w) ∧
  (∀w,(callFunc 119 #[.int .u64 (a1:Int),.int .u64 (b1:Int),.int .u64 (c0:Int)]).run prog w=.ok (.value (.tuple #[.int .u64 (d1:Int),.int .u64 (c1:Int)])) w) ∧
  (∀w,(callFunc 119 #[.int .u64 (a2:Int),.int .u64 (b2:Int),.int .u64 (c1:Int)]).run prog w=.ok (.value (.tuple #[.int .u64 (d2:Int),.int .u64 (c2:Int)])) w) ∧
  (∀w,(callFunc 119 #[.int .u64 (a3:Int),.int .u64 (b3:Int),.int .u64 (c2:Int)]).run prog w=.ok (.value (.tuple #[.int .u64 (d3:Int),.int .u64 (c3:Int)])) w) ∧
  bY d0 d1 d2 d3∧c3≤1∧Hid (aC d0 d1 d2 d3+115792089237316195423570985008687907853269984665640564039457584007913129639936*c3=aC a0 a1 a2 a3+aC b0 b1 b2 b3):=by
 obtain⟨d0,c0,r0,h0,k0,e0⟩:=sA ha.1 hb.1;obtain⟨d1,c1,r1,h1,k1,e1⟩:=sB ha.2.1 hb.2.1 k0;obtain⟨d2,c2,r2,h2,k2,e2⟩:=sB ha.2.2.1 hb.2.2.1 k1;obtain⟨d3,c3,r3,h3,k3,e3⟩:=sB ha.2.2.2 hb.2.2.2 k2;exact⟨d0,c0,d1,c1,d2,c2,d3,c3,r0,r1,r2,r3,⟨h0,h1,h2,h3⟩,k3,Lib.hid (by have:=e0.out; have:=e1.out; have:=e2.out; have:=e3.out; unfold aC; omega)⟩
def fF (V:Nat) (w:World) (e:Ending) (w':World):Prop :=
 ∃s0 s1 s2 s3:Nat,e=.returned (.agg #[.int .u64 s0,.int .u64 s1,.int .u64 s2,.int .u64 s3])∧bY s0 s1 s2 s3∧aC s0 s1 s2 s3=V∧Below w.heap.size w w'
set_option maxHeartbeats 1000000 in
theorem KO (F:FC) (hF:F.Ok) (b t0 t1 t2 t3:Nat) (ht:bY t0 t1 t2 t3) (hlt:aC t0 t1 t2 t3<2*F.M) (w:World) (hk:KIs w b F) :
  Calls prog 120 #[.pointer (some ⟨b,0,none⟩),.int .u64 t0,.int .u64 t1,.int .u64 t2,.int .u64 t3] w (fF (aC t0 t1 t2 t3%F.M) w):=by
 obtain⟨d0,c0,d1,c1,d2,c2,d3,c3,r0,r1,r2,r3,hd,hc,e⟩:=WC ht hF.okm;have vd:=bO hd;have vt:=bO ht;have HV:=Lib.hid (aGx hlt);have HM:=Lib.hid (show F.M=aC F.m0 F.m1 F.m2 F.m3 from rfl);have hL:=hk.lt;have k0:=hk.k0; have k1:=hk.k1; have k2:=hk.k2; have k3:=hk.k3;clear hk hF hlt;have hc':c3=0∨c3=1:=by omega
 rcases hc' with rfl|rfl
 ·go_enter func120,ntmps120
  go_wp2_with fail;refine bodyPost_ret (v:=.agg #[.int .u64 d0,.int .u64 d1,.int .u64 d2,.int .u64 d3]) (by simp[results,results120,go_sem]) rfl ?_;refine⟨_,_,_,_,rfl,hd,?_,?_⟩
  ·rw[HV.out,if_neg (by have:=e.out; have:=HM.out; omega)]; have:=e.out; have:=HM.out; omega
  ·repeat (first|exact Below.refl _ _|refine Below.drew ?_|refine Below.alloc ?_ (by first|(simp; done)|(simp; omega)) _|refine Below.setCell ?_ (by simp) _)
 ·go_enter func120,ntmps120
  go_wp2_with fail;refine bodyPost_ret (v:=.agg #[.int .u64 t0,.int .u64 t1,.int .u64 t2,.int .u64 t3]) (by simp[results,results120,go_sem]) rfl ?_;refine⟨_,_,_,_,rfl,ht,?_,?_⟩
  ·rw[HV.out,if_pos (by have:=e.out; have:=HM.out; omega)]
  ·repeat (first|exact Below.refl _ _|refine Below.drew ?_|refine Below.alloc ?_ (by first|(simp; done)|(simp; omega)) _|refine Below.setCell ?_ (by simp) _)
theorem aIY (F:FC) (hF:F.Ok) {x y0 y1 y2 y3 t0 t1 t2 t3:Nat} {X:Nat→Nat} {k:Nat} (hk:k<4) (hx:x<18446744073709551616) (hX:X k=x) (hy:bY y0 y1 y2 y3) (hY:aC y0 y1 y2 y3<F.M) (ht:bY t0 t1 t2 t3) (g:Rq F.M X (aC y0 y1 y2 y3) k (aC t0 t1 t2 t3)) :
  ∃o0 l0 cl c0 z o1 l1 c1 n0 o2 l2 c2 n1 o3 l3 c3 n2 n3:Nat,
  (∀w,Calls prog 121 #[.int .u64 x,.int .u64 y0,.int .u64 t0,.int .u64 0] w fun e w'=>e=.returned (.tuple #[.int .u64 (o0:Nat),.int .u64 (l0:Nat)])∧w'=w) ∧
  IntKind.u64.wrap ((l0:Int)*(F.inv:Int))=(cl:Int) ∧
  (∀w,Calls prog 121 #[.int .u64 cl,.int .u64 F.m0,.int .u64 l0,.int .u64 0] w fun e w'=>e=.returned (.tuple #[.int .u64 (c0:Nat),.int .u64 (z:Nat)])∧w'=w) ∧
  (∀w,Calls prog 121 #[.int .u64 x,.int .u64 y1,.int .u64 t1,.int .u64 o0] w fun e w'=>e=.returned (.tuple #[.int .u64 (o1:Nat),.int .u64 (l1:Nat)])∧w'=w) ∧
  (∀w,Calls prog 121 #[.int .u64 cl,.int .u64 F.m1,.int .u64 l1,.int .u64 c0] w fun e w'=>e=.returned (.tuple #[.int .u64 (c1:Nat),.int .u64 (n0:Nat)])∧w'=w) ∧
  (∀w,Calls prog 121 #[.int .u64 x,.int .u64 y2,.int .u64 t2,.int .u64 o1] w fun e w'=>e=.returned (.tuple #[.int .u64 (o2:Nat),.int .u64 (l2:Nat)])∧w'=w) ∧
  (∀w,Calls prog 121 #[.int .u64 cl,.int .u64 F.m2,.int .u64 l2,.int .u64 c1] w fun e w'=>e=.returned (.tuple #[.int .u64 (c2:Nat),.int .u64 (n1:Nat)])∧w'=w) ∧
  (∀w,Calls prog 121 #[.int .u64 x,.int .u64 y3,.int .u64 t3,.int .u64 o2] w fun e w'=>e=.returned (.tuple #[.int .u64 (o3:Nat),.int .u64 (l3:Nat)])∧w'=w) ∧
  (∀w,Calls prog 121 #[.int .u64 cl,.int .u64 F.m3,.int .u64 l3,.int .u64 c2] w fun e w'=>e=.returned (.tuple #[.int .u64 (c3:Nat),.int .u64 (n2:Nat)])∧w'=w) ∧
  (o3:Int)+(c3:Int)=(n3:Int)∧o3+c3<18446744073709551616∧bY n0 n1 n2 n3∧Hid (Rq F.M X (aC y0 y1 y2 y3) (k+1) (aC n0 n1 n2 n3)):=by
 obtain⟨o0,l0,r0,bo0,bl0,e0⟩:=EY hx hy.1 ht.1 (show 0<18446744073709551616 by omega);obtain⟨cl,hcl⟩:∃cl,cl=l0*F.inv%18446744073709551616:=⟨_,rfl⟩
 have bcl:cl<18446744073709551616:=by omega
 obtain⟨c0,z,s0,bc0,bz,f0⟩:=EY bcl hF.okm.1 bl0 (show 0<18446744073709551616 by omega);obtain⟨o1,l1,r1,bo1,wV,e1⟩:=EY hx hy.2.1 ht.2.1 bo0;obtain⟨c1,n0,s1,bc1,bn0,f1⟩:=EY bcl hF.okm.2.1 wV bc0;obtain⟨o2,l2,r2,bo2,tZ,e2⟩:=EY hx hy.2.2.1 ht.2.2.1 bo1;obtain⟨c2,n1,s2,bc2,bn1,f2⟩:=EY bcl hF.okm.2.2.1 tZ bc1;obtain⟨o3,l3,r3,bo3,bl3,e3⟩:=EY hx hy.2.2.2 ht.2.2.2 bo2;obtain⟨c3,n2,s3,bc3,bn2,f3⟩:=EY bcl hF.okm.2.2.2 bl3 bc2;have hz:z=0:=by
  have h:=Pr (l:=l0) hF.turn;rw[←hcl]at h;have:=f0.out;omega
 subst hz;have ha:=Cr (e0.out) (f0.out) e1.out f1.out e2.out f2.out e3.out f3.out;have hg:=aCt (X:=X) hk g (by rw[hX]; exact hx) hY bcl (N:=aC n0 n1 n2 (o3+c3)) (by rw[hX]; exact ha);have hn3:o3+c3<18446744073709551616:=aDx (B:=0) (Nat.lt_trans hg.1 hF.two);refine⟨o0,l0,cl,c0,0,o1,l1,c1,n0,o2,l2,c2,n1,o3,l3,c3,n2,o3+c3,r0,?_,s0,r1,s1,r2,s2,r3,s3,?_,hn3,⟨bn0,bn1,bn2,hn3⟩,Lib.hid hg⟩
 ·rw[hcl,←Int.natCast_mul]; exact lN _
 ·exact (Int.natCast_add _ _).symm
theorem Oo (x0 x1 x2 x3 k:Nat) (hk:k<4) (w:World):(Instr.index 113 (.agg #[.int .u64 x0,.int .u64 x1,.int .u64 x2,.int .u64 x3]) (.int .i64 k)).run prog w=.ok (.int .u64 (fL [x0,x1,x2,x3] k:Nat)) w:=by
 have h0:∀w,(Instr.index 113 (.agg #[.int .u64 x0,.int .u64 x1,.int .u64 x2,.int .u64 x3]) (.int .i64 0)).run prog w=.ok (.int .u64 x0) w:=fun _=>by kernel_rfl
 have h1:∀w,(Instr.index 113 (.agg #[.int .u64 x0,.int .u64 x1,.int .u64 x2,.int .u64 x3]) (.int .i64 1)).run prog w=.ok (.int .u64 x1) w:=fun _=>by kernel_rfl
 have h2:∀w,(Instr.index 113 (.agg #[.int .u64 x0,.int .u64 x1,.int .u64 x2,.int .u64 x3]) (.int .i64 2)).run prog w=.ok (.int .u64 x2) w:=fun _=>by kernel_rfl
 have h3:∀w,(Instr.index 113 (.agg #[.int .u64 x0,.int .u64 x1,.int .u64 x2,.int .u64 x3]) (.int .i64 3)).run prog w=.ok (.int .u64 x3) w:=fun _=>by kernel_rfl
 have:k=0∨k=1∨k=2∨k=3:=by omega
 rcases this with rfl|rfl|rfl|rfl
 ·exact h0 w
 ·exact h1 w
 ·exact h2 w
 ·exact h3 w
set_option maxHeartbeats 4000000 in
theorem jU (F:FC) (hF:F.Ok) (b x0 x1 x2 x3 y0 y1 y2 y3:Nat) (hx:bY x0 x1 x2 x3) (hy:bY y0 y1 y2 y3) (hY:aC y0 y1 y2 y3<F.M) (w:World) (hk:KIs w b F) :
  Calls prog 58 #[.pointer (some ⟨b,0,none⟩),.agg #[.int .u64 x0,.int .u64 x1,.int .u64 x2,.int .u64 x3],.agg #[.int .u64 y0,.int .u64 y1,.int .u64 y2,.int .u64 y3]] w (fF (aC x0 x1 x2 x3*aC y0 y1 y2 y3*F.Ri%F.M) w):=by
 obtain⟨X,eX⟩:∃X,X=fL [x0,x1,x2,x3]:=⟨_,rfl⟩
 have HX:=Lib.hid eX;have hXlt:=vC hx;have HXlt:=Lib.hid hXlt;have HY:=Lib.hid hY;have HF:=Lib.hid hF;have HK:=Lib.hid hk;have HI:=Lib.hid (Oo x0 x1 x2 x3);have hL:=hk.lt;have hL1:b<w.heap.size+1:=by omega
 have hL2:b<w.heap.size+1+1:=by omega
 have k0:=hk.k0; have k1:=hk.k1; have k2:=hk.k2; have k3:=hk.k3; have k4:=hk.k4;have bi:=hF.inv;have HG:=Lib.hid (aCs (Y:=aC y0 y1 y2 y3) X (show 0<F.M by have:=hF.gt; omega));clear eX hXlt hY hF hk
 go_enter func58,ntmps58
 go_wp2_with fail
 go_loop [8,9,10,11,23] (fun v0 v1 v2 v3 i=>∃k t0 t1 t2 t3:Nat,k≤4∧i=.int .i64 k∧v0=.int .u64 t0∧v1=.int .u64 t1∧v2=.int .u64 t2∧v3=.int .u64 t3∧bY t0 t1 t2 t3∧Hid (Rq F.M X (aC y0 y1 y2 y3) k (aC t0 t1 t2 t3))) (fun _ _ _ _ i=>4-(intOf i).toNat)
 case atStart=>exact⟨0,0,0,0,0,by omega,rfl,rfl,rfl,rfl,rfl,⟨by omega,by omega,by omega,by omega⟩,HG⟩
 case round =>
  obtain⟨k,t0,t1,t2,t3,hk,rfl,rfl,rfl,rfl,rfl,ht,g⟩:=hrel
  by_cases hlt:k<4
  ·obtain⟨x,ex⟩:∃x,x=fL [x0,x1,x2,x3] k:=⟨_,rfl⟩
   have hi:=HI.out k hlt;rw[←ex]at hi;have bx:x<18446744073709551616:=by rw[ex]; exact HXlt.out k
   obtain⟨o0,l0,cl,c0,z,o1,l1,c1,n0,o2,l2,c2,n1,o3,l3,c3,n2,n3,r0,q,s0,r1,s1,r2,s2,r3,s3,p,hp,hn,hg⟩:=aIY F HF.out hlt bx (by rw[ex,HX.out]) hy HY.out ht g.out;clear ex g;go_wp2_with (first|(with_reducible refine (r0 _).mono ?_; rintro e w' ⟨rfl,rfl⟩)|(with_reducible refine (s0 _).mono ?_; rintro e w' ⟨rfl,rfl⟩)|(with_reducible refine (r1 _).mono ?_; rintro e w' ⟨rfl,rfl⟩)|(with_reducible refine (s1 _).mono ?_; rintro e w' ⟨rfl,rfl⟩)|(with_reducible refine (r2 _).mono ?_; rintro e w' ⟨rfl,rfl⟩)|(with_reducible refine (s2 _).mono ?_; rintro e w' ⟨rfl,rfl⟩)|(with_reducible refine (r3 _).mono ?_; rintro e w' ⟨rfl,rfl⟩)|(with_reducible refine (s3 _).mono ?_; rintro e w' ⟨rfl,rfl⟩))
   go_round
   case rel=>exact⟨k+1,n0,n1,n2,n3,by omega,by go_num,rfl,rfl,rfl,rfl,hn,hg⟩
   case measure=>simp[intOf]; omega
  ·obtain rfl:k=4:=by omega
   obtain⟨ge,gv⟩:=aIu HF.out (x0:=x0) (x1:=x1) (x2:=x2) (x3:=x3) (by rw[HX.out]; rfl) (by rw[HX.out]; rfl) (by rw[HX.out]; rfl) (by rw[HX.out]; rfl) g.out;have HGV:=Lib.hid gv;clear gv g;go_wp2_with fail;refine (KO F HF.out b t0 t1 t2 t3 ht ge _ (HK.out.same ?_)).mono ?_
   ·repeat (first|exact Below.refl _ _|refine Below.drew ?_|refine Below.alloc ?_ (by first|(simp; done)|(simp; omega)) _)
   rintro e w1 ⟨s0,s1,s2,s3,rfl,hs,hv,hbl⟩
   have HV:=Lib.hid hv;obtain⟨hc,hf⟩:=MU hbl;have hz:w.heap.size+1+1<w1.heap.size:=by have:=hbl.size; simp at this; omega
   have HBL:=Lib.hid hbl;clear hv hbl;go_wp2_with fail;refine bodyPost_ret (v:=.agg #[.int .u64 s0,.int .u64 s1,.int .u64 s2,.int .u64 s3]) (by simp[results,results58,go_sem, *]) rfl ?_;refine⟨_,_,_,_,rfl,hs,HV.out.trans HGV.out,?_⟩;refine bF (Below.trans ?_ (HBL.out.mono (by simp; omega))) (by omega) _ _ _ _
   repeat (first|exact Below.refl _ _|refine Below.drew ?_|refine Below.alloc ?_ (by first|(simp; done)|(simp; omega)) _)
def GX (V M:Nat):Bool:=decide (V<M)
theorem aXc {V M c D:Nat} (hD:D<115792089237316195423570985008687907853269984665640564039457584007913129639936) (hc:c≤1) (e:D+M=V+115792089237316195423570985008687907853269984665640564039457584007913129639936*c) (hM:M<115792089237316195423570985008687907853269984665640564039457584007913129639936) (hV:V<115792089237316195423570985008687907853269984665640564039457584007913129639936):((c:Int)==1)=GX V M:=by
 have:c=0∨c=1:=by omega
 unfold GX
 rcases this with rfl|rfl
 ·rw[decide_eq_false (by omega)]; rfl
 ·rw[decide_eq_true (by omega)]; rfl
theorem Da {a b:Bool} (h:a=b):Ending.returned (.bool a)=.returned (.bool b):=by rw[h]
set_option maxHeartbeats 1000000 in
theorem eM (F:FC) (hF:F.Ok) (b a0 a1 a2 a3:Nat) (ha:bY a0 a1 a2 a3) (w:World) (hk:KIs w b F) :
  Calls prog 61 #[.pointer (some ⟨b,0,none⟩),.agg #[.int .u64 a0,.int .u64 a1,.int .u64 a2,.int .u64 a3]] w fun e w'=>e=.returned (.bool (GX (aC a0 a1 a2 a3) F.M))∧Below w.heap.size w w':=by
 obtain⟨d0,c0,d1,c1,d2,c2,d3,c3,r0,r1,r2,r3,hd,hc,e⟩:=WC ha hF.okm;have HB:=Lib.hid (aXc (bO hd) hc e.out (bO hF.okm) (bO ha));have hL:=hk.lt;have hL':b≠w.heap.size:=by omega
 have k0:=hk.k0; have k1:=hk.k1; have k2:=hk.k2; have k3:=hk.k3;clear hk hF e
 go_enter func61,ntmps61
 go_wp2_with fail
 go_quiet (fail)
 go_wp2_with fail
 go_quiet (fail)
 go_wp2_with fail
 go_quiet (fail)
 go_wp2_with fail
 go_quiet (fail)
 go_wp2_with fail;go_ret;exact⟨Da HB.out,by repeat (first|exact Below.refl _ _|refine Below.drew ?_|exact bG _ _ _|refine Below.alloc ?_ (by first|(simp; done)|(simp; omega)) _|refine Below.trans ?_ (bG _ _ _))⟩
set_option maxHeartbeats 1000000 in
theorem KD (F:FC) (hF:F.Ok) (b a0 a1 a2 a3 b0 b1 b2 b3:Nat) (ha:bY a0 a1 a2 a3) (hb:bY b0 b1 b2 b3) (la:aC a0 a1 a2 a3<F.M) (lb:aC b0 b1 b2 b3<F.M) (w:World) (hk:KIs w b F) :
  Calls prog 57 #[.pointer (some ⟨b,0,none⟩),.agg #[.int .u64 a0,.int .u64 a1,.int .u64 a2,.int .u64 a3],.agg #[.int .u64 b0,.int .u64 b1,.int .u64 b2,.int .u64 b3]] w (fF ((aC a0 a1 a2 a3+aC b0 b1 b2 b3)%F.M) w):=by
 obtain⟨d0,c0,d1,c1,d2,c2,d3,c3,r0,r1,r2,r3,hd,hc,e⟩:=Xb ha hb;have e':aC d0 d1 d2 d3=aC a0 a1 a2 a3+aC b0 b1 b2 b3:=by have:=e.out; have:=hF.two; omega
 rw[←e'];have hlt:aC d0 d1 d2 d3<2*F.M:=by omega
 have HK:=Lib.hid hk;have hL:=hk.lt;clear e e' hk
 go_enter func57,ntmps57
 go_wp2_with fail;refine (KO F hF b d0 d1 d2 d3 hd hlt _ (HK.out.same ?_)).mono ?_
 ·repeat (first|exact Below.refl _ _|refine Below.drew ?_|refine Below.alloc ?_ (by first|(simp; done)|(simp; omega)) _)
 rintro e w1 ⟨s0,s1,s2,s3,rfl,hs,hv,hbl⟩
 have HV:=Lib.hid hv;obtain⟨hc,hf⟩:=MU hbl;have hz:w.heap.size+1+1<w1.heap.size:=by have:=hbl.size; simp at this; omega
 have HBL:=Lib.hid hbl;clear hv hbl;go_wp2_with fail;refine bodyPost_ret (v:=.agg #[.int .u64 s0,.int .u64 s1,.int .u64 s2,.int .u64 s3]) (by simp[results,results57,go_sem, *]) rfl ?_;refine⟨_,_,_,_,rfl,hs,HV.out,?_⟩;refine bF (Below.trans ?_ (HBL.out.mono (by simp; omega))) (by omega) _ _ _ _
 repeat (first|exact Below.refl _ _|refine Below.drew ?_|refine Below.alloc ?_ (by first|(simp; done)|(simp; omega)) _)
theorem aCk {A B D M c:Nat} (ha:A<M) (hb:B<M) (e:D+B=A+115792089237316195423570985008687907853269984665640564039457584007913129639936*c) (hc:c≤1) (hD:D<115792089237316195423570985008687907853269984665640564039457584007913129639936) (hM:2*M<115792089237316195423570985008687907853269984665640564039457584007913129639936) :
  (c=0→D=(A+M-B)%M)∧(c=1→∀E c',E+115792089237316195423570985008687907853269984665640564039457584007913129639936*c'=D+M→c'≤1→E<115792089237316195423570985008687907853269984665640564039457584007913129639936→E=(A+M-B)%M):=by
 refine⟨fun h => ?_,fun h E c' e' hc' hE => ?_⟩
 ·subst h;rw[show A+M-B=(A-B)+M by omega,Nat.add_mod_right,Nat.mod_eq_of_lt (by omega)]; omega
 ·subst h;have:c'=0∨c'=1:=by omega
  rw[Nat.mod_eq_of_lt (by omega)]; omega
set_option maxHeartbeats 1000000 in
theorem EN (F:FC) (hF:F.Ok) (b a0 a1 a2 a3 b0 b1 b2 b3:Nat) (ha:bY a0 a1 a2 a3) (hb:bY b0 b1 b2 b3) (la:aC a0 a1 a2 a3<F.M) (lb:aC b0 b1 b2 b3<F.M) (w:World) (hk:KIs w b F) :
  Calls prog 63 #[.pointer (some ⟨b,0,none⟩),.agg #[.int .u64 a0,.int .u64 a1,.int .u64 a2,.int .u64 a3],.agg #[.int .u64 b0,.int .u64 b1,.int .u64 b2,.int .u64 b3]] w (fF ((aC a0 a1 a2 a3+F.M-aC b0 b1 b2 b3)%F.M) w):=by
 obtain⟨d0,c0,d1,c1,d2,c2,d3,c3,r0,r1,r2,r3,hd,hc,e⟩:=WC ha hb;have hv:=aCk la lb e.out hc (bO hd) hF.two;have hL:=hk.lt;have hL1:b<w.heap.size+1:=by omega
 have hL2:b<w.heap.size+1+1:=by omega
 have k0:=hk.k0; have k1:=hk.k1; have k2:=hk.k2; have k3:=hk.k3;have HM:=Lib.hid (show F.M=aC F.m0 F.m1 F.m2 F.m3 from rfl);clear la lb e hk;have hc':c3=0∨c3=1:=by omega
 rcases hc' with rfl|rfl
 ·have HV:=Lib.hid (hv.1 rfl);clear hv hF
  go_enter func63,ntmps63
  go_wp2_with fail;refine bodyPost_ret (v:=.agg #[.int .u64 d0,.int .u64 d1,.int .u64 d2,.int .u64 d3]) (by simp[results,results63,go_sem]) rfl ?_;refine⟨_,_,_,_,rfl,hd,HV.out,?_⟩
  repeat (first|exact Below.refl _ _|refine Below.drew ?_|refine Below.alloc ?_ (by first|(simp; done)|(simp; omega)) _|refine Below.setCell ?_ (by simp) _)
 ·obtain⟨n0,g0,n1,g1,n2,g2,n3,g3,q0,q1,q2,q3,hn,hg,f⟩:=Xb hd hF.okm;have HV:=Lib.hid (hv.2 rfl _ _ (by rw[HM.out]; exact f.out) hg (bO hn));clear hv f hF
  go_enter func63,ntmps63
  go_wp2_with fail;refine bodyPost_ret (v:=.agg #[.int .u64 n0,.int .u64 n1,.int .u64 n2,.int .u64 n3]) (by simp[results,results63,go_sem]) rfl ?_;refine⟨_,_,_,_,rfl,hn,HV.out,?_⟩
  repeat (first|exact Below.refl _ _|refine Below.drew ?_|refine Below.alloc ?_ (by first|(simp; done)|(simp; omega)) _|refine Below.setCell ?_ (by simp) _)
def kp (F:FC) (a:Nat):Nat:=a*F.R%F.M
section
variable {F:FC}
theorem aRK (hF:F.Ok) (a:Nat):kp F a<F.M:=Nat.mod_lt _ (by have:=hF.gt; omega)
theorem qZ (hF:F.Ok) (x:Nat):x*F.R*F.Ri%F.M=x%F.M:=by
 rw[Nat.mul_assoc,Nat.mul_mod,hF.ri,Nat.mul_one,Nat.mod_mod]
theorem tE {M a b c d:Nat} (h:a%M=b%M) (h':c%M=d%M):a*c%M=b*d%M:=by rw[Nat.mul_mod,h,h',←Nat.mul_mod]
theorem yQ (M a:Nat):a%M%M=a%M:=Nat.mod_mod _ _
theorem Fz (hF:F.Ok) (a b:Nat):kp F a*kp F b*F.Ri%F.M=kp F (a*b%F.M):=by
 have h:kp F a*kp F b*F.Ri%F.M=a*F.R*(b*F.R)*F.Ri%F.M:=tE (tE (yQ _ _) (yQ _ _)) rfl;have e:a*F.R*(b*F.R)=a*b*F.R*F.R:=by rw[Nat.mul_mul_mul_comm,Nat.mul_assoc (a*b)]
 rw[h,e,qZ hF];unfold kp;rw[CS]
theorem VH (hF:F.Ok) (a:Nat):a*aC F.s0 F.s1 F.s2 F.s3*F.Ri%F.M=kp F a:=by
 have h:a*aC F.s0 F.s1 F.s2 F.s3*F.Ri%F.M=a*(F.R*F.R)*F.Ri%F.M:=by rw[hF.sq]; exact tE (tE rfl (yQ _ _)) rfl
 rw[h,←Nat.mul_assoc,qZ hF];rfl
theorem LL (hF:F.Ok) (a b:Nat):kp F a*b*F.Ri%F.M=a*b%F.M:=by
 have h:kp F a*b*F.Ri%F.M=a*F.R*b*F.Ri%F.M:=tE (tE (yQ _ _) rfl) rfl;rw[h,Nat.mul_right_comm a,qZ hF]
theorem VG (F:FC) (a:Nat):kp F (a%F.M)=kp F a:=by unfold kp; rw[CS]
theorem ET (F:FC) (a n b:Nat) (h:b=0∨b=1):(b=0→kp F (a^(2*n+b))=kp F (a^n*a^n%F.M))∧(b=1→kp F (a^(2*n+b))=kp F (a^n*a^n%F.M*a%F.M)):=by
 have e:a^(2*n)=a^n*a^n:=by rw[Nat.two_mul,Nat.pow_add]
 refine⟨fun h => ?_,fun h => ?_⟩
 ·subst h; rw[Nat.add_zero,VG,e]
 ·subst h; rw[VG,Nat.pow_succ,e,←VG F (_%_*a),CS,VG]
end
theorem FC.Ok.sqlt {F:FC} (hF:F.Ok):aC F.s0 F.s1 F.s2 F.s3<F.M:=by rw[hF.sq]; exact Nat.mod_lt _ (by have:=hF.gt; omega)
theorem FC.Ok.pos {F:FC} (hF:F.Ok):0<F.M:=by have:=hF.gt; omega
set_option maxHeartbeats 1000000 in
theorem sV (F:FC) (hF:F.Ok) (b a0 a1 a2 a3:Nat) (ha:bY a0 a1 a2 a3) (w:World) (hk:KIs w b F) :
  Calls prog 59 #[.pointer (some ⟨b,0,none⟩),.agg #[.int .u64 a0,.int .u64 a1,.int .u64 a2,.int .u64 a3]] w (fF (kp F (aC a0 a1 a2 a3)) w):=by
 have HK:=Lib.hid hk;have HF:=Lib.hid hF;have hL:=hk.lt;have hL1:b<w.heap.size+1:=by omega
 have hL2:b<w.heap.size+1+1:=by omega
 have k5:=hk.k5; have k6:=hk.k6; have k7:=hk.k7; have k8:=hk.k8;clear hk hF
 go_enter func59,ntmps59
 go_wp2_with fail
 go_region_with (go_at_call 58; refine (jU F HF.out b a0 a1 a2 a3 F.s0 F.s1 F.s2 F.s3 ha HF.out.oks HF.out.sqlt _ (HK.out.same (by repeat (first|exact Below.refl _ _|refine Below.drew ?_|refine Below.trans ?_ (bG _ _ _)|refine Below.alloc ?_ (by first|(simp; done)|(simp; omega)) _)))).mono ?_; rintro e ws ⟨s0,s1,s2,s3,rfl,hs,hv,hbl⟩; have HVs:=Lib.hid hv; obtain⟨hcs,hfs⟩:=MU hbl; have hzs:w.heap.size+1<ws.heap.size:=by { have:=hbl.size; simp at this; omega }; have HBLs:=Lib.hid hbl; clear hv hbl)
 all_goals (
  go_wp2_with fail;refine bodyPost_ret (v:=.agg #[.int .u64 s0,.int .u64 s1,.int .u64 s2,.int .u64 s3]) (by simp[results,results59,go_sem, *]) rfl ?_;refine⟨_,_,_,_,rfl,hs,HVs.out.trans (VH HF.out _),?_⟩;refine bF (Below.trans ?_ (HBLs.out.mono (by first|(simp; done)|(simp; omega)))) (by omega) _ _ _ _
  repeat (first|exact Below.refl _ _|refine Below.drew ?_|refine Below.trans ?_ (bG _ _ _)|refine Below.alloc ?_ (by first|(simp; done)|(simp; omega)) _)
 )
theorem LD (n:Nat) (hn:n<18446744073709551616) (w:World):Calls prog 97 #[.int .u64 n] w fun e w'=>e=.returned (.agg #[.int .u64 n,.int .u64 0,.int .u64 0,.int .u64 0])∧Below w.heap.size w w':=by
 go_enter func97,ntmps97
 go_wp2_with fail;refine bodyPost_ret (v:=.agg #[.int .u64 n,.int .u64 0,.int .u64 0,.int .u64 0]) (by simp[results,results97,go_sem]) rfl ?_;exact⟨rfl,by repeat (first|exact Below.refl _ _|refine Below.drew ?_|refine Below.alloc ?_ (by first|(simp; done)|(simp; omega)) _|refine Below.setCell ?_ (by simp) _)⟩
set_option maxHeartbeats 1000000 in
theorem aBU (F:FC) (hF:F.Ok) (b:Nat)  (w:World) (hk:KIs w b F) :
  Calls prog 272 #[.pointer (some ⟨b,0,none⟩)] w (fF (kp F 1) w):=by
 have HK:=Lib.hid hk;have HF:=Lib.hid hF;have hL:=hk.lt;have hL1:b<w.heap.size+1:=by omega
 have hL2:b<w.heap.size+1+1:=by omega
 clear hk hF
 go_enter func272,ntmps272
 go_wp2_with fail;refine (LD 1 (by omega) _).mono ?_
 rintro e w1 ⟨rfl,hb1⟩
 have hz1:w.heap.size<w1.heap.size:=by have:=hb1.size; simp at this; omega
 obtain⟨hc1,hf1⟩:=MU hb1;have HB1:=Lib.hid hb1;have HK1:=Lib.hid ((HK.out.same (by repeat (first|exact Below.refl _ _|refine Below.drew ?_|refine Below.trans ?_ (bG _ _ _)|refine Below.alloc ?_ (by first|(simp; done)|(simp; omega)) _)):KIs (w.alloc _) b F).same hb1);clear hb1;go_wp2_with fail;refine (sV F HF.out b 1 0 0 0 ⟨by omega,by omega,by omega,by omega⟩ _ HK1.out).mono ?_
 rintro e ws ⟨s0,s1,s2,s3,rfl,hs,hv,hbl⟩
 have HVs:=Lib.hid hv;obtain⟨hcs,hfs⟩:=MU hbl;have hzs:w.heap.size<ws.heap.size:=by have:=hbl.size; omega
 have HBLs:=Lib.hid (HB1.out.trans (hbl.mono HB1.out.size));clear hv hbl;go_wp2_with fail;refine bodyPost_ret (v:=.agg #[.int .u64 s0,.int .u64 s1,.int .u64 s2,.int .u64 s3]) (by simp[results,results272,go_sem, *]) rfl ?_;refine⟨_,_,_,_,rfl,hs,HVs.out,?_⟩;refine bF (Below.trans ?_ (HBLs.out.mono (by first|(simp; done)|(simp; omega)))) (by omega) _ _ _ _
 repeat (first|exact Below.refl _ _|refine Below.drew ?_|refine Below.trans ?_ (bG _ _ _)|refine Below.alloc ?_ (by first|(simp; done)|(simp; omega)) _)
set_option maxHeartbeats 1000000 in
theorem qA (F:FC) (hF:F.Ok) (b a0 a1 a2 a3 b0 b1 b2 b3:Nat) (ha:bY a0 a1 a2 a3) (hb:bY b0 b1 b2 b3) (lb:aC b0 b1 b2 b3<F.M) (w:World) (hk:KIs w b F) :
  Calls prog 259 #[.pointer (some ⟨b,0,none⟩),.agg #[.int .u64 a0,.int .u64 a1,.int .u64 a2,.int .u64 a3],.agg #[.int .u64 b0,.int .u64 b1,.int .u64 b2,.int .u64 b3]] w (fF (aC a0 a1 a2 a3*aC b0 b1 b2 b3%F.M) w):=by
 have HK:=Lib.hid hk;have HF:=Lib.hid hF;have hL:=hk.lt;have hL1:b<w.heap.size+1:=by omega
 have hL2:b<w.heap.size+1+1:=by omega
 have HLB:=Lib.hid lb;clear lb;clear hk hF
 go_enter func259,ntmps259
 go_wp2_with fail
 go_region_with (first|(go_at_call 59; refine (sV F HF.out b a0 a1 a2 a3 ha _ (HK.out.same (by repeat (first|exact Below.refl _ _|refine Below.drew ?_|refine Below.trans ?_ (bG _ _ _)|refine Below.alloc ?_ (by first|(simp; done)|(simp; omega)) _)))).mono ?_; rintro e ws ⟨s0,s1,s2,s3,rfl,hs,hv,hbl⟩; have HVs:=Lib.hid hv; obtain⟨hcs,hfs⟩:=MU hbl; have hzs:w.heap.size+1+1<ws.heap.size:=by { have:=hbl.size; simp at this; omega }; have HBLs:=Lib.hid hbl; clear hv hbl; have HKs:=Lib.hid (KIs.same (F:=F) (b:=b) (HK.out.same (by repeat (first|exact Below.refl _ _|refine Below.drew ?_|refine Below.trans ?_ (bG _ _ _)|refine Below.alloc ?_ (by first|(simp; done)|(simp; omega)) _))) HBLs.out))|(go_at_call 58; refine (jU F HF.out b s0 s1 s2 s3 b0 b1 b2 b3 hs hb HLB.out _ HKs.out).mono ?_; rintro e wp ⟨p0,p1,p2,p3,rfl,hp,hv,hbl⟩; have HVp:=Lib.hid hv; obtain⟨hcp,hfp⟩:=MU hbl; have hzp:w.heap.size+1+1<wp.heap.size:=by { have:=hbl.size; omega }; have HBLp:=Lib.hid (HBLs.out.trans (hbl.mono HBLs.out.size)); clear hv hbl))
 all_goals (
  go_wp2_with fail;refine bodyPost_ret (v:=.agg #[.int .u64 p0,.int .u64 p1,.int .u64 p2,.int .u64 p3]) (by simp[results,results259,go_sem, *]) rfl ?_;refine⟨_,_,_,_,rfl,hp,HVp.out.trans (by rw[HVs.out]; exact LL HF.out _ _),?_⟩;refine bF (Below.trans ?_ (HBLp.out.mono (by first|(simp; done)|(simp; omega)))) (by omega) _ _ _ _
  repeat (first|exact Below.refl _ _|refine Below.drew ?_|refine Below.trans ?_ (bG _ _ _)|refine Below.alloc ?_ (by first|(simp; done)|(simp; omega)) _)
 )
theorem xP {a p:Nat} (ha:a<18446744073709551616) (hp:p≤63):∃lo hi:Nat,IntKind.u64.wrap ((a:Int)*2^p)=(lo:Int)∧(a:Int)/2^(64-p)=(hi:Int) ∧
  lo<18446744073709551616∧hi<18446744073709551616∧Hid (lo+18446744073709551616*hi=a*2^p)∧Hid (hi<2^p)∧Hid (∃t,lo=2^p*t):=by
 have hps:=CL p hp;have hpos:0<2^p:=Nat.two_pow_pos p;have hd:a*2^p/18446744073709551616=a/2^(64-p):=by rw[←hps]; exact Nat.mul_div_mul_right _ _ hpos
 have hh:a/2^(64-p)<2^p:=by rw[Nat.div_lt_iff_lt_mul (Nat.two_pow_pos _),Nat.mul_comm,hps]; exact ha
 refine⟨a*2^p%18446744073709551616,a/2^(64-p),?_,?_,by omega,?_,Lib.hid ?_,Lib.hid hh,Lib.hid ?_⟩
 ·rw[kY,lN]
 ·rw[Int.natCast_ediv,Int.natCast_pow]; rfl
 ·exact Nat.lt_of_le_of_lt (Nat.div_le_self _ _) ha
 ·rw[←hd]; omega
 ·refine⟨a%2^(64-p),?_⟩;rw[←hps,Nat.mul_mod_mul_right,Nat.mul_comm]
theorem RB {lo hi p:Nat} (hl:lo<18446744073709551616) (hh:hi<18446744073709551616) (h1:Hid (hi<2^p)) (h2:Hid (∃t,lo=2^p*t)):∃s:Nat,bits .or .u64 (lo:Int) (hi:Int)=(s:Int)∧s<18446744073709551616∧Hid (s=lo+hi):=by
 obtain⟨t,ht⟩:=h2.out;have e:lo ||| hi=lo+hi:=by rw[ht,←Nat.two_pow_add_eq_or_of_lt h1.out]
 refine⟨lo+hi,by rw[bits_or_u64_nat _ _ hl hh,e],?_,Lib.hid rfl⟩;rw[←e]; exact Nat.or_lt_two_pow (n:=64) hl hh
theorem mG {a p:Nat} (ha:a<18446744073709551616) (hp:p≤63):∃lo up:Nat,(a:Int)/2^p=(lo:Int)∧IntKind.u64.wrap ((a:Int)*2^(64-p))=(up:Int) ∧
  lo<18446744073709551616∧up<18446744073709551616∧Hid (∃m,a=lo*2^p+m∧m<2^p∧up*2^p=m*18446744073709551616)∧Hid (lo<2^(64-p))∧Hid (∃t,up=2^(64-p)*t):=by
 have hps:=CL p hp;have hpos:0<2^p:=Nat.two_pow_pos p;refine⟨a/2^p,a%2^p*2^(64-p),?_,?_,Nat.lt_of_le_of_lt (Nat.div_le_self _ _) ha,?_,Lib.hid ⟨a%2^p,?_,Nat.mod_lt _ hpos,?_⟩,Lib.hid ?_,Lib.hid ⟨a%2^p,Nat.mul_comm _ _⟩⟩
 ·rw[Int.natCast_ediv,Int.natCast_pow]; rfl
 ·rw[kY,lN];congr 1;rw[show 18446744073709551616=2^p*2^(64-p) by rw[Nat.mul_comm,hps],Nat.mul_mod_mul_right]
 ·have:=Nat.mul_lt_mul_of_pos_right (Nat.mod_lt a hpos) (Nat.two_pow_pos (64-p));rw[Nat.mul_comm (2^p),hps]at this;exact this
 ·rw[Nat.mul_comm]; exact (Nat.div_add_mod a (2^p)).symm
 ·rw[Nat.mul_assoc,hps]
 ·rw[Nat.div_lt_iff_lt_mul hpos,hps]; exact ha
theorem yO {lo up k:Nat} (hl:lo<18446744073709551616) (hu:up<18446744073709551616) (h1:Hid (lo<2^k)) (h2:Hid (∃t,up=2^k*t)):∃s:Nat,bits .or .u64 (lo:Int) (up:Int)=(s:Int)∧s<18446744073709551616∧Hid (s=lo+up):=by
 obtain⟨t,ht⟩:=h2.out;have e:lo ||| up=lo+up:=by rw[Nat.or_comm,ht,←Nat.two_pow_add_eq_or_of_lt h1.out,Nat.add_comm]
 refine⟨lo+up,by rw[bits_or_u64_nat _ _ hl hu,e],?_,Lib.hid rfl⟩;rw[←e]; exact Nat.or_lt_two_pow (n:=64) hl hu
theorem Gn {n:Int} (h0:0≤n) (q:Int) (h:n/64=q) (h1:0≤q):∃p:Nat,n%64=(p:Int)∧p≤63∧n.toNat=64*q.toNat+p :=
 ⟨(n%64).toNat,by omega,by omega,by omega⟩
theorem AC (q p:Nat):2^(64*q+p)=18446744073709551616^q*2^p:=by rw[Nat.pow_add,Nat.pow_mul]
theorem ID {r x T m:Nat} (h:r*T+m=x) (hm:m<T):r=x/T:=by
 subst h;rw[Nat.mul_comm,Nat.mul_add_div (by omega),Nat.div_eq_of_lt hm,Nat.add_zero]
theorem or2 {a b A B:Nat} (ha:a<18446744073709551616) (hb:b<18446744073709551616):(a ||| b)+18446744073709551616*(A ||| B)=(a+18446744073709551616*A) ||| (b+18446744073709551616*B):=by
 have h1:a+18446744073709551616*A=2^64*A ||| a:=by rw[←Nat.two_pow_add_eq_or_of_lt (show a<2^64 from ha)]; omega
 have h2:b+18446744073709551616*B=2^64*B ||| b:=by rw[←Nat.two_pow_add_eq_or_of_lt (show b<2^64 from hb)]; omega
 have h3:(a ||| b)+18446744073709551616*(A ||| B)=2^64*(A ||| B) ||| (a ||| b):=by rw[←Nat.two_pow_add_eq_or_of_lt (Nat.or_lt_two_pow (n:=64) ha hb)]; omega
 have h4:2^64*(A ||| B)=2^64*A ||| 2^64*B:=by
  rw[Nat.mul_comm _ (A ||| B),Nat.mul_comm _ A,Nat.mul_comm _ B,←Nat.shiftLeft_eq,←Nat.shiftLeft_eq,←Nat.shiftLeft_eq,Nat.shiftLeft_or_distrib]
 rw[h1,h2,h3,h4];simp only[Nat.or_assoc];congr 1;rw[←Nat.or_assoc,←Nat.or_assoc,Nat.or_comm a]
theorem or4 {a0 a1 a2 a3 b0 b1 b2 b3:Nat} (ha:bY a0 a1 a2 a3) (hb:bY b0 b1 b2 b3):aC (a0 ||| b0) (a1 ||| b1) (a2 ||| b2) (a3 ||| b3)=aC a0 a1 a2 a3 ||| aC b0 b1 b2 b3:=by
 unfold aC;rw[or2 ha.2.2.1 hb.2.2.1,or2 ha.2.1 hb.2.1,or2 ha.1 hb.1]
def LenIs (n L:Nat):Prop:=n<2^L∧(0<L→2^(L-1)≤n)
theorem LenIs.uniq {n L M:Nat} (h:LenIs n L) (k:LenIs n M):L=M:=by
 rcases Nat.lt_trichotomy L M with c|c|c
 ·have h1:=k.2 (by omega);have h2:=Nat.pow_le_pow_right (show 0<2 by omega) (show L≤M-1 by omega);have:=h.1; omega
 ·exact c
 ·have h1:=h.2 (by omega);have h2:=Nat.pow_le_pow_right (show 0<2 by omega) (show M≤L-1 by omega);have:=k.1; omega
theorem LenIs.zero:LenIs 0 0:=⟨by simp,fun h=>absurd h (by omega)⟩
theorem LenIs.up {n x L k:Nat} (hn:n<2^k) (hx:0<x) (h:LenIs x L):LenIs (n+x*2^k) (k+L):=by
 have hL:0<L:=by
  rcases Nat.eq_zero_or_pos L with e|e
  ·subst e; have:=h.1; simp at this; omega
  ·exact e
 constructor
 ·have:=Nat.mul_le_mul_right (2^k) (show x+1≤2^L from h.1);rw[Nat.add_mul,Nat.one_mul]at this;rw[Nat.pow_add,Nat.mul_comm (2^k)]; omega
 ·intro _;have:=Nat.mul_le_mul_right (2^k) (h.2 hL);rw[show k+L-1=k+(L-1) by omega,Nat.pow_add,Nat.mul_comm (2^k)]; omega
end Go.Proofs.YtglgakbkdjhojaaGreat
