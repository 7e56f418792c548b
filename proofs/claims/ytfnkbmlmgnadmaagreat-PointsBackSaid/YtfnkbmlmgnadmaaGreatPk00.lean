/- Pk00 -/
import Derived.Laws.Externs
import Derived.WalkKit
import Derived.WalkLawsBesides
import Derived.WalkSpells
import Derived.ProofKit
import Derived.RegionTactic
import Derived.BigRegion
import Derived.BigQuiet
import Derived.Deep.QuietTactic
import Derived.ChangeAlike
import Derived.LoopN
import Derived.Below
import Derived.Lib.Hide
import Derived.Laws.Bits64b
import Derived.Laws.Bits64
import Derived.Deep.Draws
import Derived.Outline
import Derived.LoopTactic
import Derived.Deep.LoopGhost
import Derived.KernelRfl
import GoSem.Claim
import Derived.Deep.MidRow
import Derived.Great.BuildSlice
import Derived.Test.YtfnkbmlmgnadmaaGreatProg
set_option maxRecDepth 100000
set_option linter.unusedVariables false
set_option linter.unusedSimpArgs false
namespace Go.Proofs.YtfnkbmlmgnadmaaGreat
open Go.Proofs.Tryz
def aC (a b c d : Nat) : Nat:=a + 18446744073709551616 * (b + 18446744073709551616 * (c + 18446744073709551616 * d))
def bH (a b c d : Nat) : Prop:=a < 18446744073709551616 ∧ b < 18446744073709551616 ∧ c < 18446744073709551616 ∧ d < 18446744073709551616
theorem bC {a b c d : Nat} (h : bH a b c d) : aC a b c d < 115792089237316195423570985008687907853269984665640564039457584007913129639936:=by
 obtain ⟨h0,h1,h2,h3⟩:=h; unfold aC; omega
theorem FZ {a0 a1 a2 a3 b0 b1 b2 b3 : Nat} (ha : bH a0 a1 a2 a3) (hb : bH b0 b1 b2 b3) (h : aC a0 a1 a2 a3 = aC b0 b1 b2 b3) : a0 = b0 ∧ a1 = b1 ∧ a2 = b2 ∧ a3 = b3:=by
 obtain ⟨p0,p1,p2,p3⟩:=ha; obtain ⟨q0,q1,q2,q3⟩:=hb; unfold aC at h; omega
def SH (x y c : Nat) : Nat:=(x + y + c) % 18446744073709551616
def SI (x y c : Nat) : Nat:=(x + y + c) / 18446744073709551616
theorem EW {x y c : Nat} (hx : x < 18446744073709551616) (hy : y < 18446744073709551616) (hc : c ≤ 1) : SI x y c ≤ 1:=by unfold SI; omega
theorem EV (x y c : Nat) : SH x y c < 18446744073709551616:=by unfold SH; omega
theorem Ob (x y c : Nat) : SH x y c + 18446744073709551616 * SI x y c = x + y + c:=by unfold SH SI; omega
def NT (x y c : Nat) : Nat:=(x + 18446744073709551616 - y - c) % 18446744073709551616
def NU (x y c : Nat) : Nat:=if x < y + c then 1 else 0
theorem TX (x y c : Nat) : NU x y c ≤ 1:=by unfold NU; split <;> omega
theorem TU (x y c : Nat) : NT x y c < 18446744073709551616:=by unfold NT; omega
theorem Xq {x y c : Nat} (hx : x < 18446744073709551616) (hy : y < 18446744073709551616) (hc : c ≤ 1) : NT x y c + y + c = x + 18446744073709551616 * NU x y c:=by
 unfold NT NU; split <;> omega
def Jm (x y : Nat) : Nat:=x * y / 18446744073709551616
def Jl (x y : Nat) : Nat:=x * y % 18446744073709551616
theorem aFh (x y : Nat) : Jl x y + 18446744073709551616 * Jm x y = x * y:=by unfold Jl Jm; omega
theorem Tt (x y : Nat) : Jl x y < 18446744073709551616:=by unfold Jl; omega
theorem rI {x y p q : Nat} (hx : x ≤ p) (hy : y ≤ q) : x * y ≤ p * q:=Nat.mul_le_mul hx hy
theorem Tu {x y : Nat} (hx : x < 18446744073709551616) (hy : y < 18446744073709551616) : Jm x y ≤ 18446744073709551614:=by
 have:=rI (show x ≤ 18446744073709551615 by omega) (show y ≤ 18446744073709551615 by omega);unfold Jm; omega
open Go.RowKit
theorem qM (x y c : Nat) (hc : c ≤ 1) (w : World) :
  (callFunc 154 #[.int .u64 (x : Int),.int .u64 (y : Int),.int .u64 (c : Int)]).run prog w =
   .ok (.value (.tuple #[.int .u64 (SH x y c : Nat),.int .u64 (SI x y c : Nat)])) w:=by
 rw [run_callFunc_extern func154 (by kernel_rfl) (by kernel_rfl) (by kernel_rfl) (e:=add64Entry) (by kernel_rfl),run_add64 x y c (by omega) (by omega) (by omega) (by omega)];simp only [Result.andThen];unfold SH SI;congr 5 <;> omega
theorem PS (x y : Nat) (w : World) :
  (callFunc 154 #[.int .u64 (x : Int),.int .u64 (y : Int),.int .u64 0]).run prog w =
   .ok (.value (.tuple #[.int .u64 (SH x y 0 : Nat),.int .u64 (SI x y 0 : Nat)])) w:=qM x y 0 (by omega) w
def Ec : Array Value → Sem Value:=fun args => do
 let (x,y,b) ← Extern.MathBitsCarry.three "Sub64" args
 pure (Extern.MathBitsCarry.pair ((x + Extern.MathBitsCarry.m64 - y - b) % Extern.MathBitsCarry.m64) (if x < y + b then 1 else 0))
theorem OJ {P : Program} (x y b : Nat) (hb : b ≤ 1) (w : World) :
  (Ec #[.int .u64 x,.int .u64 y,.int .u64 b]).run P w = .ok (.tuple #[.int .u64 (NT x y b : Nat),.int .u64 (NU x y b : Nat)]) w:=by
 have : b = 0 ∨ b = 1:=by omega
 rcases this with rfl | rfl <;> rfl
theorem zF (x y c : Nat) (hc : c ≤ 1) (w : World) :
  (callFunc 91 #[.int .u64 (x : Int),.int .u64 (y : Int),.int .u64 (c : Int)]).run prog w =
   .ok (.value (.tuple #[.int .u64 (NT x y c : Nat),.int .u64 (NU x y c : Nat)])) w:=by
 rw [run_callFunc_extern func91 (by kernel_rfl) (by kernel_rfl) (by kernel_rfl) (e:=Ec) (by kernel_rfl),OJ x y c hc];rfl
theorem PR (x y : Nat) (w : World) :
  (callFunc 91 #[.int .u64 (x : Int),.int .u64 (y : Int),.int .u64 0]).run prog w =
   .ok (.value (.tuple #[.int .u64 (NT x y 0 : Nat),.int .u64 (NU x y 0 : Nat)])) w:=zF x y 0 (by omega) w
theorem kK {x y c : Nat} (hx : x < 18446744073709551616) (hy : y < 18446744073709551616) (hc : c ≤ 1) : ∃ d b : Nat,(∀ w,(callFunc 154 #[.int .u64 (x : Int),.int .u64 (y : Int),.int .u64 (c : Int)]).run prog w =
   .ok (.value (.tuple #[.int .u64 (d : Int),.int .u64 (b : Int)])) w) ∧ d < 18446744073709551616 ∧ b ≤ 1 ∧ Hid (d + 18446744073709551616 * b = x + y + c) :=
 ⟨_,_,qM x y c hc,EV _ _ _,EW hx hy hc,Ob x y c⟩
theorem kI {x y : Nat} (hx : x < 18446744073709551616) (hy : y < 18446744073709551616) : ∃ d b : Nat,(∀ w,(callFunc 154 #[.int .u64 (x : Int),.int .u64 (y : Int),.int .u64 0]).run prog w =
   .ok (.value (.tuple #[.int .u64 (d : Int),.int .u64 (b : Int)])) w) ∧ d < 18446744073709551616 ∧ b ≤ 1 ∧ Hid (d + 18446744073709551616 * b = x + y) :=
 ⟨_,_,PS x y,EV _ _ _,EW hx hy (Nat.zero_le _),Ob x y 0⟩
theorem kH {x y c : Nat} (hx : x < 18446744073709551616) (hy : y < 18446744073709551616) (hc : c ≤ 1) : ∃ d b : Nat,(∀ w,(callFunc 91 #[.int .u64 (x : Int),.int .u64 (y : Int),.int .u64 (c : Int)]).run prog w =
   .ok (.value (.tuple #[.int .u64 (d : Int),.int .u64 (b : Int)])) w) ∧ d < 18446744073709551616 ∧ b ≤ 1 ∧ Hid (d + y + c = x + 18446744073709551616 * b) :=
 ⟨_,_,zF x y c hc,TU _ _ _,TX _ _ _,Xq hx hy hc⟩
theorem AQ {x y : Nat} (hx : x < 18446744073709551616) (hy : y < 18446744073709551616) : ∃ d b : Nat,(∀ w,(callFunc 91 #[.int .u64 (x : Int),.int .u64 (y : Int),.int .u64 0]).run prog w =
   .ok (.value (.tuple #[.int .u64 (d : Int),.int .u64 (b : Int)])) w) ∧ d < 18446744073709551616 ∧ b ≤ 1 ∧ Hid (d + y = x + 18446744073709551616 * b) :=
 ⟨_,_,PR x y,TU _ _ _,TX _ _ _,Xq hx hy (Nat.zero_le _)⟩
def Xf (A B : Nat) (w : World) (e : Ending) (w' : World) : Prop :=
 ∃ s0 s1 s2 s3 c : Nat,e = .returned (.tuple #[.agg #[.int .u64 s0,.int .u64 s1,.int .u64 s2,.int .u64 s3],.int .u64 c]) ∧ bH s0 s1 s2 s3 ∧ c ≤ 1 ∧ aC s0 s1 s2 s3 + 115792089237316195423570985008687907853269984665640564039457584007913129639936 * c = A + B ∧ Below w.heap.size w w'
def Wz (A B : Nat) (w : World) (e : Ending) (w' : World) : Prop :=
 ∃ s0 s1 s2 s3 c : Nat,e = .returned (.tuple #[.agg #[.int .u64 s0,.int .u64 s1,.int .u64 s2,.int .u64 s3],.int .u64 c]) ∧ bH s0 s1 s2 s3 ∧ c ≤ 1 ∧ aC s0 s1 s2 s3 + B = A + 115792089237316195423570985008687907853269984665640564039457584007913129639936 * c ∧ Below w.heap.size w w'
theorem BC (a0 a1 a2 a3 b0 b1 b2 b3 : Nat) (ha : bH a0 a1 a2 a3) (hb : bH b0 b1 b2 b3) (w : World) :
  Calls prog 200 #[.agg #[.int .u64 a0,.int .u64 a1,.int .u64 a2,.int .u64 a3],.agg #[.int .u64 b0,.int .u64 b1,.int .u64 b2,.int .u64 b3]] w (Xf (aC a0 a1 a2 a3) (aC b0 b1 b2 b3) w):=by
 obtain ⟨s0,c0,r0,bs0,bc0,e0⟩:=kI ha.1 hb.1;obtain ⟨s1,c1,r1,bs1,bc1,e1⟩:=kK ha.2.1 hb.2.1 bc0;obtain ⟨s2,c2,r2,bs2,bc2,e2⟩:=kK ha.2.2.1 hb.2.2.1 bc1;obtain ⟨s3,c3,r3,bs3,bc3,e3⟩:=kK ha.2.2.2 hb.2.2.2 bc2
 go_enter func200,ntmps200
 go_wp2
 refine wp_loop_rounds 5 ?_;rw [rounds_succ]
 go_wp2
 go_region
 go_wp2
 rw [rounds_succ]
 go_wp2
 go_region
 go_wp2
 rw [rounds_succ]
 go_wp2
 go_region
 go_wp2
 rw [rounds_succ]
 go_wp2
 go_region
 go_wp2
 rw [rounds_succ]
 go_wp2
 refine bodyPost_ret (v:=.tuple #[.agg #[.int .u64 s0,.int .u64 s1,.int .u64 s2,.int .u64 s3],.int .u64 c3]) (by simp [results,results200,go_sem]) rfl ?_;refine ⟨_,_,_,_,_,rfl,⟨bs0,bs1,bs2,bs3⟩,bc3,by have:=e0.out; have:=e1.out; have:=e2.out; have:=e3.out; unfold aC; omega,?_⟩
 repeat (first | exact Below.refl _ _ | refine Below.drew ?_ | refine Below.alloc ?_ (by first | (simp; done) | (simp; omega)) _)
theorem jW (a0 a1 a2 a3 b0 b1 b2 b3 : Nat) (ha : bH a0 a1 a2 a3) (hb : bH b0 b1 b2 b3) (w : World) :
  Calls prog 53 #[.agg #[.int .u64 a0,.int .u64 a1,.int .u64 a2,.int .u64 a3],.agg #[.int .u64 b0,.int .u64 b1,.int .u64 b2,.int .u64 b3]] w (Wz (aC a0 a1 a2 a3) (aC b0 b1 b2 b3) w):=by
 obtain ⟨s0,c0,r0,bs0,bc0,e0⟩:=AQ ha.1 hb.1;obtain ⟨s1,c1,r1,bs1,bc1,e1⟩:=kH ha.2.1 hb.2.1 bc0;obtain ⟨s2,c2,r2,bs2,bc2,e2⟩:=kH ha.2.2.1 hb.2.2.1 bc1;obtain ⟨s3,c3,r3,bs3,bc3,e3⟩:=kH ha.2.2.2 hb.2.2.2 bc2
 go_enter func53,ntmps53
 go_wp2
 refine wp_loop_rounds 5 ?_;rw [rounds_succ]
 go_wp2
 go_region
 go_wp2
 rw [rounds_succ]
 go_wp2
 go_region
 go_wp2
 rw [rounds_succ]
 go_wp2
 go_region
 go_wp2
 rw [rounds_succ]
 go_wp2
 go_region
 go_wp2
 rw [rounds_succ]
 go_wp2
 refine bodyPost_ret (v:=.tuple #[.agg #[.int .u64 s0,.int .u64 s1,.int .u64 s2,.int .u64 s3],.int .u64 c3]) (by simp [results,results53,go_sem]) rfl ?_;refine ⟨_,_,_,_,_,rfl,⟨bs0,bs1,bs2,bs3⟩,bc3,by have:=e0.out; have:=e1.out; have:=e2.out; have:=e3.out; unfold aC; omega,?_⟩
 repeat (first | exact Below.refl _ _ | refine Below.drew ?_ | refine Below.alloc ?_ (by first | (simp; done) | (simp; omega)) _)
theorem sU {W w1 : World} (hb : Below W.heap.size W w1) : (∀ b o,b < W.heap.size → w1.cell? ⟨b,o,none⟩ = W.cell? ⟨b,o,none⟩) ∧ (∀ b o,b < W.heap.size → w1.frozen? ⟨b,o,none⟩ = W.frozen? ⟨b,o,none⟩) :=
 ⟨fun b o h => hb.cell (p:=⟨b,o,none⟩) h,fun b o h => hb.frozen (p:=⟨b,o,none⟩) h⟩
def yJ (a0 a1 a2 a3 b0 b1 b2 b3 : Nat) : Bool:=decide (a0 = b0 ∧ a1 = b1 ∧ a2 = b2 ∧ a3 = b3)
theorem MH (d : Nat) (a0 a1 a2 a3 b0 b1 b2 b3 : Nat) (w : World) : (Op.equalIn (d + 1 + 1) 81 (.agg #[.int .u64 a0,.int .u64 a1,.int .u64 a2,.int .u64 a3]) (.agg #[.int .u64 b0,.int .u64 b1,.int .u64 b2,.int .u64 b3])).run prog w = .ok (yJ a0 a1 a2 a3 b0 b1 b2 b3) w:=by
 have h0 : ∀ (x y : Int) (w : World),(Op.equalIn (d + 1) 22 (.int .u64 x) (.int .u64 y)).run prog w = .ok (x == y) w:=fun x y w => run_equalIn_int w d 22 .u64 .u64 x y underlying22
 rw [Op.equalIn];simp only [Sem.run_bind,run_underlying underlying81,Result.andThen_ok,Tryz.sizeOf22];simp [Std.Legacy.Range.forIn_eq_forIn_range',Std.Legacy.Range.size,List.range',part,h0,Sem.run_bind,Result.andThen_ok];unfold yJ
 by_cases q0 : a0 = b0 <;> by_cases q1 : a1 = b1 <;> by_cases q2 : a2 = b2 <;> by_cases q3 : a3 = b3 <;> simp [q0,q1,q2,q3] <;> omega
theorem MI : prog.eqGuardType prog.depth 81 = false:=by kernel_rfl
theorem jM {a0 a1 a2 a3 b0 b1 b2 b3 : Nat} (ha : bH a0 a1 a2 a3) (hb : bH b0 b1 b2 b3) : yJ a0 a1 a2 a3 b0 b1 b2 b3 = true ↔ aC a0 a1 a2 a3 = aC b0 b1 b2 b3:=by
 unfold yJ; rw [decide_eq_true_iff];exact ⟨fun ⟨h0,h1,h2,h3⟩ => by rw [h0,h1,h2,h3],FZ ha hb⟩
def jB (A B : Nat) : Int:=if A = B then 0 else if A < B then -1 else 1
theorem Ck (a0 a1 a2 a3 b0 b1 b2 b3 : Nat) (ha : bH a0 a1 a2 a3) (hb : bH b0 b1 b2 b3) (w : World) :
  Calls prog 149 #[.agg #[.int .u64 a0,.int .u64 a1,.int .u64 a2,.int .u64 a3],.agg #[.int .u64 b0,.int .u64 b1,.int .u64 b2,.int .u64 b3]] w fun e w' => e = .returned (.int .i64 (jB (aC a0 a1 a2 a3) (aC b0 b1 b2 b3))) ∧ Below w.heap.size w w':=by
 have hE:=fun w => MH 9998 a0 a1 a2 a3 b0 b1 b2 b3 w
 have hG:=MI;have hi:=jM ha hb;cases q : yJ a0 a1 a2 a3 b0 b1 b2 b3
 ·rw [q] at hE hi;have hn : ¬ aC a0 a1 a2 a3 = aC b0 b1 b2 b3:=fun h => by simpa using hi.2 h
  have hfin1 : aC a0 a1 a2 a3 < aC b0 b1 b2 b3 → jB (aC a0 a1 a2 a3) (aC b0 b1 b2 b3) = -1:=fun h => by unfold jB; rw [if_neg hn,if_pos h]
  have hfin2 : ¬ aC a0 a1 a2 a3 < aC b0 b1 b2 b3 → jB (aC a0 a1 a2 a3) (aC b0 b1 b2 b3) = 1:=fun h => by unfold jB; rw [if_neg hn,if_neg h]
  have HF1:=Lib.hid hfin1; have HF2:=Lib.hid hfin2;have vb:=bC hb;have va:=bC ha;clear q hi hn hfin1 hfin2
  go_enter func149,ntmps149
  go_wp2_with fail;refine (jW a0 a1 a2 a3 b0 b1 b2 b3 ha hb _).mono ?_
  rintro e w1 ⟨s0,s1,s2,s3,c,rfl,hs,hc,hv,hbl⟩
  have HV:=Lib.hid hv; clear hv;have vs:=bC hs;have hc' : c = 0 ∨ c = 1:=by omega
  rcases hc' with rfl | rfl
  ·go_wp2
   go_ret;exact ⟨by rw [HF2.out (by have:=HV.out; omega)]; rfl,((((Below.refl _ _).alloc (Nat.le_refl _) _).alloc (by simp) _).trans (hbl.mono (by simp; omega))).alloc (by have:=hbl.size; simp at this; omega) _⟩
  ·go_wp2
   go_ret;exact ⟨by rw [HF1.out (by have:=HV.out; omega)]; rfl,((((Below.refl _ _).alloc (Nat.le_refl _) _).alloc (by simp) _).trans (hbl.mono (by simp; omega))).alloc (by have:=hbl.size; simp at this; omega) _⟩
 ·rw [q] at hE hi;have hn : aC a0 a1 a2 a3 = aC b0 b1 b2 b3:=hi.1 rfl;have HF:=Lib.hid (show jB (aC a0 a1 a2 a3) (aC b0 b1 b2 b3) = 0 by unfold jB; rw [if_pos hn]);clear q hi hn
  go_enter func149,ntmps149
  go_wp2_with fail;go_ret;exact ⟨by rw [HF.out]; rfl,(((Below.refl _ _).alloc (Nat.le_refl _) _).alloc (by simp) _)⟩
theorem qF (x : Nat) (h : x < 18446744073709551616) : IntKind.u64.wrap (x : Int) = (x : Int):=by rw [IntKind.wrap_u64]; omega
theorem kQ (x : Nat) : IntKind.u64.wrap (x : Int) = ((x % 18446744073709551616 : Nat) : Int):=by rw [IntKind.wrap_u64]; omega
theorem eI (x S : Nat) : (x : Int) * 2 ^ S = ((x * 2 ^ S : Nat) : Int):=by rw [Int.natCast_mul,Int.natCast_pow]; rfl
theorem qZ (S : Nat) (h : S ≤ 63) : 2 ^ (64 - S) * 2 ^ S = 18446744073709551616:=by
 rw [← Nat.pow_add,show 64 - S + S = 64 by omega]
theorem Lz {hi lo y S : Nat} (h2 : hi < y) (hl : lo < 18446744073709551616) (hS : S ≤ 63) (hY : y * 2 ^ S < 18446744073709551616) :
  ∃ u L : Nat,bits .or .u64 (IntKind.u64.wrap ((hi : Int) * 2 ^ S)) ((lo : Int) / 2 ^ (64 - S)) = (u : Int) ∧ IntKind.u64.wrap ((lo : Int) * 2 ^ S) = (L : Int) ∧ u < y * 2 ^ S ∧ L < 18446744073709551616 ∧ u * 18446744073709551616 + L = (hi * 18446744073709551616 + lo) * 2 ^ S:=by
 have hp : 0 < 2 ^ S:=Nat.two_pow_pos S;have hps:=qZ S hS;have hb : lo / 2 ^ (64 - S) < 2 ^ S:=by
  rw [Nat.div_lt_iff_lt_mul (Nat.two_pow_pos _),Nat.mul_comm,hps]; exact hl
 have hhi : hi * 2 ^ S + 2 ^ S ≤ y * 2 ^ S:=by
  have:=Nat.mul_le_mul_right (2 ^ S) (show hi + 1 ≤ y by omega);rw [Nat.add_mul] at this; omega
 have hd : lo * 2 ^ S / 18446744073709551616 = lo / 2 ^ (64 - S):=by
  rw [← hps]; exact Nat.mul_div_mul_right _ _ hp
 refine ⟨hi * 2 ^ S + lo / 2 ^ (64 - S),lo * 2 ^ S % 18446744073709551616,?_,?_,?_,by omega,?_⟩
 ·rw [eI,qF _ (by omega),show ((lo : Int) / 2 ^ (64 - S)) = ((lo / 2 ^ (64 - S) : Nat) : Int) by rw [Int.natCast_ediv,Int.natCast_pow]; rfl,
   bits_or_u64_nat _ _ (by omega) (by omega),Nat.mul_comm hi,Nat.two_pow_add_eq_or_of_lt hb]
 ·rw [eI,kQ]
 ·omega
 ·rw [Nat.add_mul,← hd];have e : (hi * 18446744073709551616 + lo) * 2 ^ S = hi * 2 ^ S * 18446744073709551616 + lo * 2 ^ S:=by
   rw [Nat.add_mul,Nat.mul_right_comm]
  rw [e]; omega
theorem WZ {Y : Nat} (h : Y < 18446744073709551616) : ∃ a b : Nat,(Y : Int) / 4294967296 = (a : Int) ∧ bits .and .u64 (Y : Int) 4294967295 = (b : Int) ∧ a < 4294967296 ∧ b < 4294967296 ∧ Y = a * 4294967296 + b:=by
 refine ⟨Y / 4294967296,Y % 4294967296,by omega,?_,by omega,by omega,by omega⟩;have h':=bits_and_u64_nat Y 4294967295 h (by omega);rw [show Y &&& 4294967295 = Y % 4294967296 from Nat.and_two_pow_sub_one_eq_mod Y 32] at h';exact h'
theorem aHT (u y1 : Nat) (h : 0 < y1) : ∃ q r : Nat,(u : Int) / (y1 : Int) = (q : Int) ∧ (u : Int) - (q : Int) * (y1 : Int) = (r : Int) ∧ q * y1 + r = u ∧ r < y1:=by
 have e:=Nat.div_add_mod u y1;rw [Nat.mul_comm] at e;refine ⟨u / y1,u % y1,(Int.natCast_ediv u y1).symm,?_,e,Nat.mod_lt _ h⟩;rw [← Int.natCast_mul]; omega
def KI (y1 y0 u u1 q r : Nat) : Prop:=q * y1 + r = u ∧ (u * 4294967296 + u1) / (y1 * 4294967296 + y0) ≤ q ∧ q ≤ 4294967297 ∧ r < 4294967296
structure KS (y1 y0 u u1 : Nat) : Prop where
 a1 : y1 < 4294967296
 a2 : 2147483648 ≤ y1
 a3 : y0 < 4294967296
 a4 : u < y1 * 4294967296 + y0
 a5 : u1 < 4294967296
section
variable {y1 y0 u u1 q r : Nat}
theorem DQ (q y1 y0 : Nat) : q * (y1 * 4294967296 + y0) = q * y1 * 4294967296 + q * y0:=by rw [Nat.mul_add,Nat.mul_assoc]
theorem Kb (s : KS y1 y0 u u1) : 0 < y1 * 4294967296 + y0:=by have:=s.a2; omega
theorem Kc (s : KS y1 y0 u u1) (e : q * y1 + r = u) (h : r < y1) : KI y1 y0 u u1 q r:=by
 obtain ⟨b1,b2,b3,b4,b5⟩:=s;refine ⟨e,?_,?_,by omega⟩
 ·rw [← Nat.lt_succ_iff,Nat.div_lt_iff_lt_mul (by omega),DQ];have : (q + 1) * y1 = q * y1 + y1:=by rw [Nat.add_mul,Nat.one_mul]
  rw [Nat.succ_eq_add_one,this]; omega
 ·rcases Nat.lt_or_ge q 4294967298 with h' | h'
  ·omega
  ·have:=Nat.mul_le_mul_right y1 h';omega
theorem aFu (s : KS y1 y0 u u1) : (u * 4294967296 + u1) / (y1 * 4294967296 + y0) < 4294967296:=by
 obtain ⟨b1,b2,b3,b4,b5⟩:=s;rw [Nat.div_lt_iff_lt_mul (by omega)]; omega
theorem Yr (s : KS y1 y0 u u1) (e : q * y1 + r = u) (h : q * y0 ≤ 4294967296 * r + u1) : q ≤ (u * 4294967296 + u1) / (y1 * 4294967296 + y0):=by
 rw [Nat.le_div_iff_mul_le (Kb s),DQ]; omega
theorem aBt (s : KS y1 y0 u u1) (k : KI y1 y0 u u1 q r) (h : q * y0 ≤ 4294967296 * r + u1) : q = (u * 4294967296 + u1) / (y1 * 4294967296 + y0) :=
 Nat.le_antisymm (Yr s k.1 h) k.2.1
theorem aFv (s : KS y1 y0 u u1) (k : KI y1 y0 u u1 q r) (h : 4294967296 * r + u1 < q * y0) : (u * 4294967296 + u1) / (y1 * 4294967296 + y0) + 1 ≤ q:=by
 rw [Nat.succ_le_iff,Nat.div_lt_iff_lt_mul (Kb s),DQ]; have:=k.1; omega
theorem aBu (s : KS y1 y0 u u1) (h : 4294967296 ≤ q) : (u * 4294967296 + u1) / (y1 * 4294967296 + y0) + 1 ≤ q:=by have:=aFu s; omega
theorem VZ (h : 1 ≤ q) : (q - 1) * y1 + (r + y1) = q * y1 + r:=by
 obtain ⟨p,rfl⟩ : ∃ p,q = p + 1:=⟨q - 1,by omega⟩
 rw [Nat.add_sub_cancel,Nat.add_mul,Nat.one_mul]; omega
theorem WA (k : KI y1 y0 u u1 q r) (h : (u * 4294967296 + u1) / (y1 * 4294967296 + y0) + 1 ≤ q) (h' : r + y1 < 4294967296) : KI y1 y0 u u1 (q - 1) (r + y1) :=
 ⟨by rw [VZ (Nat.le_trans (Nat.le_add_left 1 _) h)]; exact k.1,Nat.le_sub_one_of_lt h,by have:=k.2.2.1; omega,h'⟩
theorem LC (s : KS y1 y0 u u1) (k : KI y1 y0 u u1 q r) (h : (u * 4294967296 + u1) / (y1 * 4294967296 + y0) + 1 ≤ q) (h' : 4294967296 ≤ r + y1) : q - 1 = (u * 4294967296 + u1) / (y1 * 4294967296 + y0):=by
 have e:=VZ (y1:=y1) (r:=r) (Nat.le_trans (Nat.le_add_left 1 _) h);refine Nat.le_antisymm (Yr s (e.trans k.1) ?_) (Nat.le_sub_one_of_lt h);have:=rI (show q - 1 ≤ 4294967296 by have:=k.2.2.1; omega) (show y0 ≤ 4294967295 by have:=s.a3; omega);omega
end
theorem Vs {Y u u1 : Nat} (hY : Y < 18446744073709551616) (hp : 0 < Y) :
  ∃ m : Nat,IntKind.u64.wrap (IntKind.u64.wrap (IntKind.u64.wrap ((u : Int) * 4294967296) + (u1 : Int)) - IntKind.u64.wrap (((u * 4294967296 + u1) / Y : Nat) * (Y : Int))) = (m : Int) ∧ m < Y ∧ (u * 4294967296 + u1) / Y * Y + m = u * 4294967296 + u1:=by
 have e:=Nat.div_add_mod (u * 4294967296 + u1) Y;have hm:=Nat.mod_lt (u * 4294967296 + u1) hp;rw [Nat.mul_comm] at e;refine ⟨(u * 4294967296 + u1) % Y,?_,hm,e⟩;rw [← Int.natCast_mul];generalize (u * 4294967296 + u1) / Y * Y = P at *;generalize (u * 4294967296 + u1) % Y = m at *;simp only [IntKind.wrap_u64];omega
theorem Vt {U Y y S V Q1 Q0 u L m R u1 u0 : Nat} (hy : Y = y * 2 ^ S) (hU : U = V * 2 ^ S) (e : u * 18446744073709551616 + L = U) (eL : L = u1 * 4294967296 + u0)
  (e1 : Q1 * Y + m = u * 4294967296 + u1) (e0 : Q0 * Y + R = m * 4294967296 + u0) (hR : R < Y) : Q1 * 4294967296 + Q0 = V / y ∧ R / 2 ^ S = V % y:=by
 have hp : 0 < 2 ^ S:=Nat.two_pow_pos S;have hYp : 0 < Y:=by omega
 have hYU : U = (Q1 * 4294967296 + Q0) * Y + R:=by
  have : (Q1 * 4294967296 + Q0) * Y = Q1 * Y * 4294967296 + Q0 * Y:=by rw [Nat.add_mul,Nat.mul_right_comm]
  rw [this]; omega
 have hq : U / Y = Q1 * 4294967296 + Q0:=by
  rw [hYU,Nat.mul_comm,Nat.mul_add_div hYp,Nat.div_eq_of_lt hR,Nat.add_zero]
 have hr : U % Y = R:=by
  rw [hYU,Nat.mul_comm,Nat.mul_add_mod,Nat.mod_eq_of_lt hR]
 constructor
 ·rw [← hq,hU,hy,Nat.mul_div_mul_right _ _ hp]
 ·rw [← hr,hU,hy,Nat.mul_mod_mul_right,Nat.mul_div_cancel _ hp]
theorem nP {a p : Nat} (ha : a < 18446744073709551616) (hp : p ≤ 63) : ∃ lo hi : Nat,IntKind.u64.wrap ((a : Int) * 2 ^ p) = (lo : Int) ∧ (a : Int) / 2 ^ (64 - p) = (hi : Int) ∧
  lo < 18446744073709551616 ∧ hi < 18446744073709551616 ∧ Hid (lo + 18446744073709551616 * hi = a * 2 ^ p) ∧ Hid (hi < 2 ^ p) ∧ Hid (∃ t,lo = 2 ^ p * t):=by
 have hps:=qZ p hp;have hpos : 0 < 2 ^ p:=Nat.two_pow_pos p;have hd : a * 2 ^ p / 18446744073709551616 = a / 2 ^ (64 - p):=by rw [← hps]; exact Nat.mul_div_mul_right _ _ hpos
 have hh : a / 2 ^ (64 - p) < 2 ^ p:=by rw [Nat.div_lt_iff_lt_mul (Nat.two_pow_pos _),Nat.mul_comm,hps]; exact ha
 refine ⟨a * 2 ^ p % 18446744073709551616,a / 2 ^ (64 - p),?_,?_,by omega,?_,Lib.hid ?_,Lib.hid hh,Lib.hid ?_⟩
 ·rw [eI,kQ]
 ·rw [Int.natCast_ediv,Int.natCast_pow]; rfl
 ·exact Nat.lt_of_le_of_lt (Nat.div_le_self _ _) ha
 ·rw [← hd]; omega
 ·refine ⟨a % 2 ^ (64 - p),?_⟩;rw [← hps,Nat.mul_mod_mul_right,Nat.mul_comm]
theorem AP {lo hi p : Nat} (hl : lo < 18446744073709551616) (hh : hi < 18446744073709551616) (h1 : Hid (hi < 2 ^ p)) (h2 : Hid (∃ t,lo = 2 ^ p * t)) : ∃ s : Nat,bits .or .u64 (lo : Int) (hi : Int) = (s : Int) ∧ s < 18446744073709551616 ∧ Hid (s = lo + hi):=by
 obtain ⟨t,ht⟩:=h2.out;have e : lo ||| hi = lo + hi:=by rw [ht,← Nat.two_pow_add_eq_or_of_lt h1.out]
 refine ⟨lo + hi,by rw [bits_or_u64_nat _ _ hl hh,e],?_,Lib.hid rfl⟩;rw [← e]; exact Nat.or_lt_two_pow (n:=64) hl hh
theorem gD {a p : Nat} (ha : a < 18446744073709551616) (hp : p ≤ 63) : ∃ lo up : Nat,(a : Int) / 2 ^ p = (lo : Int) ∧ IntKind.u64.wrap ((a : Int) * 2 ^ (64 - p)) = (up : Int) ∧
  lo < 18446744073709551616 ∧ up < 18446744073709551616 ∧ Hid (∃ m,a = lo * 2 ^ p + m ∧ m < 2 ^ p ∧ up * 2 ^ p = m * 18446744073709551616) ∧ Hid (lo < 2 ^ (64 - p)) ∧ Hid (∃ t,up = 2 ^ (64 - p) * t):=by
 have hps:=qZ p hp;have hpos : 0 < 2 ^ p:=Nat.two_pow_pos p;refine ⟨a / 2 ^ p,a % 2 ^ p * 2 ^ (64 - p),?_,?_,Nat.lt_of_le_of_lt (Nat.div_le_self _ _) ha,?_,Lib.hid ⟨a % 2 ^ p,?_,Nat.mod_lt _ hpos,?_⟩,Lib.hid ?_,Lib.hid ⟨a % 2 ^ p,Nat.mul_comm _ _⟩⟩
 ·rw [Int.natCast_ediv,Int.natCast_pow]; rfl
 ·rw [eI,kQ];congr 1;rw [show 18446744073709551616 = 2 ^ p * 2 ^ (64 - p) by rw [Nat.mul_comm,hps],Nat.mul_mod_mul_right]
 ·have:=Nat.mul_lt_mul_of_pos_right (Nat.mod_lt a hpos) (Nat.two_pow_pos (64 - p));rw [Nat.mul_comm (2 ^ p),hps] at this;exact this
 ·rw [Nat.mul_comm]; exact (Nat.div_add_mod a (2 ^ p)).symm
 ·rw [Nat.mul_assoc,hps]
 ·rw [Nat.div_lt_iff_lt_mul hpos,hps]; exact ha
theorem oE {lo up k : Nat} (hl : lo < 18446744073709551616) (hu : up < 18446744073709551616) (h1 : Hid (lo < 2 ^ k)) (h2 : Hid (∃ t,up = 2 ^ k * t)) : ∃ s : Nat,bits .or .u64 (lo : Int) (up : Int) = (s : Int) ∧ s < 18446744073709551616 ∧ Hid (s = lo + up):=by
 obtain ⟨t,ht⟩:=h2.out;have e : lo ||| up = lo + up:=by rw [Nat.or_comm,ht,← Nat.two_pow_add_eq_or_of_lt h1.out,Nat.add_comm]
 refine ⟨lo + up,by rw [bits_or_u64_nat _ _ hl hu,e],?_,Lib.hid rfl⟩;rw [← e]; exact Nat.or_lt_two_pow (n:=64) hl hu
theorem MD {n : Int} (h0 : 0 ≤ n) (q : Int) (h : n / 64 = q) (h1 : 0 ≤ q) : ∃ p : Nat,n % 64 = (p : Int) ∧ p ≤ 63 ∧ n.toNat = 64 * q.toNat + p :=
 ⟨(n % 64).toNat,by omega,by omega,by omega⟩
theorem oY (q p : Nat) : 2 ^ (64 * q + p) = 18446744073709551616 ^ q * 2 ^ p:=by rw [Nat.pow_add,Nat.pow_mul]
theorem uH {r x T m : Nat} (h : r * T + m = x) (hm : m < T) : r = x / T:=by
 subst h;rw [Nat.mul_comm,Nat.mul_add_div (by omega),Nat.div_eq_of_lt hm,Nat.add_zero]
theorem or2 {a b A B : Nat} (ha : a < 18446744073709551616) (hb : b < 18446744073709551616) : (a ||| b) + 18446744073709551616 * (A ||| B) = (a + 18446744073709551616 * A) ||| (b + 18446744073709551616 * B):=by
 have h1 : a + 18446744073709551616 * A = 2 ^ 64 * A ||| a:=by rw [← Nat.two_pow_add_eq_or_of_lt (show a < 2 ^ 64 from ha)]; omega
 have h2 : b + 18446744073709551616 * B = 2 ^ 64 * B ||| b:=by rw [← Nat.two_pow_add_eq_or_of_lt (show b < 2 ^ 64 from hb)]; omega
 have h3 : (a ||| b) + 18446744073709551616 * (A ||| B) = 2 ^ 64 * (A ||| B) ||| (a ||| b):=by rw [← Nat.two_pow_add_eq_or_of_lt (Nat.or_lt_two_pow (n:=64) ha hb)]; omega
 have h4 : 2 ^ 64 * (A ||| B) = 2 ^ 64 * A ||| 2 ^ 64 * B:=by
  rw [Nat.mul_comm _ (A ||| B),Nat.mul_comm _ A,Nat.mul_comm _ B,← Nat.shiftLeft_eq,← Nat.shiftLeft_eq,← Nat.shiftLeft_eq,Nat.shiftLeft_or_distrib]
 rw [h1,h2,h3,h4];simp only [Nat.or_assoc];congr 1;rw [← Nat.or_assoc,← Nat.or_assoc,Nat.or_comm a]
theorem or4 {a0 a1 a2 a3 b0 b1 b2 b3 : Nat} (ha : bH a0 a1 a2 a3) (hb : bH b0 b1 b2 b3) : aC (a0 ||| b0) (a1 ||| b1) (a2 ||| b2) (a3 ||| b3) = aC a0 a1 a2 a3 ||| aC b0 b1 b2 b3:=by
 unfold aC;rw [or2 ha.2.2.1 hb.2.2.1,or2 ha.2.1 hb.2.1,or2 ha.1 hb.1]
def LenIs (n L : Nat) : Prop:=n < 2 ^ L ∧ (0 < L → 2 ^ (L - 1) ≤ n)
theorem LenIs.uniq {n L M : Nat} (h : LenIs n L) (k : LenIs n M) : L = M:=by
 rcases Nat.lt_trichotomy L M with c | c | c
 ·have h1:=k.2 (by omega);have h2:=Nat.pow_le_pow_right (show 0 < 2 by omega) (show L ≤ M - 1 by omega);have:=h.1; omega
 ·exact c
 ·have h1:=h.2 (by omega);have h2:=Nat.pow_le_pow_right (show 0 < 2 by omega) (show M ≤ L - 1 by omega);have:=k.1; omega
theorem LenIs.zero : LenIs 0 0:=⟨by simp,fun h => absurd h (by omega)⟩
theorem LenIs.up {n x L k : Nat} (hn : n < 2 ^ k) (hx : 0 < x) (h : LenIs x L) : LenIs (n + x * 2 ^ k) (k + L):=by
 have hL : 0 < L:=by
  rcases Nat.eq_zero_or_pos L with e | e
  ·subst e; have:=h.1; simp at this; omega
  ·exact e
 constructor
 ·have:=Nat.mul_le_mul_right (2 ^ k) (show x + 1 ≤ 2 ^ L from h.1);rw [Nat.add_mul,Nat.one_mul] at this;rw [Nat.pow_add,Nat.mul_comm (2 ^ k)]; omega
 ·intro _;have:=Nat.mul_le_mul_right (2 ^ k) (h.2 hL);rw [show k + L - 1 = k + (L - 1) by omega,Nat.pow_add,Nat.mul_comm (2 ^ k)]; omega
def RowIs (w : World) (b n : Nat) (P : Nat → Nat) : Prop:=∀ k,k < n → w.cell? ⟨b,k,none⟩ = some (.int .u64 (P k : Nat)) ∧ w.frozen? ⟨b,k,none⟩ = false
def yL (P : Nat → Nat) (i v : Nat) : Nat → Nat:=fun k => if k = i then v else P k
def eO (l : List Nat) : Nat → Nat:=fun k => l.getD k 0
section
variable {w w' : World} {b n i v : Nat} {P : Nat → Nat}
theorem RowIs.cell (h : RowIs w b n P) (hi : i < n) : w.cell? ⟨b,i,none⟩ = some (.int .u64 (P i : Nat)):=(h i hi).1
theorem RowIs.free (h : RowIs w b n P) (hi : i < n) : w.frozen? ⟨b,i,none⟩ = false:=(h i hi).2
theorem RowIs.set (h : RowIs w b n P) (hi : i < n) : RowIs (w.setCell ⟨b,i,none⟩ (.int .u64 (v : Nat))) b n (yL P i v):=by
 intro k hk;refine ⟨?_,by rw [World.frozen?_setCell]; exact h.free hk⟩;unfold yL
 by_cases e : k = i
 ·subst e; rw [if_pos rfl]; exact World.cell?_setCell_same (h:=h.cell hk) ..
 ·rw [if_neg e,World.cell?_setCell_other (h:=fun he => e (by simpa using (congrArg Addr.off he).symm)) ..]; exact h.cell hk
theorem RowIs.other (h : RowIs w b n P) {c : Nat} (hc : c ≠ b) (x : Value) : RowIs (w.setCell ⟨c,i,none⟩ x) b n P:=by
 intro k hk;exact ⟨by rw [World.cell?_setCell_other (h:=fun he => hc (by simpa using congrArg Addr.block he)) ..]; exact h.cell hk,by rw [World.frozen?_setCell]; exact h.free hk⟩
theorem RowIs.drew (h : RowIs w b n P) : RowIs w.drew b n P:=h
theorem RowIs.drewN (h : RowIs w b n P) (m : Nat) : RowIs (w.drewN m) b n P:=h
theorem RowIs.below (h : RowIs w b n P) {B : Nat} (hb : Below B w w') (hB : b < B) : RowIs w' b n P:=by
 intro k hk;exact ⟨by rw [hb.cell (p:=⟨b,k,none⟩) hB]; exact h.cell hk,by rw [hb.frozen (p:=⟨b,k,none⟩) hB]; exact h.free hk⟩
theorem RowIs.alloc (h : RowIs w b n P) (hb : b < w.heap.size) (o : Obj) : RowIs (w.alloc o) b n P :=
 h.below ((Below.refl w.heap.size w).alloc (Nat.le_refl _) o) hb
theorem RowIs.mk (w : World) (t : TypeId) (l : List Nat) (b : Nat) (hb : b = w.heap.size) : RowIs (w.alloc (.cells (l.map fun x => Value.int .u64 (x : Nat)).toArray t)) b l.length (eO l):=by
 subst hb;intro k hk;refine ⟨?_,World.frozen?_alloc_new _ _ _ _⟩;rw [World.cell?_alloc_new];simp [eO,hk]
end
structure Row4 (w : World) (b : Nat) (c0 c1 c2 c3 : Nat) : Prop where
 c0 : w.cell? ⟨b,0,none⟩ = some (.int .u64 c0)
 c1 : w.cell? ⟨b,1,none⟩ = some (.int .u64 c1)
 c2 : w.cell? ⟨b,2,none⟩ = some (.int .u64 c2)
 c3 : w.cell? ⟨b,3,none⟩ = some (.int .u64 c3)
 fr : ∀ k,w.frozen? ⟨b,k,none⟩ = false
theorem Row4.below {w w' : World} {b : Nat} {c0 c1 c2 c3 : Nat} (h : Row4 w b c0 c1 c2 c3) {B : Nat} (hb : Below B w w') (hB : b < B) : Row4 w' b c0 c1 c2 c3 :=
 ⟨by rw [hb.cell (p:=⟨b,0,none⟩) hB]; exact h.c0,by rw [hb.cell (p:=⟨b,1,none⟩) hB]; exact h.c1,by rw [hb.cell (p:=⟨b,2,none⟩) hB]; exact h.c2,by rw [hb.cell (p:=⟨b,3,none⟩) hB]; exact h.c3,
  fun k => by rw [hb.frozen (p:=⟨b,k,none⟩) hB]; exact h.fr k⟩
theorem Row4.alloc {w : World} {b : Nat} {c0 c1 c2 c3 : Nat} (h : Row4 w b c0 c1 c2 c3) (hb : b < w.heap.size) (o : Obj) : Row4 (w.alloc o) b c0 c1 c2 c3 :=
 h.below ((Below.refl w.heap.size w).alloc (Nat.le_refl _) o) hb
theorem Row4.drewN {w : World} {b : Nat} {c0 c1 c2 c3 : Nat} (h : Row4 w b c0 c1 c2 c3) (n : Nat) : Row4 (w.drewN n) b c0 c1 c2 c3:=⟨h.c0,h.c1,h.c2,h.c3,h.fr⟩
theorem Row4.new (w : World) (c0 c1 c2 c3 : Nat) (t : TypeId) : Row4 (w.alloc (.cells #[.int .u64 c0,.int .u64 c1,.int .u64 c2,.int .u64 c3] t)) w.heap.size c0 c1 c2 c3 :=
 ⟨by rw [World.cell?_alloc_new]; rfl,by rw [World.cell?_alloc_new]; rfl,by rw [World.cell?_alloc_new]; rfl,by rw [World.cell?_alloc_new]; rfl,fun k => World.frozen?_alloc_new _ _ _ _⟩
theorem Row4.other {w : World} {b d i : Nat} {c0 c1 c2 c3 : Nat} (h : Row4 w b c0 c1 c2 c3) (hd : d ≠ b) (v : Value) : Row4 (w.setCell ⟨d,i,none⟩ v) b c0 c1 c2 c3 :=
 ⟨by rw [World.cell?_setCell_other (h:=fun he => hd (by simpa using congrArg Addr.block he)) ..]; exact h.c0,by rw [World.cell?_setCell_other (h:=fun he => hd (by simpa using congrArg Addr.block he)) ..]; exact h.c1,
  by rw [World.cell?_setCell_other (h:=fun he => hd (by simpa using congrArg Addr.block he)) ..]; exact h.c2,by rw [World.cell?_setCell_other (h:=fun he => hd (by simpa using congrArg Addr.block he)) ..]; exact h.c3,
  fun k => by rw [World.frozen?_setCell]; exact h.fr k⟩
def set4 (w : World) (b : Nat) (d0 d1 d2 d3 : Nat) : World:=(((w.setCell ⟨b,0,none⟩ (.int .u64 d0)).setCell ⟨b,1,none⟩ (.int .u64 d1)).setCell ⟨b,2,none⟩ (.int .u64 d2)).setCell ⟨b,3,none⟩ (.int .u64 d3)
theorem Row4.rows {w : World} {b : Nat} {c0 c1 c2 c3 : Nat} (h : Row4 w b c0 c1 c2 c3) : RowIs w b 4 (eO [c0,c1,c2,c3]):=by
 intro k hk;refine ⟨?_,h.fr k⟩
 match k,hk with
 | 0,_ => exact h.c0
 | 1,_ => exact h.c1
 | 2,_ => exact h.c2
 | 3,_ => exact h.c3
theorem Row4.set4 {w : World} {b : Nat} {c0 c1 c2 c3 : Nat} (h : Row4 w b c0 c1 c2 c3) (d0 d1 d2 d3 : Nat) : Row4 (set4 w b d0 d1 d2 d3) b d0 d1 d2 d3:=by
 have r:=(((h.rows.set (show 0 < 4 by omega) (v:=d0)).set (show 1 < 4 by omega) (v:=d1)).set (show 2 < 4 by omega) (v:=d2)).set (show 3 < 4 by omega) (v:=d3);exact ⟨r.cell (by omega),r.cell (show 1 < 4 by omega),r.cell (show 2 < 4 by omega),r.cell (show 3 < 4 by omega),fun k => by
  show World.frozen? (((_ : World).setCell _ _)) _ = _;rw [World.frozen?_setCell,World.frozen?_setCell,World.frozen?_setCell,World.frozen?_setCell]; exact h.fr k⟩
theorem Row4.set4_other {w : World} {b d : Nat} {c0 c1 c2 c3 : Nat} (h : Row4 w b c0 c1 c2 c3) (hd : d ≠ b) (e0 e1 e2 e3 : Nat) : Row4 (Go.Proofs.YtfnkbmlmgnadmaaGreat.set4 w d e0 e1 e2 e3) b c0 c1 c2 c3 :=
 (((h.other hd _).other hd _).other hd _).other hd _
theorem aS {B : Nat} {w w' : World} {b : Nat} (h : Below B w w') (hb : B ≤ b) (d0 d1 d2 d3 : Nat) : Below B w (set4 w' b d0 d1 d2 d3) :=
 (((h.setCell (p:=⟨b,0,none⟩) hb _).setCell (p:=⟨b,1,none⟩) hb _).setCell (p:=⟨b,2,none⟩) hb _).setCell (p:=⟨b,3,none⟩) hb _
theorem bB (B : Nat) (w : World) (n : Nat) : Below B w (w.drewN n):=⟨rfl,rfl,rfl,Nat.le_refl _,fun _ _ => rfl⟩
def jU (B : Nat) (P : Nat → Nat) : Nat → Nat
 | 0 => 0
 | n + 1 => jU B P n + P n * B ^ n
theorem dW (B : Nat) (P : Nat → Nat) (n : Nat) : jU B P (n + 1) = jU B P n + P n * B ^ n:=rfl
theorem uW (B : Nat) (P : Nat → Nat) (k v : Nat) : ∀ n,n ≤ k → jU B (yL P k v) n = jU B P n
 | 0,_ => rfl
 | n + 1,h => by
  rw [dW,dW,uW B P k v n (by omega)];unfold yL;rw [if_neg (by omega)]
theorem TQ (B : Nat) (P : Nat → Nat) (k v : Nat) : ∀ n,k < n → jU B (yL P k v) n + P k * B ^ k = jU B P n + v * B ^ k
 | n + 1,h => by
  rw [dW,dW]
  by_cases e : k = n
  ·subst e;rw [uW B P k v k (Nat.le_refl _)];unfold yL;rw [if_pos rfl]; omega
  ·have:=TQ B P k v n (by omega);have e' : yL P k v n = P n:=by unfold yL; rw [if_neg (by omega)]
   rw [e']; omega
theorem uX (B : Nat) (P : Nat → Nat) (hB : 0 < B) : ∀ n,(∀ k,k < n → P k < B) → jU B P n < B ^ n
 | 0,_ => by simp [jU]
 | n + 1,h => by
  have h1:=uX B P hB n (fun k hk => h k (by omega));have h2:=Nat.mul_le_mul_right (B ^ n) (show P n + 1 ≤ B by have:=h n (by omega); omega);rw [dW,Nat.pow_succ,Nat.mul_comm (B ^ n) B];rw [Nat.add_mul,Nat.one_mul] at h2;omega
section
variable {R n : Nat} {A B P : Nat → Nat} {i j o d o' : Nat}
theorem mR (R : Nat) (P : Nat → Nat) (n : Nat) : ∀ m,jU R P (n + m) = jU R P n + R ^ n * jU R (fun k => P (n + k)) m
 | 0 => by rw [Nat.add_zero]; show _ = _ + R ^ n * 0; rw [Nat.mul_zero,Nat.add_zero]
 | m + 1 => by
  rw [show n + (m + 1) = n + m + 1 by omega,dW,mR R P n m,dW,Nat.mul_add,Nat.pow_add,← Nat.mul_assoc (R ^ n),Nat.add_assoc];rw [Nat.mul_comm (P (n + m)) (R ^ n * R ^ m),Nat.mul_right_comm]
end
theorem uS (P : Nat → Nat) : aC (P 0) (P 1) (P 2) (P 3) = jU 18446744073709551616 P 4:=by
 unfold aC;simp only [jU];omega
def iW (A i : Nat) : Nat:=A / 2 ^ i % 2
theorem xJ (A i : Nat) : iW A i = 0 ∨ iW A i = 1:=by unfold iW; omega
theorem qI (R : Nat) (P : Nat → Nat) (n : Nat) : jU R P (n + 1) = P 0 + R * jU R (fun k => P (1 + k)) n:=by
 have:=mR R P 1 n;rw [Nat.add_comm n 1,this];simp [jU]
theorem Di (P : Nat → Nat) (hP : ∀ k,P k < 18446744073709551616) (n j k : Nat) (hj : j < n) (hk : k < 64) : iW (jU 18446744073709551616 P n) (64 * j + k) = P j / 2 ^ k % 2:=by
 obtain ⟨m,rfl⟩ : ∃ m,n = j + (m + 1):=⟨n - j - 1,by omega⟩
 have h1:=mR 18446744073709551616 P j (m + 1);have h2:=qI 18446744073709551616 (fun k => P (j + k)) m;have h3:=uX 18446744073709551616 P (by omega) j (fun k _ => hP k);unfold iW;rw [h1,h2,oY,← Nat.div_div_eq_div_mul,Nat.add_mul_div_left _ _ (by exact Nat.pow_pos (by omega)),Nat.div_eq_of_lt h3,Nat.zero_add];have e : 18446744073709551616 = 2 ^ k * (2 * 2 ^ (63 - k)):=by
  rw [← Nat.pow_succ',← Nat.pow_add,show k + (63 - k).succ = 64 by omega]
 show (P j + 18446744073709551616 * _) / 2 ^ k % 2 = _;generalize jU 18446744073709551616 (fun k => P (j + (1 + k))) m = H;rw [show 18446744073709551616 * H = 2 ^ k * (2 * 2 ^ (63 - k)) * H by rw [← e],Nat.mul_assoc,Nat.add_mul_div_left _ _ (by exact Nat.pow_pos (by omega)),Nat.mul_assoc,Nat.add_mul_mod_self_left]
theorem aFM {i : Nat} (h : i < 256) : ∃ j k : Nat,(i : Int) / 64 = (j : Int) ∧ (i : Int) % 64 = (k : Int) ∧ j < 4 ∧ k < 64 ∧ Hid (i = 64 * j + k) :=
 ⟨i / 64,i % 64,by omega,by omega,by omega,by omega,Lib.hid (by omega)⟩
theorem Cp (x : Nat) (hx : x < 18446744073709551616) : bits .and .u64 (x : Int) 1 = ((x % 2 : Nat) : Int):=by
 rw [show (1 : Int) = ((1 : Nat) : Int) from rfl,bits_and_u64_nat _ _ hx (by omega),Nat.and_one_is_mod]
theorem aCm {x k b : Nat} (hx : x < 18446744073709551616) (hb : x / 2 ^ k % 2 = b) : ∃ s : Nat,(x : Int) / 2 ^ k = (s : Int) ∧ bits .and .u64 (s : Int) 1 = (b : Int) ∧ s < 18446744073709551616:=by
 have hs : x / 2 ^ k < 18446744073709551616:=Nat.lt_of_le_of_lt (Nat.div_le_self _ _) hx;exact ⟨x / 2 ^ k,by rw [Int.natCast_ediv,Int.natCast_pow]; rfl,by rw [Cp _ hs,hb],hs⟩
theorem Ng (A i : Nat) : A / 2 ^ i = 2 * (A / 2 ^ (i + 1)) + iW A i:=by
 unfold iW;rw [Nat.pow_succ,← Nat.div_div_eq_div_mul];omega
def Mem (w wr : World) (rs : List (Nat × Nat × Nat × Nat × Nat)) : Prop :=
 Below w.heap.size w wr ∧ ∀ r,r ∈ rs → r.1 < wr.heap.size ∧ Row4 wr r.1 r.2.1 r.2.2.1 r.2.2.2.1 r.2.2.2.2
theorem Mem.nil (w : World) : Mem w w []:=⟨Below.refl _ _,fun _ h => by cases h⟩
theorem Mem.on {w wr w' : World} {rs : List (Nat × Nat × Nat × Nat × Nat)} (h : Mem w wr rs) (hb : Below wr.heap.size wr w') : Mem w w' rs :=
 ⟨h.1.trans (hb.mono h.1.size),fun r hr => ⟨Nat.lt_of_lt_of_le (h.2 r hr).1 hb.size,(h.2 r hr).2.below hb (h.2 r hr).1⟩⟩
theorem Mem.drewN {w wr : World} {rs : List (Nat × Nat × Nat × Nat × Nat)} (h : Mem w wr rs) (n : Nat) : Mem w (wr.drewN n) rs:=h.on (bB _ _ n)
theorem Mem.new {w wr : World} {rs : List (Nat × Nat × Nat × Nat × Nat)} (h : Mem w wr rs) (b c0 c1 c2 c3 : Nat) (t : TypeId) (hb : b = wr.heap.size) :
  Mem w (wr.alloc (.cells #[.int .u64 c0,.int .u64 c1,.int .u64 c2,.int .u64 c3] t)) ((b,c0,c1,c2,c3) :: rs):=by
 subst hb;have hB : Below wr.heap.size wr (wr.alloc (.cells #[.int .u64 c0,.int .u64 c1,.int .u64 c2,.int .u64 c3] t)):=(Below.refl _ _).alloc (Nat.le_refl _) _;refine ⟨(h.on hB).1,fun r hr => ?_⟩
 rcases List.mem_cons.1 hr with e | hr
 ·rw [e];exact ⟨by simp,Row4.new wr c0 c1 c2 c3 t⟩
 ·exact (h.on hB).2 r hr
theorem Mem.sub {w wr : World} {rs rs' : List (Nat × Nat × Nat × Nat × Nat)} (h : Mem w wr rs) (hs : ∀ r,r ∈ rs' → r ∈ rs) : Mem w wr rs':=⟨h.1,fun r hr => h.2 r (hs r hr)⟩
theorem Mem.put {w wr : World} {rs : List (Nat × Nat × Nat × Nat × Nat)} {b c0 c1 c2 c3 : Nat} (h : Mem w wr ((b,c0,c1,c2,c3) :: rs)) (d0 d1 d2 d3 : Nat) (hw : w.heap.size ≤ b) (hne : ∀ r,r ∈ rs → r.1 ≠ b) :
  Mem w (set4 wr b d0 d1 d2 d3) ((b,d0,d1,d2,d3) :: rs):=by
 refine ⟨aS h.1 hw _ _ _ _,fun r hr => ?_⟩;have hs : (set4 wr b d0 d1 d2 d3).heap.size = wr.heap.size:=by unfold set4; simp only [World.size_setCell]
 rcases List.mem_cons.1 hr with e | hr
 ·rw [e];exact ⟨by rw [hs]; exact (h.2 _ List.mem_cons_self).1,(h.2 _ List.mem_cons_self).2.set4 _ _ _ _⟩
 ·exact ⟨by rw [hs]; exact (h.2 r (List.mem_cons_of_mem _ hr)).1,(h.2 r (List.mem_cons_of_mem _ hr)).2.set4_other (fun e => hne r hr e.symm) _ _ _ _⟩
def Xe (b : Nat) (w : World) (e : Ending) (w' : World) : Prop:=e = .returned (.int .i64 b) ∧ Below w.heap.size w w'
theorem EF {a0 a1 a2 a3 : Nat} (ha : bH a0 a1 a2 a3) (k : Nat) : eO [a0,a1,a2,a3] k < 18446744073709551616:=by
 obtain ⟨h0,h1,h2,h3⟩:=ha;unfold eO
 match k with
 | 0 => exact h0
 | 1 => exact h1
 | 2 => exact h2
 | 3 => exact h3
 | k + 4 => simp
theorem TN (a0 a1 a2 a3 : Nat) : aC a0 a1 a2 a3 = jU 18446744073709551616 (eO [a0,a1,a2,a3]) 4:=by rw [← uS]; rfl
theorem aDB {a0 a1 a2 a3 i j k : Nat} (ha : bH a0 a1 a2 a3) (hj : j < 4) (hk : k < 64) (e : i = 64 * j + k) : eO [a0,a1,a2,a3] j / 2 ^ k % 2 = iW (aC a0 a1 a2 a3) i:=by
 rw [TN,e,Di _ (EF ha) 4 j k hj hk]
theorem Jf (w : World) (t : TypeId) (a0 a1 a2 a3 j : Nat) (hj : j < 4) : (w.alloc (.cells #[.int .u64 a0,.int .u64 a1,.int .u64 a2,.int .u64 a3] t)).cell? ⟨w.heap.size,j,none⟩ = some (.int .u64 (eO [a0,a1,a2,a3] j : Nat)) :=
 (RowIs.mk w t [a0,a1,a2,a3] w.heap.size rfl).cell hj
theorem aDA (a0 a1 a2 a3 i : Nat) (ha : bH a0 a1 a2 a3) (hi : i < 256) (w : World) :
  Calls prog 153 #[.agg #[.int .u64 a0,.int .u64 a1,.int .u64 a2,.int .u64 a3],.int .i64 i] w (Xe (iW (aC a0 a1 a2 a3) i) w):=by
 obtain ⟨j,k,q,r,hj,hk,e⟩:=aFM hi;have hc:=Jf w 81 a0 a1 a2 a3 j hj;have hx:=EF ha j;obtain ⟨s,e1,e2,hs⟩:=aCm hx (aDB ha hj hk e.out);have hb:=xJ (aC a0 a1 a2 a3) i;generalize iW (aC a0 a1 a2 a3) i = b at *;generalize eO [a0,a1,a2,a3] j = x at *;have hb' : b ≤ 1:=by omega
 clear hb e;have t0 : decide ((i : Int) < 0) = false:=decide_eq_false (by omega);have t1 : decide ((256 : Int) ≤ (i : Int)) = false:=decide_eq_false (by omega)
 go_enter func153,ntmps153
 go_wp2_with fail;go_ret;exact ⟨rfl,(Below.refl _ _).alloc (Nat.le_refl _) _⟩
def jK (B : Nat → Nat) (s : Nat) : Nat → Nat
 | 0 => 0
 | n + 1 => jK B s n * 256 + B (s + n)
theorem RC {B : Nat → Nat} (hB : ∀ k,B k < 256) (s : Nat) : ∀ n,jK B s n < 256 ^ n
 | 0 => by simp [jK]
 | n + 1 => by
  have h1:=RC hB s n;have h2:=hB (s + n);show jK B s n * 256 + B (s + n) < 256 ^ n * 256;omega
theorem rR (B : Nat → Nat) (s n : Nat) : ∀ m,jK B s (n + m) = jK B s n * 256 ^ m + jK B (s + n) m
 | 0 => by simp [jK]
 | m + 1 => by
  show jK B s (n + m) * 256 + B (s + (n + m)) = jK B s n * (256 ^ m * 256) + (jK B (s + n) m * 256 + B (s + n + m));rw [rR B s n m,Nat.add_mul,Nat.mul_assoc,Nat.add_assoc s n m,Nat.add_assoc]
theorem uE {B C : Nat → Nat} (s : Nat) : ∀ n,(∀ k,k < n → B (s + k) = C (s + k)) → jK B s n = jK C s n
 | 0,_ => rfl
 | n + 1,h => by
  show jK B s n * 256 + B (s + n) = jK C s n * 256 + C (s + n);rw [uE s n (fun k hk => h k (by omega)),h n (by omega)]
theorem TR (B : Nat → Nat) (s : Nat) : ∀ n,jU 256 (fun k => B (s + n - 1 - k)) n = jK B s n
 | 0 => rfl
 | n + 1 => by
  rw [qI];show B (s + (n + 1) - 1 - 0) + 256 * jU 256 (fun k => B (s + (n + 1) - 1 - (1 + k))) n = jK B s n * 256 + B (s + n);have e : (fun k => B (s + (n + 1) - 1 - (1 + k))) = fun k => B (s + n - 1 - k):=by
   funext k; congr 1; omega
  rw [e,TR B s n,Nat.mul_comm,show s + (n + 1) - 1 - 0 = s + n by omega];omega
def aM (A p : Nat) : Nat:=A / 256 ^ (31 - p) % 256
theorem fH (A p : Nat) : aM A p < 256:=Nat.mod_lt _ (by omega)
theorem AI (A : Nat) (h : A < 256 ^ 32) : ∀ n,n ≤ 32 → jK (aM A) 0 n = A / 256 ^ (32 - n)
 | 0,_ => by
  show 0 = _;rw [Nat.div_eq_of_lt (by simpa using h)]
 | n + 1,hn => by
  show jK (aM A) 0 n * 256 + aM A (0 + n) = _;rw [AI A h n (by omega),Nat.zero_add];unfold aM;rw [show 32 - n = (32 - (n + 1)) + 1 by omega,show 31 - n = 32 - (n + 1) by omega,Nat.pow_succ,← Nat.div_div_eq_div_mul];generalize A / 256 ^ (32 - (n + 1)) = X;omega
theorem pJ {A : Nat} (h : A < 115792089237316195423570985008687907853269984665640564039457584007913129639936) : jK (aM A) 0 32 = A:=by
 have:=AI A (by simpa using h) 32 (by omega);simpa using this
theorem YD (P : Nat → Nat) (hP : ∀ k,P k < 18446744073709551616) (n j m : Nat) (hj : j < n) (hm : m < 8) : P j / 2 ^ (8 * m) % 256 = jU 18446744073709551616 P n / 256 ^ (8 * j + m) % 256:=by
 obtain ⟨q,rfl⟩ : ∃ q,n = j + (q + 1):=⟨n - j - 1,by omega⟩
 have h1:=mR 18446744073709551616 P j (q + 1);have h2:=qI 18446744073709551616 (fun k => P (j + k)) q;have h3:=uX 18446744073709551616 P (by omega) j (fun k _ => hP k);have e1 : 256 ^ (8 * j + m) = 18446744073709551616 ^ j * 2 ^ (8 * m):=by
  rw [Nat.pow_add,Nat.pow_mul,Nat.pow_mul]
 rw [h1,h2,e1,← Nat.div_div_eq_div_mul,Nat.add_mul_div_left _ _ (by exact Nat.pow_pos (by omega)),Nat.div_eq_of_lt h3,Nat.zero_add];have e : 18446744073709551616 = 2 ^ (8 * m) * (256 * 2 ^ (56 - 8 * m)):=by
  rw [show (256 : Nat) = 2 ^ 8 from rfl,← Nat.pow_add,← Nat.pow_add,show 8 * m + (8 + (56 - 8 * m)) = 64 by omega]
 show _ = (P j + 18446744073709551616 * _) / 2 ^ (8 * m) % 256;generalize jU 18446744073709551616 (fun k => P (j + (1 + k))) q = H;rw [show 18446744073709551616 * H = 2 ^ (8 * m) * (256 * 2 ^ (56 - 8 * m)) * H by rw [← e],Nat.mul_assoc,Nat.add_mul_div_left _ _ (by exact Nat.pow_pos (by omega)),Nat.mul_assoc,Nat.add_mul_mod_self_left]
theorem Yx {i : Nat} (h : i < 32) : ∃ j m s p : Nat,(i : Int) / 8 = (j : Int) ∧ (i : Int) % 8 = (m : Int) ∧ (m : Int) * 8 = (s : Int) ∧ (31 : Int) - (i : Int) = (p : Int) ∧ j < 4 ∧ m < 8 ∧ s ≤ 56 ∧ p < 32 ∧ Hid (i = 8 * j + m ∧ s = 8 * m ∧ p = 31 - i) :=
 ⟨i / 8,i % 8,i % 8 * 8,31 - i,by omega,by omega,by omega,by omega,by omega,by omega,by omega,by omega,Lib.hid (by omega)⟩
theorem Vq {x s b : Nat} (hx : x < 18446744073709551616) (hb : x / 2 ^ s % 256 = b) : ∃ t : Nat,(x : Int) / 2 ^ s = (t : Int) ∧ IntKind.u8.wrap (t : Int) = (b : Int) ∧ t < 18446744073709551616:=by
 have hs : x / 2 ^ s < 18446744073709551616:=Nat.lt_of_le_of_lt (Nat.div_le_self _ _) hx;refine ⟨x / 2 ^ s,by rw [Int.natCast_ediv,Int.natCast_pow]; rfl,?_,hs⟩;generalize x / 2 ^ s = q at *;simp only [IntKind.wrap,IntKind.bits,IntKind.signed];simp;omega
theorem Ds (R : Nat) (P : Nat → Nat) (j : Nat) : ∀ n,j < n → P j * R ^ j ≤ jU R P n
 | 0,h => absurd h (by omega)
 | n + 1,h => by
  rw [dW]
  rcases Nat.lt_or_ge j n with hj | hj
  ·have:=Ds R P j n hj; omega
  ·obtain rfl : j = n:=by omega
   omega
theorem Aw {P : Nat → Nat} {V i j m s d : Nat} (hj : j < 4) (hm : m < 8) (e : i = 8 * j + m) (es : s = 8 * m) (hV : jU 18446744073709551616 P 4 = V) (hlt : V < 256 ^ i) : P j < 2 ^ s ∧ jU 18446744073709551616 (yL P j (P j + d * 2 ^ s)) 4 = V + d * 256 ^ i:=by
 have e1 : 256 ^ i = 18446744073709551616 ^ j * 2 ^ s:=by
  rw [e,es,Nat.pow_add,Nat.pow_mul,Nat.pow_mul]
 refine ⟨?_,?_⟩
 ·have h1:=Ds 18446744073709551616 P j 4 hj;rw [hV] at h1;have h2:=Nat.lt_of_le_of_lt h1 hlt;rw [e1,Nat.mul_comm] at h2;exact Nat.lt_of_mul_lt_mul_left h2
 ·have h:=TQ 18446744073709551616 P j (P j + d * 2 ^ s) 4 hj;rw [Nat.add_mul] at h;rw [e1,Nat.mul_comm (18446744073709551616 ^ j),← Nat.mul_assoc,← hV];omega
theorem aCk {x d s : Nat} (hd : d < 256) (hs : s ≤ 56) (hx : x < 2 ^ s) : ∃ u z : Nat,IntKind.u64.wrap ((d : Int) * 2 ^ s) = (u : Int) ∧ bits .or .u64 (x : Int) (u : Int) = (z : Int) ∧ u < 18446744073709551616 ∧ z < 18446744073709551616 ∧ Hid (z = x + d * 2 ^ s):=by
 have h1 : d * 2 ^ s < 18446744073709551616:=by
  have a:=Nat.mul_lt_mul_of_pos_right hd (Nat.two_pow_pos s);have b : 256 * 2 ^ s ≤ 18446744073709551616:=by
   rw [show (256 : Nat) = 2 ^ 8 from rfl,← Nat.pow_add,show 18446744073709551616 = 2 ^ 64 by simp];exact Nat.pow_le_pow_right (by omega) (by omega)
  omega
 have h2 : x < 18446744073709551616:=Nat.lt_of_lt_of_le hx (by
  rw [show 18446744073709551616 = 2 ^ 64 by simp]; exact Nat.pow_le_pow_right (by omega) (by omega))
 obtain ⟨z,e1,e2,e3⟩:=oE (k:=s) h2 h1 (Lib.hid hx) (Lib.hid ⟨d,Nat.mul_comm _ _⟩);exact ⟨d * 2 ^ s,z,by rw [eI,qF _ h1],e1,h1,e2,e3⟩
def RowB (w : World) (b n : Nat) (P : Nat → Nat) : Prop:=∀ k,k < n → w.cell? ⟨b,k,none⟩ = some (.int .u8 (P k : Nat)) ∧ w.frozen? ⟨b,k,none⟩ = false
theorem RowB.below {w w' : World} {b n : Nat} {P : Nat → Nat} (h : RowB w b n P) {B : Nat} (hb : Below B w w') (hB : b < B) : RowB w' b n P:=fun k hk =>
 ⟨(hb.cell (p:=⟨b,k,none⟩) hB).trans (h k hk).1,(hb.frozen (p:=⟨b,k,none⟩) hB).trans (h k hk).2⟩
theorem RowB.set {w : World} {b n i v : Nat} {P : Nat → Nat} (h : RowB w b n P) (hi : i < n) : RowB (w.setCell ⟨b,i,none⟩ (.int .u8 (v : Nat))) b n (yL P i v):=by
 intro k hk;refine ⟨?_,by rw [World.frozen?_setCell]; exact (h k hk).2⟩;unfold yL
 by_cases e : k = i
 ·subst e; rw [if_pos rfl]; exact World.cell?_setCell_same (h:=(h k hk).1) ..
 ·rw [if_neg e,World.cell?_setCell_other (h:=fun he => e (by simpa using (congrArg Addr.off he).symm)) ..]; exact (h k hk).1
theorem RowB.other {w : World} {b n i : Nat} {P : Nat → Nat} (h : RowB w b n P) {c : Nat} (hc : c ≠ b) (x : Value) : RowB (w.setCell ⟨c,i,none⟩ x) b n P:=by
 intro k hk;exact ⟨by rw [World.cell?_setCell_other (h:=fun he => hc (by simpa using congrArg Addr.block he)) ..]; exact (h k hk).1,by rw [World.frozen?_setCell]; exact (h k hk).2⟩
theorem RowB.drewN {w : World} {b n : Nat} {P : Nat → Nat} (h : RowB w b n P) (m : Nat) : RowB (w.drewN m) b n P:=h
theorem RowB.ext {w : World} {b n : Nat} {P R : Nat → Nat} (h : RowB w b n P) (e : ∀ k,k < n → P k = R k) : RowB w b n R:=fun k hk => ⟨by rw [← e k hk]; exact (h k hk).1,(h k hk).2⟩
def Oy (P : Nat → Nat → Prop) (w : World) (e : Ending) (w' : World) : Prop :=
 ∃ s0 s1 s2 s3 c : Nat,e = .returned (.tuple #[.agg #[.int .u64 s0,.int .u64 s1,.int .u64 s2,.int .u64 s3],.int .i64 c]) ∧ bH s0 s1 s2 s3 ∧ P (aC s0 s1 s2 s3) c ∧ Below w.heap.size w w'
set_option maxHeartbeats 1000000 in
theorem Rx (g off cap : Nat) (B : Nat → Nat) (hB : ∀ k,B k < 256) (w : World) (hg : g < w.heap.size) (hc : ∀ k,k < 32 → w.cell? ⟨g,off + k,none⟩ = some (.int .u8 (B k : Nat))) :
  Calls prog 61 #[.slice (some ⟨g,off,none⟩) 32 cap] w (Oy (fun n c => n = jK B 0 32 ∧ c = 0) w):=by
 have HC:=Lib.hid hc;have HB:=Lib.hid hB;have HE:=Lib.hid (TR B 0 32);have HT:=Lib.hid (fun i => uX 256 (fun k => B (0 + 32 - 1 - k)) (by omega) i (fun k _ => hB _));clear hc hB;generalize eD : (fun k => B (0 + 32 - 1 - k)) = D at *;have hD : ∀ i p,i < 32 → p = 31 - i → B p = D i:=fun i p hi hp => by
  rw [← eD,hp]
 have HD:=Lib.hid hD;clear hD eD
 go_enter func61,ntmps61
 go_wp2_with fail;have R0:=Lib.hid (Row4.new (w.alloc (.cells #[.int .u64 0,.int .u64 0,.int .u64 0,.int .u64 0] 81)) 0 0 0 0 81).rows;have Z0:=Lib.hid ((Row4.new w 0 0 0 0 81).alloc (by simp) (.cells #[.int .u64 0,.int .u64 0,.int .u64 0,.int .u64 0] 81))
 go_loopw [10] (fun x wr => ∃ (i : Nat) (P : Nat → Nat),i ≤ 32 ∧ x = .int .i64 i ∧ (∀ k,P k < 18446744073709551616) ∧ Hid (jU 18446744073709551616 P 4 = jU 256 D i) ∧ RowIs wr (w.heap.size + 1) 4 P ∧ Row4 wr w.heap.size 0 0 0 0 ∧ Below w.heap.size w wr ∧ w.heap.size + 1 < wr.heap.size) (fun x _ => 32 - (intOf x).toNat)
 case atStart =>
  refine ⟨0,eO [0,0,0,0],by omega,rfl,fun k => EF ⟨by omega,by omega,by omega,by omega⟩ k,Lib.hid rfl,by simpa using R0.out,Z0.out,?_,by simp⟩;exact ((Below.refl _ _).alloc (Nat.le_refl _) _).alloc (by simp) _
 case round =>
  obtain ⟨i,P,hi,rfl,lP,tP,rP,z0,hb,hz⟩:=hrel;have HBl:=Lib.hid hb;have HZ:=Lib.hid z0;have HlP:=Lib.hid lP;have HR:=Lib.hid rP
  by_cases hlt : i < 32
  ·obtain ⟨j,m,s,p,q1,q2,q3,q4,hj,hm,hs,hp,e⟩:=Yx hlt;have cx:=rP.cell hj;have fx:=rP.free hj;have cb : wr.cell? ⟨g,off + p,none⟩ = some (.int .u8 (B p : Nat)):=(hb.cell (p:=⟨g,off + p,none⟩) hg).trans (HC.out p hp);have lb:=HB.out p;have hbD:=HD.out i p hlt e.out.2.2;have st:=Aw (d:=D i) hj hm e.out.1 e.out.2.1 tP.out (HT.out i);obtain ⟨u,z,e1,e2,lu,lz,ez⟩:=aCk lb hs st.1;have HN:=Lib.hid (show jU 18446744073709551616 (yL P j z) 4 = jU 256 D (i + 1) by
    rw [ez.out,hbD,st.2,dW])
   have lx:=lP j;generalize P j = x at *;generalize B p = b at *;clear z0 hb rP lP tP st hbD e ez;go_wp2_with fail
   go_region
   go_wp2_with fail
   go_roundw
   case rel => exact ⟨i + 1,yL P j z,by omega,by go_num,fun k => by unfold yL; split; exact lz; exact HlP.out k,HN,(HR.out.drewN 1).set hj,(HZ.out.drewN 1).other (by omega) _,(HBl.out.drew).setCell (p:=⟨w.heap.size + 1,j,none⟩) (by simp) _,by show _ < (wr.setCell _ _).heap.size; rw [World.size_setCell]; exact hz⟩
   case measure => first | (simp [intOf]; done) | (simp [intOf]; omega)
  ·obtain rfl : i = 32:=by omega
   have HF:=Lib.hid ((uS P).trans (tP.out.trans HE.out));have c0:=rP.cell (show 0 < 4 by omega); have c1:=rP.cell (show 1 < 4 by omega); have c2:=rP.cell (show 2 < 4 by omega); have c3:=rP.cell (show 3 < 4 by omega);have k0:=z0.c0; have k1:=z0.c1; have k2:=z0.c2; have k3:=z0.c3; have kf:=z0.fr;have l0:=lP 0; have l1:=lP 1; have l2:=lP 2; have l3:=lP 3;clear rP z0 hb lP tP;go_wp2_with fail;refine bodyPost_ret (v:=.tuple #[.agg #[.int .u64 (P 0),.int .u64 (P 1),.int .u64 (P 2),.int .u64 (P 3)],.int .i64 0]) (by simp [results,results61,go_sem, *]) rfl ?_;exact ⟨P 0,P 1,P 2,P 3,0,rfl,⟨l0,l1,l2,l3⟩,⟨HF.out,rfl⟩,aS HBl.out (by omega) _ _ _ _⟩
structure FC where
 m0 : Nat
 m1 : Nat
 m2 : Nat
 m3 : Nat
 inv : Nat
 s0 : Nat
 s1 : Nat
 s2 : Nat
 s3 : Nat
 Ri : Nat
def FC.M (F : FC) : Nat:=aC F.m0 F.m1 F.m2 F.m3
def FC.R (_ : FC) : Nat:=115792089237316195423570985008687907853269984665640564039457584007913129639936
structure FC.Ok (F : FC) : Prop where
 okm : bH F.m0 F.m1 F.m2 F.m3
 oks : bH F.s0 F.s1 F.s2 F.s3
 inv : F.inv < 18446744073709551616
 turn : (F.inv * F.m0 + 1) % 18446744073709551616 = 0
 two : 2 * F.M < 115792089237316195423570985008687907853269984665640564039457584007913129639936
 ri : F.R * F.Ri % F.M = 1
 sq : aC F.s0 F.s1 F.s2 F.s3 = F.R * F.R % F.M
 gt : 2 < F.M
 odd : F.M % 2 = 1
def FP : FC:=⟨0x3c208c16d87cfd47,0x97816a916871ca8d,0xb85045b68181585d,0x30644e72e131a029,0x87d20782e4866389,0xf32cfc5b538afa89,0xb5e71911d44501fb,0x47ab1eff0a417ff6,0x06d89f71cab8351f,20988524275117001072002809824448087578619730785600314334253784976379291040311⟩
def FR : FC:=⟨0x43e1f593f0000001,0x2833e84879b97091,0xb85045b68181585d,0x30644e72e131a029,0xc2e1f593efffffff,0x1bb8e645ae216da7,0x53fe3ab1e35c59e3,0x8c49833d53bb8085,0x0216d0b17f4e44a5,9915499612839321149637521777990102151350674507940716049588462388200839649614⟩
theorem aIc : FP.M = 21888242871839275222246405745257275088696311157297823662689037894645226208583:=by kernel_rfl
theorem aIb : FR.M = 21888242871839275222246405745257275088548364400416034343698204186575808495617:=by kernel_rfl
theorem aGC : FP.Ok:=⟨by unfold bH; decide,by unfold bH; decide,by decide,by kernel_rfl,by decide,by kernel_rfl,by kernel_rfl,by decide,by kernel_rfl⟩
theorem aGB : FR.Ok:=⟨by unfold bH; decide,by unfold bH; decide,by decide,by kernel_rfl,by decide,by kernel_rfl,by kernel_rfl,by decide,by kernel_rfl⟩
theorem IZ {t0 t1 t2 t3 x y0 y1 y2 y3 m0 m1 m2 m3 o0 l0 cl c0 o1 l1 c1 n0 o2 l2 c2 n1 o3 l3 c3 n2 : Nat}
  (e0 : l0 + 18446744073709551616 * o0 = x * y0 + t0) (f0 : 0 + 18446744073709551616 * c0 = cl * m0 + l0)
  (e1 : l1 + 18446744073709551616 * o1 = x * y1 + t1 + o0) (f1 : n0 + 18446744073709551616 * c1 = cl * m1 + l1 + c0)
  (e2 : l2 + 18446744073709551616 * o2 = x * y2 + t2 + o1) (f2 : n1 + 18446744073709551616 * c2 = cl * m2 + l2 + c1)
  (e3 : l3 + 18446744073709551616 * o3 = x * y3 + t3 + o2) (f3 : n2 + 18446744073709551616 * c3 = cl * m3 + l3 + c2) :
  18446744073709551616 * aC n0 n1 n2 (o3 + c3) = aC t0 t1 t2 t3 + x * aC y0 y1 y2 y3 + cl * aC m0 m1 m2 m3:=by
 unfold aC;have ex : x * (y0 + 18446744073709551616 * (y1 + 18446744073709551616 * (y2 + 18446744073709551616 * y3))) = x * y0 + 18446744073709551616 * (x * y1 + 18446744073709551616 * (x * y2 + 18446744073709551616 * (x * y3))):=by
  simp only [Nat.mul_add,Nat.mul_left_comm x 18446744073709551616]
 have ec : cl * (m0 + 18446744073709551616 * (m1 + 18446744073709551616 * (m2 + 18446744073709551616 * m3))) = cl * m0 + 18446744073709551616 * (cl * m1 + 18446744073709551616 * (cl * m2 + 18446744073709551616 * (cl * m3))):=by
  simp only [Nat.mul_add,Nat.mul_left_comm cl 18446744073709551616]
 rw [ex,ec];generalize x * y0 = p0 at *;generalize x * y1 = p1 at *;generalize x * y2 = p2 at *;generalize x * y3 = p3 at *;generalize cl * m0 = q0 at *;generalize cl * m1 = q1 at *;generalize cl * m2 = q2 at *;generalize cl * m3 = q3 at *;omega
theorem RU {l inv m : Nat} (h : (inv * m + 1) % 18446744073709551616 = 0) : (l * inv % 18446744073709551616 * m + l) % 18446744073709551616 = 0:=by
 have e : l * inv * m + l = l * (inv * m + 1):=by rw [Nat.mul_add,Nat.mul_one,Nat.mul_assoc]
 rw [Nat.add_mod,Nat.mul_mod,Nat.mod_mod,← Nat.mul_mod,← Nat.add_mod,e,Nat.mul_mod,h,Nat.mul_zero,Nat.zero_mod]
theorem IY {N T x Y cl M : Nat} (e : 18446744073709551616 * N = T + x * Y + cl * M) (ht : T < 2 * M) (hx : x < 18446744073709551616) (hy : Y < M) (hc : cl < 18446744073709551616) : N < 2 * M:=by
 have h1:=rI (show x ≤ 18446744073709551615 by omega) (show Y ≤ M by omega);have h2:=Nat.mul_le_mul_right M (show cl ≤ 18446744073709551615 by omega);generalize x * Y = p at *;generalize cl * M = q at *;omega
theorem Dm {n0 n1 n2 s B : Nat} (h : aC n0 n1 n2 s < 115792089237316195423570985008687907853269984665640564039457584007913129639936) : s < 18446744073709551616:=by
 unfold aC at h; omega
def TC (M : Nat) (X : Nat → Nat) (Y k T : Nat) : Prop:=T < 2 * M ∧ ∃ q,T * 18446744073709551616 ^ k = (X 0 * (if 0 < k then 1 else 0) + 18446744073709551616 * (X 1 * (if 1 < k then 1 else 0) + 18446744073709551616 * (X 2 * (if 2 < k then 1 else 0) + 18446744073709551616 * (X 3 * (if 3 < k then 1 else 0))))) * Y + q * M
theorem By {M Y : Nat} (X : Nat → Nat) (hM : 0 < M) : TC M X Y 0 0:=⟨by omega,0,by simp⟩
theorem Bz {M Y T N cl : Nat} {X : Nat → Nat} {k : Nat} (hk : k < 4) (g : TC M X Y k T) (hx : X k < 18446744073709551616) (hy : Y < M) (hc : cl < 18446744073709551616) (e : 18446744073709551616 * N = T + X k * Y + cl * M) : TC M X Y (k + 1) N:=by
 obtain ⟨ht,q,h⟩:=g;refine ⟨IY e ht hx hy hc,q + cl * 18446744073709551616 ^ k,?_⟩;have e' : N * 18446744073709551616 ^ (k + 1) = T * 18446744073709551616 ^ k + X k * Y * 18446744073709551616 ^ k + cl * M * 18446744073709551616 ^ k:=by
  rw [Nat.pow_succ',← Nat.mul_assoc,Nat.mul_comm N,e,Nat.add_mul,Nat.add_mul]
 rw [e',h];have : k = 0 ∨ k = 1 ∨ k = 2 ∨ k = 3:=by omega
 have hxa : ∀ b : Nat,X k * Y * b = b * (X k * Y):=fun b => Nat.mul_comm _ _
 have hca : ∀ b : Nat,cl * M * b = b * (cl * M):=fun b => Nat.mul_comm _ _
 have hqa : ∀ b : Nat,(q + cl * b) * M = q * M + b * (cl * M):=fun b => by rw [Nat.add_mul,Nat.mul_right_comm,Nat.mul_comm (cl * M)]
 rw [hxa,hca,hqa]
 rcases this with rfl | rfl | rfl | rfl <;> simp [Nat.add_mul,Nat.mul_assoc] <;> omega
theorem Kr {F : FC} (hF : F.Ok) {Y T x0 x1 x2 x3 : Nat} {X : Nat → Nat} (h0 : X 0 = x0) (h1 : X 1 = x1) (h2 : X 2 = x2) (h3 : X 3 = x3) (g : TC F.M X Y 4 T) : T < 2 * F.M ∧ T % F.M = aC x0 x1 x2 x3 * Y * F.Ri % F.M:=by
 obtain ⟨ht,q,h⟩:=g;refine ⟨ht,?_⟩;simp only [h0,h1,h2,h3,show (0 : Nat) < 4 by omega,show (1 : Nat) < 4 by omega,show (2 : Nat) < 4 by omega,show (3 : Nat) < 4 by omega,if_true,Nat.mul_one] at h;have hr:=hF.ri;have hR : F.R = 18446744073709551616 ^ 4:=by simp [FC.R]
 have e : T * (F.R * F.Ri) = aC x0 x1 x2 x3 * Y * F.Ri + F.M * (q * F.Ri):=by
  rw [← Nat.mul_assoc,hR,h,Nat.add_mul,show q * F.M * F.Ri = F.M * (q * F.Ri) by rw [Nat.mul_comm q,Nat.mul_assoc]];rfl
 have e2 : T * (F.R * F.Ri) % F.M = T % F.M:=by rw [Nat.mul_mod,hr,Nat.mul_one,Nat.mod_mod]
 rw [← e2,e,Nat.add_mul_mod_self_left]
theorem Ib {t M : Nat} (h : t < 2 * M) : t % M = if t < M then t else t - M:=by
 split
 ·exact Nat.mod_eq_of_lt ‹_›
 ·rw [Nat.mod_eq_sub_mod (by omega),Nat.mod_eq_of_lt (by omega)]
def fw (x i : Nat) : Nat:=x / 18446744073709551616 ^ i % 18446744073709551616
theorem bR (x : Nat) : bH (fw x 0) (fw x 1) (fw x 2) (fw x 3):=⟨Nat.mod_lt _ (by omega),Nat.mod_lt _ (by omega),Nat.mod_lt _ (by omega),Nat.mod_lt _ (by omega)⟩
theorem oD {x : Nat} (h : x < 115792089237316195423570985008687907853269984665640564039457584007913129639936) : aC (fw x 0) (fw x 1) (fw x 2) (fw x 3) = x:=by
 unfold fw aC;have e1 : (18446744073709551616 : Nat) ^ 1 = 18446744073709551616:=by simp
 have e2 : (18446744073709551616 : Nat) ^ 2 = 18446744073709551616 * 18446744073709551616:=by simp
 have e3 : (18446744073709551616 : Nat) ^ 3 = 18446744073709551616 * 18446744073709551616 * 18446744073709551616:=by simp
 rw [Nat.pow_zero,Nat.div_one,e1,e2,e3,← Nat.div_div_eq_div_mul,← Nat.div_div_eq_div_mul,← Nat.div_div_eq_div_mul];omega
theorem fG {s0 s1 s2 s3 x : Nat} (hs : bH s0 s1 s2 s3) (hx : x < 115792089237316195423570985008687907853269984665640564039457584007913129639936) (h : aC s0 s1 s2 s3 = x) : s0 = fw x 0 ∧ s1 = fw x 1 ∧ s2 = fw x 2 ∧ s3 = fw x 3 :=
 FZ hs (bR x) (h.trans (oD hx).symm)
theorem gM {x : Nat} (h : x < FP.M) : x < 115792089237316195423570985008687907853269984665640564039457584007913129639936:=Nat.lt_trans h (by decide)
theorem bW : 0 < FP.M:=by decide
theorem aZ {x : Nat} (h : x < FP.M) : aC (fw x 0) (fw x 1) (fw x 2) (fw x 3) = x:=oD (gM h)
end Go.Proofs.YtfnkbmlmgnadmaaGreat
namespace Go.Proofs.YtfnkbmlmgnadmaaGreat.Ex
open Go.Proofs.Tryz
open Go.RowKit
abbrev Fq:=Fin FP.M
inductive At | f (x : Fq) | q (x : Nat) | c (v : Value)
def w4 (x : Nat) : List Value:=[.int .u64 (fw x 0 : Nat),.int .u64 (fw x 1 : Nat),.int .u64 (fw x 2 : Nat),.int .u64 (fw x 3 : Nat)]
def At.cells : At → List Value
 | .f x => w4 x.1
 | .q x => w4 x
 | .c v => [v]
def At.sz : At → Nat
 | .f _ => 4
 | .q _ => 4
 | .c _ => 1
theorem At.len (a : At) : a.cells.length = a.sz:=by cases a <;> rfl
def aA : List At → List Value
 | [] => []
 | a :: r => a.cells ++ aA r
def dG : List At → Nat
 | [] => 0
 | a :: r => a.sz + dG r
theorem aT : ∀ l : List At,(aA l).length = dG l
 | [] => rfl
 | a :: r => by simp [aA,dG,At.len,aT r]
def cellAt : List At → Nat → Option Value
 | [],_ => none
 | a :: r,o => bif Nat.blt o a.sz then a.cells[o]? else cellAt r (o - a.sz)
theorem gN : ∀ {l : List At} {o : Nat} {v : Value},cellAt l o = some v → (aA l)[o]? = some v
 | [],o,v,h => by cases h
 | a :: r,o,v,h => by
  unfold cellAt at h;show (a.cells ++ aA r)[o]? = _;cases hb : Nat.blt o a.sz <;> rw [hb] at h
  ·have hle : a.sz ≤ o:=by
    rcases Nat.lt_or_ge o a.sz with q | q
    ·have : Nat.blt o a.sz = true:=by simpa using q
     rw [hb] at this; cases this
    ·exact q
   rw [List.getElem?_append_right (by rw [At.len]; exact hle),At.len];exact gN h
  ·have hlt : o < a.sz:=by simpa using hb
   rw [List.getElem?_append_left (by rw [At.len]; exact hlt)];exact h
theorem aH : ∀ l m : List At,aA (l ++ m) = aA l ++ aA m
 | [],m => rfl
 | a :: r,m => by simp [aA,aH r m]
theorem RK (l m : List At) : dG (l ++ m) = dG l + dG m:=by rw [← aT,aH,List.length_append,aT,aT]
def tk : List At → Nat → Option (List At)
 | [],n => bif Nat.beq n 0 then some [] else none
 | a :: r,n => bif Nat.beq n 0 then some [] else bif Nat.ble a.sz n then (tk r (n - a.sz)).map (a :: ·) else none
def dp : List At → Nat → Option (List At)
 | [],n => bif Nat.beq n 0 then some [] else none
 | a :: r,n => bif Nat.beq n 0 then some (a :: r) else bif Nat.ble a.sz n then dp r (n - a.sz) else none
theorem oN : ∀ (l : List At) (n : Nat) (t : List At),tk l n = some t → ∃ r,l = t ++ r ∧ dG t = n
 | [],n,t,h => by
  unfold tk at h;cases hn : Nat.beq n 0 <;> rw [hn] at h
  ·cases h
  ·cases h; exact ⟨[],rfl,(Nat.eq_of_beq_eq_true hn).symm⟩
 | a :: r,n,t,h => by
  unfold tk at h;cases hn : Nat.beq n 0 <;> rw [hn] at h
  ·cases hs : Nat.ble a.sz n <;> rw [hs] at h
   ·cases h
   ·cases hr : tk r (n - a.sz) with
    | none => rw [hr] at h; cases h
    | some t' =>
     rw [hr] at h; cases h;obtain ⟨r',e,s⟩:=oN r _ _ hr;refine ⟨r',by rw [e]; rfl,?_⟩;have:=Nat.le_of_ble_eq_true hs;show a.sz + dG t' = n;omega
  ·cases h; exact ⟨a :: r,rfl,(Nat.eq_of_beq_eq_true hn).symm⟩
theorem pO : ∀ (l : List At) (n : Nat) (r : List At),dp l n = some r → ∃ t,l = t ++ r ∧ dG t = n
 | [],n,r,h => by
  unfold dp at h;cases hn : Nat.beq n 0 <;> rw [hn] at h
  ·cases h
  ·cases h; exact ⟨[],rfl,(Nat.eq_of_beq_eq_true hn).symm⟩
 | a :: l,n,r,h => by
  unfold dp at h;cases hn : Nat.beq n 0 <;> rw [hn] at h
  ·cases hs : Nat.ble a.sz n <;> rw [hs] at h
   ·cases h
   ·obtain ⟨t,e,s⟩:=pO l _ _ h;refine ⟨a :: t,by rw [e]; rfl,?_⟩;have:=Nat.le_of_ble_eq_true hs;show a.sz + dG t = n;omega
  ·cases h; exact ⟨[],rfl,(Nat.eq_of_beq_eq_true hn).symm⟩
def NE (l : List At) (o n : Nat) : Option (List At):=match dp l o with | some r => tk r n | none => none
theorem oP {l : List At} {o n : Nat} {t : List At} (h : NE l o n = some t) : ∃ p s,l = p ++ (t ++ s) ∧ dG p = o ∧ dG t = n:=by
 unfold NE at h;cases hd : dp l o with
 | none => rw [hd] at h; cases h
 | some r =>
  rw [hd] at h;obtain ⟨p,e,hp⟩:=pO _ _ _ hd;obtain ⟨s,e2,ht⟩:=oN _ _ _ h;exact ⟨p,s,by rw [e,e2],hp,ht⟩
def put (l : List At) (o : Nat) (v : List At) : Option (List At) :=
 match tk l o,dp l o with
 | some a,some b => match dp b (dG v) with | some s => some (a ++ (v ++ s)) | none => none
 | _,_ => none
theorem wU : ∀ {a b : List At} {r s : List At},a ++ r = b ++ s → dG a = dG b → aA a = aA b ∧ aA r = aA s:=by
 intro a b r s h hs;have:=congrArg aA h;rw [aH,aH] at this;exact List.append_inj this (by rw [aT,aT,hs])
theorem JI {l : List At} {o : Nat} {v l' : List At} (h : put l o v = some l') : ∃ a m s,l = a ++ (m ++ s) ∧ aA l' = aA a ++ (aA v ++ aA s) ∧ dG a = o ∧ dG m = dG v:=by
 unfold put at h;cases ht : tk l o with
 | none => rw [ht] at h; cases h
 | some a =>
  cases hd : dp l o with
  | none => rw [ht,hd] at h; cases h
  | some b =>
   rw [ht,hd] at h;simp only at h;cases hb : dp b (dG v) with
   | none => rw [hb] at h; cases h
   | some s =>
    rw [hb] at h; cases h;obtain ⟨r,e,s1⟩:=oN _ _ _ ht;obtain ⟨p,e2,s2⟩:=pO _ _ _ hd;obtain ⟨m,e3,s3⟩:=pO _ _ _ hb;obtain ⟨h1,h2⟩:=wU (e.symm.trans e2) (s1.trans s2.symm);refine ⟨p,m,s,by rw [e2,e3],?_,s2,s3⟩;rw [aH,aH,h1]
def wJ : Value → Bool
 | .bool _ => true
 | .int _ _ => true
 | .func _ _ _ => true
 | .slice _ _ _ => true
 | .pointer _ => true
 | _ => false
def nz : List Value → List At
 | .int .u64 (.ofNat 0) :: .int .u64 (.ofNat 0) :: .int .u64 (.ofNat 0) :: .int .u64 (.ofNat 0) :: r => .f ⟨0,bW⟩ :: nz r
 | v :: r => .c v :: nz r
 | [] => []
theorem VQ (l : List Value) : aA (nz l) = l:=by
 fun_induction nz l with
 | case1 r ih => show w4 0 ++ aA (nz r) = _; rw [ih]; rfl
 | case2 v r h ih => show [v] ++ aA (nz r) = _; rw [ih]; rfl
 | case3 => rfl
def nq : List At → List At
 | .c (.int .u64 (.ofNat a)) :: .c (.int .u64 (.ofNat b)) :: .c (.int .u64 (.ofNat c)) :: .c (.int .u64 (.ofNat d)) :: r =>
  bif Nat.blt a 18446744073709551616 && (Nat.blt b 18446744073709551616 && (Nat.blt c 18446744073709551616 && Nat.blt d 18446744073709551616)) then (if h : aC a b c d < FP.M then .f ⟨aC a b c d,h⟩ else .q (aC a b c d)) :: nq r
  else .c (.int .u64 (.ofNat a)) :: .c (.int .u64 (.ofNat b)) :: .c (.int .u64 (.ofNat c)) :: .c (.int .u64 (.ofNat d)) :: nq r
 | v :: r => v :: nq r
 | [] => []
theorem Tq (l : List At) : aA (nq l) = aA l:=by
 fun_induction nq l with
 | case1 a b c d r hb ih =>
  simp only [Bool.and_eq_true,Nat.blt_eq] at hb;have h4 : bH a b c d:=⟨hb.1,hb.2.1,hb.2.2.1,hb.2.2.2⟩;have hv : aC a b c d < 115792089237316195423570985008687907853269984665640564039457584007913129639936:=by
   unfold aC; obtain ⟨h1,h2,h3,h5⟩:=hb; omega
  obtain ⟨e0,e1,e2,e3⟩:=fG h4 hv rfl;have hc : (if h : aC a b c d < FP.M then At.f ⟨aC a b c d,h⟩ else At.q (aC a b c d)).cells = w4 (aC a b c d):=by split <;> rfl
  show (if h : aC a b c d < FP.M then At.f ⟨aC a b c d,h⟩ else At.q (aC a b c d)).cells ++ aA (nq r) = _;rw [hc,ih];unfold w4;rw [← e0,← e1,← e2,← e3];rfl
 | case2 a b c d r hb ih => simp only [aA,ih]
 | case3 v r h ih => show v.cells ++ aA (nq r) = _; rw [ih]; rfl
 | case4 => rfl
inductive TV | im (v : Value) | fl (l : List At)
def TV.den : TV → Value
 | .im v => v
 | .fl l => .agg (aA l).toArray
abbrev Bk:=Nat × Nat × Nat
inductive AV | im (v : Value) | fl (l : List At) | pt (k o : Nat) | sl (k o n m : Nat) | tu (l : List TV) | ic (t : Nat) (l : List At) | tf (k n m : Nat) (post : List TV) | so (k n : Nat) | tg (k n : Nat) (ante post : List TV)
def TV.av : TV → AV
 | .im v => .im v
 | .fl l => .fl l
def AV.den (β : Nat → Bk) : AV → Value
 | .im v => v
 | .fl l => .agg (aA l).toArray
 | .pt k o => .pointer (some ⟨(β k).1,(β k).2.1 + o,none⟩)
 | .sl k o n m => .slice (some ⟨(β k).1,(β k).2.1 + o,none⟩) n m
 | .tu l => .tuple (l.map TV.den).toArray
 | .ic t l => .iface t (.agg (aA l).toArray)
 | .tf k n m post => .tuple (.slice (some ⟨(β k).1,(β k).2.1,none⟩) n m :: post.map TV.den).toArray
 | .so k n => .slice (some ⟨(β k).1,(β k).2.1,none⟩) n (β k).2.2
 | .tg k n ante post => .tuple (ante.map TV.den ++ .slice (some ⟨(β k).1,(β k).2.1,none⟩) n (β k).2.2 :: post.map TV.den).toArray
theorem TV.av_den (β : Nat → Bk) (t : TV) : t.av.den β = t.den:=by cases t <;> rfl
def AV.key : AV → Option Nat
 | .pt k _ => some k
 | .sl k _ _ _ => some k
 | .tf k _ _ _ => some k
 | .so k _ => some k
 | .tg k _ _ _ => some k
 | _ => none
theorem AV.den_eq {β β' : Nat → Bk} (v : AV) (h : ∀ k,v.key = some k → β' k = β k) : v.den β' = v.den β:=by
 cases v with
 | pt k o => simp [AV.den,h k rfl]
 | sl k o n m => simp [AV.den,h k rfl]
 | tf k n m post => simp [AV.den,h k rfl]
 | so k n => simp [AV.den,h k rfl]
 | tg k n ante post => simp [AV.den,h k rfl]
 | _ => rfl
def AppAt (w : World) (b e sz n cap : Nat) : Prop:=∃ cur,w.heap[b]? = some (.cells cur e (0,0)) ∧ n ≤ cap ∧ cap ≤ maxLen ∧ cur.size = cap * sz
inductive Fact | slot (s : Nat) (v : AV) | row (k : Nat) (KB : Bool) (l : List At) | at (k b : Nat) | app (k e sz n : Nat)
def Fact.ok (base : Nat) (β : Nat → Bk) (a : Act) (w : World) : Fact → Prop
 | .slot s v => a.tmps[s]? = some (v.den β)
 | .row k KB l => (β k).1 < w.heap.size ∧ w.rangeAt (β k).1 (β k).2.1 (aA l) ∧ (KB = true → base ≤ (β k).1 ∧ (β k).2.1 = 0 ∧ ∀ j,w.frozen? ⟨(β k).1,j,none⟩ = false) ∧ (KB = false → (β k).1 < base)
 | .at k b => (β k).1 = b ∧ (β k).2.1 = 0
 | .app k e sz n => AppAt w (β k).1 e sz n (β k).2.2
def pH : List Fact → Nat → Option AV
 | [],_ => none
 | .slot t v :: r,s => bif Nat.beq t s then some v else pH r s
 | .row _ _ _ :: r,s => pH r s
 | .at _ _ :: r,s => pH r s
 | .app _ _ _ _ :: r,s => pH r s
theorem dE : ∀ {M : List Fact} {s : Nat} {v : AV},pH M s = some v → Fact.slot s v ∈ M
 | .slot t u :: r,s,v,h => by
  unfold pH at h;cases hb : Nat.beq t s <;> rw [hb] at h
  ·exact List.mem_cons_of_mem _ (dE h)
  ·cases h; cases Nat.eq_of_beq_eq_true hb; exact List.mem_cons_self
 | .row _ _ _ :: r,s,v,h => List.mem_cons_of_mem _ (dE (M:=r) h)
 | .at _ _ :: r,s,v,h => List.mem_cons_of_mem _ (dE (M:=r) h)
 | .app _ _ _ _ :: r,s,v,h => List.mem_cons_of_mem _ (dE (M:=r) h)
def dR : List Fact → Nat → Option (Bool × List At)
 | [],_ => none
 | .row t o l :: r,s => bif Nat.beq t s then some (o,l) else dR r s
 | .slot _ _ :: r,s => dR r s
 | .at _ _ :: r,s => dR r s
 | .app _ _ _ _ :: r,s => dR r s
theorem bI : ∀ {M : List Fact} {s : Nat} {o : Bool} {l : List At},dR M s = some (o,l) → Fact.row s o l ∈ M
 | .row t u m :: r,s,o,l,h => by
  unfold dR at h;cases hb : Nat.beq t s <;> rw [hb] at h
  ·exact List.mem_cons_of_mem _ (bI h)
  ·cases h; cases Nat.eq_of_beq_eq_true hb; exact List.mem_cons_self
 | .slot _ _ :: r,s,o,l,h => List.mem_cons_of_mem _ (bI (M:=r) h)
 | .at _ _ :: r,s,o,l,h => List.mem_cons_of_mem _ (bI (M:=r) h)
 | .app _ _ _ _ :: r,s,o,l,h => List.mem_cons_of_mem _ (bI (M:=r) h)
def ET : List Fact → Nat → Option Nat
 | [],_ => none
 | .at t b :: r,s => bif Nat.beq t s then some b else ET r s
 | .slot _ _ :: r,s => ET r s
 | .row _ _ _ :: r,s => ET r s
 | .app _ _ _ _ :: r,s => ET r s
theorem gO : ∀ {M : List Fact} {s b : Nat},ET M s = some b → Fact.at s b ∈ M
 | .at t c :: r,s,b,h => by
  unfold ET at h;cases hb : Nat.beq t s <;> rw [hb] at h
  ·exact List.mem_cons_of_mem _ (gO h)
  ·cases h; cases Nat.eq_of_beq_eq_true hb; exact List.mem_cons_self
 | .slot _ _ :: r,s,b,h => List.mem_cons_of_mem _ (gO (M:=r) h)
 | .row _ _ _ :: r,s,b,h => List.mem_cons_of_mem _ (gO (M:=r) h)
 | .app _ _ _ _ :: r,s,b,h => List.mem_cons_of_mem _ (gO (M:=r) h)
def pW : List Fact → Nat → Option (Nat × Nat × Nat)
 | [],_ => none
 | .app t e sz n :: r,s => bif Nat.beq t s then some (e,sz,n) else pW r s
 | .slot _ _ :: r,s => pW r s
 | .row _ _ _ :: r,s => pW r s
 | .at _ _ :: r,s => pW r s
theorem fY : ∀ {M : List Fact} {s e sz n : Nat},pW M s = some (e,sz,n) → Fact.app s e sz n ∈ M
 | .app t e' sz' n' :: r,s,e,sz,n,h => by
  unfold pW at h;cases hb : Nat.beq t s <;> rw [hb] at h
  ·exact List.mem_cons_of_mem _ (fY h)
  ·cases h; cases Nat.eq_of_beq_eq_true hb; exact List.mem_cons_self
 | .slot _ _ :: r,s,e,sz,n,h => List.mem_cons_of_mem _ (fY (M:=r) h)
 | .row _ _ _ :: r,s,e,sz,n,h => List.mem_cons_of_mem _ (fY (M:=r) h)
 | .at _ _ :: r,s,e,sz,n,h => List.mem_cons_of_mem _ (fY (M:=r) h)
def ev (M : List Fact) : Operand → Option AV
 | .tmp s => pH M s
 | .const v => some (.im v)
 | .func f => some (.im (.func (.func f) #[] #[]))
 | .global _ => none
theorem aO {M : List Fact} {base : Nat} {β : Nat → Bk} {a : Act} {w : World} (hM : ∀ φ ∈ M,φ.ok base β a w) {x : Operand} {v : AV} (h : ev M x = some v) : a.eval x = v.den β:=by
 cases x with
 | tmp s =>
  have:=hM _ (dE h);simp only [Fact.ok] at this;simp [Act.eval,this]
 | const u => cases h; rfl
 | func f => cases h; rfl
 | global g => cases h
def evs (M : List Fact) : List Operand → Option (List AV)
 | [] => some []
 | x :: r => match ev M x,evs M r with | some v,some l => some (v :: l) | _,_ => none
theorem pN {M : List Fact} {base : Nat} {β : Nat → Bk} {a : Act} {w : World} (hM : ∀ φ ∈ M,φ.ok base β a w) : ∀ {xs : List Operand} {l : List AV},evs M xs = some l → xs.map a.eval = l.map (AV.den β)
 | [],l,h => by cases h; rfl
 | x :: r,l,h => by
  unfold evs at h;cases hx : ev M x with
  | none => rw [hx] at h; cases h
  | some v =>
   cases hr : evs M r with
   | none => rw [hx,hr] at h; cases h
   | some l' => rw [hx,hr] at h; cases h; simp [aO hM hx,pN hM hr]
def KA : AV → Option (List At)
 | .fl l => some l
 | .im v => bif wJ v then some [.c v] else none
 | _ => none
theorem oA {v : AV} {p : List At} (h : KA v = some p) (β : Nat → Bk) : (v.den β).cells = (aA p).toArray:=by
 cases v with
 | fl l => cases h; rfl
 | im u =>
  have h' : (bif wJ u then some [At.c u] else none) = some p:=h;cases hu : wJ u <;> rw [hu] at h'
  ·cases h'
  ·cases h';cases u <;> first | rfl | cases hu
 | _ => cases h
def nZ (M : List Fact) : List (Nat × Operand) → Option (List (Nat × List At))
 | [] => some []
 | (i,x) :: r => match ev M x with
  | some v => match KA v,nZ M r with | some p,some l => some ((i,p) :: l) | _,_ => none
  | none => none
def AN (place : Nat → Option (Nat × Nat)) : List At → List (Nat × List At) → Option (List At)
 | l,[] => some l
 | l,(i,p) :: r => match place i with
  | none => none
  | some (off,sz) => bif Nat.beq (dG p) sz then (match put l off p with | some l' => AN place l' r | none => none) else none
theorem LY : ∀ (p B A C : List Value) (k off : Nat),A.length = off + k → B.length = p.length →
  (p.zipIdx k).foldl (fun cs (x : Value × Nat) => cs.setIfInBounds (off + x.2) x.1) (A ++ (B ++ C)).toArray = (A ++ (p ++ C)).toArray
 | [],B,A,C,k,off,hA,hB => by
  have : B = []:=List.length_eq_zero_iff.1 (by simpa using hB);subst this; rfl
 | v :: p,B,A,C,k,off,hA,hB => by
  cases B with
  | nil => cases hB
  | cons b B =>
   have e : (A ++ (b :: B ++ C)).toArray.setIfInBounds (off + k) v = ((A ++ [v]) ++ (B ++ C)).toArray:=by
    rw [List.setIfInBounds_toArray,← hA];simp
   simp only [List.zipIdx_cons,List.foldl_cons,e];rw [LY p B (A ++ [v]) C (k + 1) off (by simp [hA]; omega) (by simpa using hB)];simp
theorem kX {M : List Fact} {base : Nat} {β : Nat → Bk} {a : Act} {w : World} (hM : ∀ φ ∈ M,φ.ok base β a w) (place : Nat → Option (Nat × Nat)) :
  ∀ (xs : List (Nat × Operand)) (ps : List (Nat × List At)) (l l' : List At),nZ M xs = some ps → AN place l ps = some l' →
   Instr.fill place (aA l).toArray (xs.map fun (i,x) => (i,a.eval x)) = some (aA l').toArray
 | [],ps,l,l',h,h2 => by cases h; cases h2; rfl
 | (i,x) :: r,ps,l,l',h,h2 => by
  unfold nZ at h;cases hx : ev M x with
  | none => rw [hx] at h; cases h
  | some v =>
   rw [hx] at h;simp only at h;cases hp : KA v with
   | none => rw [hp] at h; cases h
   | some p =>
    cases hr : nZ M r with
    | none => rw [hp,hr] at h; cases h
    | some ps' =>
     rw [hp,hr] at h; cases h;unfold AN at h2;simp only [List.map_cons,Instr.fill];cases hpl : place i with
     | none => rw [hpl] at h2; cases h2
     | some os =>
      obtain ⟨off,sz⟩:=os;rw [hpl] at h2;simp only at h2;cases hb : Nat.beq (dG p) sz <;> rw [hb] at h2
      ·cases h2
      ·have hsz:=Nat.eq_of_beq_eq_true hb;simp only [cond_true] at h2;cases hq : put l off p with
       | none => rw [hq] at h2; cases h2
       | some l1 =>
        rw [hq] at h2;obtain ⟨A,m,s,e,f,ha,hm⟩:=JI hq;have hc:=oA hp β;rw [aO hM hx];have hsize : (AV.den β v).cells.size = sz:=by rw [hc]; simp [aT,hsz]
        have hle : ¬ (off + (AV.den β v).cells.size > (aA l).toArray.size):=by
         rw [hsize,e];simp [aH,aT];omega
        have hset : (AV.den β v).cells.zipIdx.foldl (fun cs (c,j) => cs.setIfInBounds (off + j) c) (aA l).toArray = (aA l1).toArray:=by
         rw [hc,f,e,aH,aH];have:=LY (aA p) (aA m) (aA A) (aA s) 0 off (by rw [aT,ha]; rfl) (by rw [aT,aT,hm]);simpa using this
        simp only [hset];rw [if_neg (by simp [hsize]; simpa [hsize] using hle)];exact kX hM place r ps' l1 l' hr h2
inductive CA | v (x : TV) | s (l : List At) (n m : Nat) | so (l : List At) (n : Nat)
inductive RV | one (t : TV) | many (l : List TV)
def RV.av : RV → AV
 | .one t => t.av
 | .many l => .tu l
def RV.den : RV → Value
 | .one t => t.den
 | .many l => .tuple (l.map TV.den).toArray
theorem RV.av_den (β : Nat → Bk) (r : RV) : r.av.den β = r.den:=by cases r with | one t => exact TV.av_den β t | many l => rfl
def CA.ok (w : World) : CA → Value → Prop
 | .v x,u => u = x.den
 | .s l n m,u => ∃ b o,u = .slice (some ⟨b,o,none⟩) n m ∧ b < w.heap.size ∧ w.rangeAt b o (aA l)
 | .so l n,u => ∃ b o m,u = .slice (some ⟨b,o,none⟩) n m ∧ b < w.heap.size ∧ w.rangeAt b o (aA l)
def bD (w : World) : List CA → List Value → Prop
 | [],[] => True
 | c :: cs,v :: vs => c.ok w v ∧ bD w cs vs
 | _,_ => False
abbrev Tab:=Nat → List CA → Option (List Prop × RV)
def aL : List Prop → Prop
 | [] => True
 | p :: r => p ∧ aL r
theorem aW : ∀ {l m : List Prop},aL (l ++ m) ↔ aL l ∧ aL m
 | [],m => by simp [aL]
 | p :: r,m => by simp [aL,aW (l:=r),and_assoc]
def TabOk (P : Program) (T : Tab) : Prop:=∀ f cs pre r,T f cs = some (pre,r) → aL pre →
 (∀ args w,(callFunc f args).run P w = .ok (.enter f args) w) ∧ ∀ (args : List Value) (w : World),bD w cs args → Calls P f args.toArray w (fun e w' => e = .returned r.den ∧ Below w.heap.size w w')
def isN : At → Bool
 | .c _ => false
 | _ => true
structure FR where
 l : List At
 n : Nat
 m : Nat
 post : List TV
def FR.val (r : FR) (b : Nat) : Value:=bif r.post.isEmpty then .slice (some ⟨b,0,none⟩) r.n r.m else .tuple (.slice (some ⟨b,0,none⟩) r.n r.m :: r.post.map TV.den).toArray
def FR.ok (r : FR) (w : World) (e : Ending) (w' : World) : Prop:=∃ b,e = .returned (r.val b) ∧ Below w.heap.size w w' ∧ w.heap.size ≤ b ∧ b < w'.heap.size ∧ w'.rangeAt b 0 (aA r.l) ∧ ∀ j,w'.frozen? ⟨b,j,none⟩ = false
structure FS where
 l : List At
 n : Nat
 e : Nat
 sz : Nat
 ap : Bool
 ante : List TV
 post : List TV
def FS.lone (r : FS) : Bool:=r.ante.isEmpty && r.post.isEmpty
def FS.val (r : FS) (b cap : Nat) : Value:=bif r.lone then .slice (some ⟨b,0,none⟩) r.n cap else .tuple (r.ante.map TV.den ++ .slice (some ⟨b,0,none⟩) r.n cap :: r.post.map TV.den).toArray
def FS.ok (r : FS) (w : World) (e : Ending) (w' : World) : Prop:=∃ b cap,e = .returned (r.val b cap) ∧ Below w.heap.size w w' ∧ w.heap.size ≤ b ∧ b < w'.heap.size ∧ w'.rangeAt b 0 (aA r.l) ∧ (∀ j,w'.frozen? ⟨b,j,none⟩ = false) ∧ (r.ap = true → AppAt w' b r.e r.sz r.n cap)
def Shape (w w' : World) : Prop:=∀ (b : Nat) (cur : Array Value) (e : Nat),w.heap[b]? = some (Obj.cells cur e (0,0)) → ∃ cur' : Array Value,w'.heap[b]? = some (Obj.cells cur' e (0,0)) ∧ cur'.size = cur.size
structure WrAt (w w' : World) (b : Nat) (l : List At) : Prop where
 os : w'.os = w.os
 tape : w'.tape = w.tape
 output : w'.output = w.output
 size : w.heap.size ≤ w'.heap.size
 block : ∀ k,k < w.heap.size → k ≠ b → w'.heap[k]? = w.heap[k]?
 shape : Shape w w'
 frozen : ∀ j,w'.frozen? ⟨b,j,none⟩ = w.frozen? ⟨b,j,none⟩
structure Ext where
 idx : Nat → Option Nat
 ld : Nat → Option (List At)
 st : Nat → Option (List At)
 gen : Nat → Option Value
 mks : Nat → Option (Nat × List At)
 ky : Nat → Option Nat
 old : Nat → Nat → List At → Prop
 T2 : Nat → List CA → Option (List Prop × FR)
 T3 : Nat → List CA → Option (List Prop × FS):=fun _ _ => Option.none
 T4 : Nat → List CA → Option (List Prop × Nat × List At):=fun _ _ => Option.none
def Ext.none : Ext:=⟨fun _ => .none,fun _ => .none,fun _ => .none,fun _ => .none,fun _ => .none,fun _ => .none,fun _ _ _ => False,fun _ _ => .none,fun _ _ => .none,fun _ _ => .none⟩
def XV (P : Program) (T : Tab) (w : World) : Prop:=∀ f cs pre r,T f cs = some (pre,r) → aL pre →
 (∀ args w,(callFunc f args).run P w = .ok (.enter f args) w) ∧ ∀ (args : List Value),bD w cs args → Calls P f args.toArray w (fun e w' => e = .returned r.den ∧ Below w.heap.size w w')
def TabOkW (P : Program) (T : Tab) (base : Nat) (w0 : World) : Prop:=∀ w,Below base w0 w → XV P T w
theorem TabOk.w {P : Program} {T : Tab} (h : TabOk P T) (base : Nat) (w0 : World) : TabOkW P T base w0:=fun w _ f cs pre r hg hp => ⟨(h f cs pre r hg hp).1,fun args ha => (h f cs pre r hg hp).2 args w ha⟩
def NB (P : Program) (x : Ext) (w : World) : Prop:=(∀ b o l,x.old b o l → w.rangeAt b o (aA l)) ∧ (∀ f cs pre r,x.T2 f cs = some (pre,r) → aL pre →
 (∀ args w,(callFunc f args).run P w = .ok (.enter f args) w) ∧ ∀ (args : List Value),bD w cs args → Calls P f args.toArray w (fun e w' => r.ok w e w')) ∧
 (∀ f cs pre r,x.T3 f cs = some (pre,r) → aL pre → (∀ args w,(callFunc f args).run P w = .ok (.enter f args) w) ∧ ∀ (args : List Value),bD w cs args → Calls P f args.toArray w (fun e w' => r.ok w e w')) ∧
 ∀ f cs pre j l,x.T4 f cs = some (pre,j,l) → aL pre → (∀ args w,(callFunc f args).run P w = .ok (.enter f args) w) ∧ ∀ (args : List Value),bD w cs args → ∀ b o n m,args[j]? = some (.slice (some ⟨b,o,none⟩) n m) → (∀ q,w.frozen? ⟨b,q,none⟩ = false) →
  Calls P f args.toArray w (fun e w' => e = .returned (.slice (some ⟨b,o,none⟩) n m) ∧ WrAt w w' b l ∧ w'.rangeAt b o (aA l))
def ExtOk (P : Program) (x : Ext) (base : Nat) (w0 : World) : Prop:=∀ w,Below base w0 w → NB P x w
structure EqT where
 q : Nat → Option Nat
 n : Nat → Option Nat
 x : Ext:=Ext.none
 fit : Nat → List At → Bool:=fun _ l => l.all isN
def BG (P : Program) (q : EqT) : Prop:=(∀ t n,q.q t = some n → P.eqGuardType P.depth t = false ∧ ∀ (l : List At) (w : World),dG l = n → q.fit t l = true → (Op.equalIn 10000 t (.agg (aA l).toArray) (.agg (aA l).toArray)).run P w = .ok true w) ∧
 (∀ t n,q.n t = some n → P.eqGuardType P.depth t = false ∧ ∀ (l m : List At) (w : World),dG l = n → dG m = n → q.fit t l = true → q.fit t m = true → aA l ≠ aA m → (Op.equalIn 10000 t (.agg (aA l).toArray) (.agg (aA m).toArray)).run P w = .ok false w)
theorem ExtOk.none (P : Program) (base : Nat) (w0 : World) : ExtOk P Ext.none base w0:=fun w _ => ⟨fun _ _ _ h => h.elim,fun _ _ _ _ h => (by cases h),fun _ _ _ _ h => (by cases h),fun _ _ _ _ _ h => (by cases h)⟩
def EqOk (P : Program) (q : EqT) : Prop:=BG P q ∧ q.x = Ext.none
def bU (P : Program) (q : EqT) (base : Nat) (w0 : World) : Prop:=BG P q ∧ ExtOk P q.x base w0
theorem EqOk.w {P : Program} {q : EqT} (h : EqOk P q) (base : Nat) (w0 : World) : bU P q base w0:=⟨h.1,h.2 ▸ ExtOk.none P base w0⟩
structure Env where
 P : Program
 T : Nat → Tab
 q : EqT
 hint : Nat → Bool
 num : Nat → Option Value
 nt : Nat
def dpz (l : List At) (o : Nat) : Option (List At):=bif Nat.beq o 0 then some l else dp l o
theorem MJ {l : List At} {n : Nat} {r : List At} (h : dpz l n = some r) : ∃ t,l = t ++ r ∧ dG t = n:=by
 unfold dpz at h;cases hb : Nat.beq n 0 <;> rw [hb] at h
 ·exact pO l n r h
 ·cases h; exact ⟨[],rfl,(Nat.eq_of_beq_eq_true hb).symm⟩
def Nr (M : List Fact) : AV → Option CA
 | .im v => some (.v (.im v))
 | .fl l => some (.v (.fl l))
 | .sl k o n m => match dR M k with
  | some (_,l) => match dpz l o with | some r => some (.s r n m) | none => none
  | none => none
 | .so k n => match dR M k with
  | some (_,l) => some (.so l n)
  | none => none
 | _ => none
def BA (M : List Fact) : List AV → Option (List CA)
 | [] => some []
 | v :: r => match Nr M v,BA M r with | some c,some l => some (c :: l) | _,_ => none
theorem Co {M : List Fact} {base : Nat} {β : Nat → Bk} {a : Act} {w : World} (hM : ∀ φ ∈ M,φ.ok base β a w) {v : AV} {c : CA} (h : Nr M v = some c) : c.ok w (v.den β):=by
 cases v with
 | im v => cases h; rfl
 | fl l => cases h; rfl
 | sl k o n m =>
  unfold Nr at h;cases hr : dR M k with
  | none => simp [hr] at h
  | some x =>
   obtain ⟨ow,l⟩:=x;simp only [hr] at h;cases hd : dpz l o with
   | none => simp [hd] at h
   | some r =>
    simp only [hd] at h;cases h;obtain ⟨h1,h2,_⟩:=hM _ (bI hr);obtain ⟨p,e,hp⟩:=MJ hd;refine ⟨_,_,rfl,h1,fun j u hj => ?_⟩;have:=h2 (o + j) u (by rw [e,aH,List.getElem?_append_right (by rw [aT,hp]; omega),aT,hp]; simpa using hj)
    rwa [← Nat.add_assoc] at this
 | so k n =>
  unfold Nr at h;cases hr : dR M k with
  | none => simp [hr] at h
  | some x =>
   obtain ⟨ow,l⟩:=x;simp only [hr] at h;cases h;obtain ⟨h1,h2,_⟩:=hM _ (bI hr);exact ⟨_,_,_,rfl,h1,h2⟩
 | _ => cases h
theorem oH {M : List Fact} {base : Nat} {β : Nat → Bk} {a : Act} {w : World} (hM : ∀ φ ∈ M,φ.ok base β a w) : ∀ {l : List AV} {cs : List CA},BA M l = some cs → bD w cs (l.map (AV.den β))
 | [],cs,h => by cases h; trivial
 | v :: r,cs,h => by
  unfold BA at h;cases hv : Nr M v with
  | none => simp [hv] at h
  | some c =>
   cases hr : BA M r with
   | none => simp [hv,hr] at h
   | some l =>
    simp only [hv,hr] at h;cases h;exact ⟨Co hM hv,oH hM hr⟩
def oC (P : Program) (t : Nat) : Bool:=match P.underlying t with | some d => d.isRow | none => false
def dI (P : Program) (t : Nat) : Option Nat:=match P.info? t with | some i => some i.size | none => none
def Xg (P : Program) (t : Nat) : Option (List At):=match P.info? t with
 | some i => match i.zero with | some z => some (nz z.cells.toList) | none => none
 | none => none
def zat (z : List Value) : List (Nat × List At) → List At
 | (_,[.c _]) :: _ => z.map .c
 | _ => nz z
theorem wT : ∀ z : List Value,aA (z.map .c) = z
 | [] => rfl
 | v :: r => by show [v] ++ aA (r.map .c) = _; rw [wT r]; rfl
theorem uO (z : List Value) (ps : List (Nat × List At)) : aA (zat z ps) = z:=by
 unfold zat;split
 ·exact wT z
 ·exact VQ z
def RX (P : Program) (t : Nat) (ps : List (Nat × List At)) : Option (List At) :=
 match P.info? t,P.underlying t with
 | some it,some (.array _ e) => match it.zero,P.info? e with
  | some z,some ie => AN (fun i => some (i * ie.size,ie.size)) (zat z.cells.toList ps) ps
  | _,_ => none
 | some it,some (.struct fields) => match it.zero,fields.toList.mapM (fun f => (P.info? f.type).map fun i => (f.offset,i.size)) with
  | some z,some places => AN (places.toArray[·]?) (zat z.cells.toList ps) ps
  | _,_ => none
 | _,_ => none
theorem MU {P : Program} {M : List Fact} {base : Nat} {β : Nat → Bk} {a : Act} {w : World} (hM : ∀ φ ∈ M,φ.ok base β a w) {t : Nat} {xs : List (Nat × Operand)} {ps : List (Nat × List At)} {l : List At}
  (hp : nZ M xs = some ps) (h : RX P t ps = some l) : P.built t (xs.map fun (i,x) => (i,a.eval x)) = some (aA l).toArray:=by
 unfold RX at h;unfold Program.built;cases hi : P.info? t with
 | none => simp [hi] at h
 | some it =>
  cases hu : P.underlying t with
  | none => simp [hi,hu] at h
  | some d =>
   cases d <;> simp only [hi,hu] at h ⊢ <;> try (cases h; done)
   ·rename_i n e;cases hz : it.zero with
    | none => simp [hz] at h
    | some z =>
     cases he : P.info? e with
     | none => simp [hz,he] at h
     | some ie =>
      simp only [hz,he] at h ⊢;have:=kX hM _ xs ps _ _ hp h
      rwa [uO,Array.toArray_toList] at this
   ·rename_i fs;cases hz : it.zero with
    | none => simp [hz] at h
    | some z =>
     cases hm : fs.toList.mapM (fun f => (P.info? f.type).map fun i => (f.offset,i.size)) with
     | none => simp [hz,hm] at h
     | some pl =>
      simp only [hz,hm] at h ⊢;have:=kX hM _ xs ps _ _ hp h
      rwa [uO,Array.toArray_toList] at this
def XN (P : Program) (t len : Nat) (ps : List (Nat × List At)) : Option (List At) :=
 match P.underlying t with
 | some (.slice e) => match P.info? e with
  | some ie => match ie.zero with
   | some z => bif Nat.ble (len * ie.size) 4096 && !(Nat.beq (len * ie.size) 0) then
     AN (fun i => some (i * ie.size,ie.size)) (zat ((Array.range (len * ie.size)).map (z.cells[· % z.cells.size]!)).toList ps) ps else none
   | none => none
  | none => none
 | _ => none
structure PostB (base : Nat) (β β' : Nat → Bk) (a : Act) (w : World) (dst : Option Nat) (M out : List Fact) (kill : Option Nat) (a' : Act) (w' : World) : Prop where
 defers : a'.defers = a.defers
 size : a'.tmps.size = a.tmps.size
 tmps : ∀ s,dst ≠ some s → a'.tmps[s]? = a.tmps[s]?
 beta : ∀ k,dst ≠ some k → β' k = β k
 heap : w.heap.size ≤ w'.heap.size
 mem : ∀ p : Addr,p.block < w.heap.size → (∀ k,kill = some k → p.block ≠ (β k).1) → w'.cell? p = w.cell? p ∧ w'.frozen? p = w.frozen? p
 shape : Shape w w'
 below : ∀ w0,Below base w0 w → Below base w0 w'
 ok : ∀ φ ∈ out,φ.ok base β' a' w'
 rows : ∀ k l,Fact.row k true l ∈ out → (w.heap.size ≤ (β' k).1 ∧ dst = some k) ∨ (dst ≠ some k ∧ ∃ l0,Fact.row k true l0 ∈ M) ∨ (dst = some k ∧ ∃ k0 l0,kill = some k0 ∧ (β' k).1 = (β k0).1 ∧ Fact.row k0 true l0 ∈ M)
 one : ∀ k k' l l',Fact.row k true l ∈ out → Fact.row k' true l' ∈ out → k = k'
 kills : ∀ k,kill = some k → ∃ l0,Fact.row k true l0 ∈ M
theorem Shape.refl (w : World) : Shape w w:=fun b cur e h => ⟨cur,h,rfl⟩
theorem Shape.below {w w' : World} (h : Below w.heap.size w w') : Shape w w':=fun b cur e hb => ⟨cur,(h.block b (Array.getElem?_eq_some_iff.1 hb).1).trans hb,rfl⟩
theorem Shape.alloc (w : World) (o : Obj) : Shape w (w.alloc o):=fun b cur e hb => ⟨cur,(Below.heap_alloc w o b (Array.getElem?_eq_some_iff.1 hb).1).trans hb,rfl⟩
theorem Shape.trans {a b c : World} (h : Shape a b) (k : Shape b c) : Shape a c:=fun q cur e hq => by
 obtain ⟨c1,h1,s1⟩:=h q cur e hq;obtain ⟨c2,h2,s2⟩:=k q c1 e h1;exact ⟨c2,h2,s2.trans s1⟩
theorem AppAt.shape {w w' : World} (h : Shape w w') {b e sz n cap : Nat} (ha : AppAt w b e sz n cap) : AppAt w' b e sz n cap:=by
 obtain ⟨cur,h1,h2,h3,h4⟩:=ha;obtain ⟨c',h5,h6⟩:=h b cur e h1;exact ⟨c',h5,h2,h3,h6.trans h4⟩
theorem kU (a : Act) (d : Nat) (v : Value) (h : d < a.tmps.size) : (a.put (some d) v).tmps[d]? = some v:=by
 simp [Act.put,h]
theorem nY (a : Act) (d s : Nat) (v : Value) (h : some d ≠ some s) : (a.put (some d) v).tmps[s]? = a.tmps[s]?:=by
 have : d ≠ s:=fun e => h (by rw [e])
 simp [Act.put,Array.getElem?_setIfInBounds_ne this]
theorem gG (a : Act) (d : Option Nat) (v : Value) : (a.put d v).tmps.size = a.tmps.size:=by cases d <;> simp [Act.put]
theorem vN (a : Act) (d : Option Nat) (v : Value) : (a.put d v).defers = a.defers:=by cases d <;> rfl
theorem zM {base : Nat} {β : Nat → Bk} {a : Act} {w : World} {d : Nat} {M : List Fact} (v : AV) (h : d < a.tmps.size) : PostB base β β a w (some d) M [.slot d v] none (a.put (some d) (v.den β)) w where
 defers:=rfl
 size:=gG _ _ _
 tmps s hs:=nY _ _ _ _ hs
 beta k _:=rfl
 heap:=Nat.le_refl _
 mem p _ _:=⟨rfl,rfl⟩
 shape:=Shape.refl _
 below _ h:=h
 ok φ hφ:=by cases List.mem_singleton.1 hφ; exact kU _ _ _ h
 rows k l hk:=by cases List.mem_singleton.1 hk
 one k k' l l' hk:=by cases List.mem_singleton.1 hk
 kills k hk:=by cases hk
theorem rC {base : Nat} {β : Nat → Bk} {a : Act} {w w' : World} {d : Nat} {M : List Fact} (v : AV) (h : d < a.tmps.size) (hB : base ≤ w.heap.size) (hb : Below w.heap.size w w') : PostB base β β a w (some d) M [.slot d v] none (a.put (some d) (v.den β)) w' where
 defers:=rfl
 size:=gG _ _ _
 tmps s hs:=nY _ _ _ _ hs
 beta k _:=rfl
 heap:=hb.size
 mem p hp _:=⟨hb.cell hp,hb.frozen hp⟩
 shape:=Shape.below hb
 below _ h:=h.trans (hb.mono hB)
 ok φ hφ:=by cases List.mem_singleton.1 hφ; exact kU _ _ _ h
 rows k l hk:=by cases List.mem_singleton.1 hk
 one k k' l l' hk:=by cases List.mem_singleton.1 hk
 kills k hk:=by cases hk
def Pi (β : Nat → Bk) (d b : Nat) : Nat → Bk:=fun k => bif Nat.beq k d then (b,0,0) else β k
def Pb (β : Nat → Bk) (d b cap : Nat) : Nat → Bk:=fun k => bif Nat.beq k d then (b,0,cap) else β k
theorem cI (β : Nat → Bk) (d b cap : Nat) : Pb β d b cap d = (b,0,cap):=by simp [Pb]
theorem Cv (β : Nat → Bk) (d b cap k : Nat) (h : some d ≠ some k) : Pb β d b cap k = β k:=by
 have : k ≠ d:=fun e => h (by rw [e])
 unfold Pb;cases h2 : Nat.beq k d
 ·rfl
 ·exact absurd (Nat.eq_of_beq_eq_true h2) this
theorem cL (β : Nat → Bk) (d b : Nat) : Pi β d b d = (b,0,0):=by simp [Pi]
theorem Cw (β : Nat → Bk) (d b k : Nat) (h : some d ≠ some k) : Pi β d b k = β k:=by
 have : k ≠ d:=fun e => h (by rw [e])
 unfold Pi;cases h2 : Nat.beq k d
 ·rfl
 ·exact absurd (Nat.eq_of_beq_eq_true h2) this
theorem Hg {base : Nat} {β : Nat → Bk} {a : Act} {w : World} {d : Nat} {M : List Fact} (v : AV) (l : List At) (t : TypeId) (h : d < a.tmps.size) (hB : base ≤ w.heap.size) :
  PostB base β (Pi β d w.heap.size) a w (some d) M [.slot d v,.row d true l] none (a.put (some d) (v.den (Pi β d w.heap.size))) (w.alloc (.cells (aA l).toArray t)) where
 defers:=rfl
 size:=gG _ _ _
 tmps s hs:=nY _ _ _ _ hs
 beta k hk:=Cw _ _ _ _ hk
 heap:=by simp
 mem p hp _:=⟨World.cell?_alloc_lt _ _ _ hp,World.frozen?_alloc_past _ _ _ hp⟩
 shape:=Shape.alloc _ _
 below _ h:=h.alloc hB _
 ok φ hφ:=by
  rcases List.mem_cons.1 hφ with rfl | hφ
  ·exact kU _ _ _ h
  ·cases List.mem_singleton.1 hφ;refine ⟨by rw [cL]; simp,fun j u hj => ?_,fun _ => ⟨by rw [cL]; exact hB,by rw [cL],fun j => by rw [cL]; exact World.frozen?_alloc_new _ _ _ _⟩,fun h => by cases h⟩;rw [cL];show World.cell? _ ⟨_,0 + j,none⟩ = _;rw [Nat.zero_add,World.cell?_alloc_new];simpa using hj
 rows k l' hk:=by
  rcases List.mem_cons.1 hk with hk | hk
  ·cases hk
  ·cases List.mem_singleton.1 hk;exact Or.inl ⟨by rw [cL]; exact Nat.le_refl _,rfl⟩
 one k k' l1 l2 hk hk':=by
  rcases List.mem_cons.1 hk with hk | hk
  ·cases hk
  ·rcases List.mem_cons.1 hk' with hk' | hk'
   ·cases hk'
   ·cases List.mem_singleton.1 hk; cases List.mem_singleton.1 hk'; rfl
 kills k hk:=by cases hk
end Go.Proofs.YtfnkbmlmgnadmaaGreat.Ex
