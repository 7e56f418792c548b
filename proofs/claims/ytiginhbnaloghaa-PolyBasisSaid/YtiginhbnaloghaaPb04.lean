/- Pb04 -/
import Derived.OrdersHeld
import Derived.Deep.RegionHeld
import Derived.KernelRfl
import Derived.Deep.DeepCutAuto
import Derived.Test.YtiginhbnaloghaaPb03
import Derived.Test.YtiginhbnaloghaaPb02
import Derived.Test.YtiginhbnaloghaaProg
set_option maxRecDepth 100000
set_option linter.unusedVariables false
set_option linter.unusedSimpArgs false
set_option linter.unnecessarySimpa false
noncomputable section
namespace Go.Proofs.Ytiginhbnaloghaa
open Go.Proofs.Try
open Go.RowKit
theorem XA (a0 a1 a2 a3:Nat) (n:Int) (ha:bK a0 a1 a2 a3) (h0:0<n) (hq:n/64=0) (w:World) :
  Calls prog 76 #[.agg #[.int .u64 a0,.int .u64 a1,.int .u64 a2,.int .u64 a3],.int .i64 n] w (fV (fun v=>v=aB a0 a1 a2 a3/2^n.toNat) w):=by
 obtain⟨p,hr,hp,en⟩:=NY (by omega) 0 hq (by omega);have b1:n<256:=by omega
 have t0:decide (n≤0)=false:=decide_eq_false (by omega);obtain⟨lo0,up0,u0,d0,bl0,bu0,e0,g0,m0⟩:=eO (a:=a0) (p:=p) ha.1 hp;obtain⟨lo1,up1,u1,d1,bl1,bu1,e1,g1,m1⟩:=eO (a:=a1) (p:=p) ha.2.1 hp;obtain⟨lo2,up2,u2,d2,bl2,bu2,e2,g2,m2⟩:=eO (a:=a2) (p:=p) ha.2.2.1 hp;obtain⟨lo3,up3,u3,d3,bl3,bu3,e3,g3,m3⟩:=eO (a:=a3) (p:=p) ha.2.2.2 hp;obtain⟨s0,o0,bs0,f0⟩:=kB bl0 bu1 g0 m1;obtain⟨s1,o1,bs1,f1⟩:=kB bl1 bu2 g1 m2;obtain⟨s2,o2,bs2,f2⟩:=kB bl2 bu3 g2 m3;have HF:Hid (aB s0 s1 s2 lo3=aB a0 a1 a2 a3/2^n.toNat):=Lib.hid (by
  rw[en,tM,←Nat.div_div_eq_div_mul];have hq':aB a0 a1 a2 a3/18446744073709551616^((0:Int)).toNat=aB a0 a1 a2 a3:=by
   rw[show 18446744073709551616^((0:Int)).toNat=1 by simp];obtain⟨k0,k1,k2,k3⟩:=ha;unfold aB; omega
  rw[hq'];obtain⟨v0,x0,y0,z0⟩:=e0.out;obtain⟨v1,x1,y1,z1⟩:=e1.out;obtain⟨v2,x2,y2,z2⟩:=e2.out;obtain⟨v3,x3,y3,z3⟩:=e3.out;have f0:=f0.out;have f1:=f1.out;have f2:=f2.out;refine mY (m:=v0) ?_ y0;have hD:aB s0 s1 s2 lo3*2^p=1*(s0*2^p)+18446744073709551616*(s1*2^p)+340282366920938463463374607431768211456*(s2*2^p)+6277101735386680763835789423207666416102355444464034512896*(lo3*2^p):=by
   unfold aB; simp only[Nat.add_mul,Nat.mul_add,Nat.mul_assoc,Nat.mul_zero,Nat.zero_mul,Nat.add_zero]; omega
  rw[hD];have k0:s0*2^p=lo0*2^p+up1*2^p:=by rw[f0,Nat.add_mul]
  have k1:s1*2^p=lo1*2^p+up2*2^p:=by rw[f1,Nat.add_mul]
  have k2:s2*2^p=lo2*2^p+up3*2^p:=by rw[f2,Nat.add_mul]
  unfold aB;omega)
 clear e0 g0 m0 e1 g1 m1 e2 g2 m2 e3 g3 m3 f0 f1 f2;have HEN:=Lib.hid en;clear en
 go_enter func76,ntmps76
 go_wp2_with fail;refine wp_loop_rounds 5 ?_;rw[rounds_succ];go_wp2_with fail
 go_region
 go_wp2_with fail;rw[rounds_succ];go_wp2_with fail
 go_region
 go_wp2_with fail;rw[rounds_succ];go_wp2_with fail
 go_region
 go_wp2_with fail;rw[rounds_succ];go_wp2_with fail;rw[rounds_succ];go_wp2_with fail;refine bodyPost_ret (v:=.agg #[.int .u64 s0,.int .u64 s1,.int .u64 s2,.int .u64 lo3]) (by simp[results,results76,go_sem]) rfl ?_;refine⟨s0,s1,s2,lo3,rfl,⟨bs0,bs1,bs2,bl3⟩,HF.out,?_⟩
 repeat (first|exact Below.refl _ _|refine Below.drew ?_|refine Below.alloc ?_ (by first|(simp; done)|(simp; omega)) _)
theorem WZ (a0 a1 a2 a3:Nat) (n:Int) (ha:bK a0 a1 a2 a3) (h0:0<n) (hq:n/64=1) (w:World) :
  Calls prog 76 #[.agg #[.int .u64 a0,.int .u64 a1,.int .u64 a2,.int .u64 a3],.int .i64 n] w (fV (fun v=>v=aB a0 a1 a2 a3/2^n.toNat) w):=by
 obtain⟨p,hr,hp,en⟩:=NY (by omega) 1 hq (by omega);have b1:n<256:=by omega
 have t0:decide (n≤0)=false:=decide_eq_false (by omega);obtain⟨lo1,up1,u1,d1,bl1,bu1,e1,g1,m1⟩:=eO (a:=a1) (p:=p) ha.2.1 hp;obtain⟨lo2,up2,u2,d2,bl2,bu2,e2,g2,m2⟩:=eO (a:=a2) (p:=p) ha.2.2.1 hp;obtain⟨lo3,up3,u3,d3,bl3,bu3,e3,g3,m3⟩:=eO (a:=a3) (p:=p) ha.2.2.2 hp;obtain⟨s1,o1,bs1,f1⟩:=kB bl1 bu2 g1 m2;obtain⟨s2,o2,bs2,f2⟩:=kB bl2 bu3 g2 m3;have HF:Hid (aB s1 s2 lo3 0=aB a0 a1 a2 a3/2^n.toNat):=Lib.hid (by
  rw[en,tM,←Nat.div_div_eq_div_mul];have hq':aB a0 a1 a2 a3/18446744073709551616^((1:Int)).toNat=aB a1 a2 a3 0:=by
   rw[show 18446744073709551616^((1:Int)).toNat=18446744073709551616 by simp];obtain⟨k0,k1,k2,k3⟩:=ha;unfold aB; omega
  rw[hq'];obtain⟨v1,x1,y1,z1⟩:=e1.out;obtain⟨v2,x2,y2,z2⟩:=e2.out;obtain⟨v3,x3,y3,z3⟩:=e3.out;have f1:=f1.out;have f2:=f2.out;refine mY (m:=v1) ?_ y1;have hD:aB s1 s2 lo3 0*2^p=1*(s1*2^p)+18446744073709551616*(s2*2^p)+340282366920938463463374607431768211456*(lo3*2^p):=by
   unfold aB; simp only[Nat.add_mul,Nat.mul_add,Nat.mul_assoc,Nat.mul_zero,Nat.zero_mul,Nat.add_zero]; omega
  rw[hD];have k1:s1*2^p=lo1*2^p+up2*2^p:=by rw[f1,Nat.add_mul]
  have k2:s2*2^p=lo2*2^p+up3*2^p:=by rw[f2,Nat.add_mul]
  unfold aB;omega)
 clear e1 g1 m1 e2 g2 m2 e3 g3 m3 f1 f2;have HEN:=Lib.hid en;clear en
 go_enter func76,ntmps76
 go_wp2_with fail;refine wp_loop_rounds 4 ?_;rw[rounds_succ];go_wp2_with fail
 go_region
 go_wp2_with fail;rw[rounds_succ];go_wp2_with fail
 go_region
 go_wp2_with fail;rw[rounds_succ];go_wp2_with fail;rw[rounds_succ];go_wp2_with fail;refine bodyPost_ret (v:=.agg #[.int .u64 s1,.int .u64 s2,.int .u64 lo3,.int .u64 0]) (by simp[results,results76,go_sem]) rfl ?_;refine⟨s1,s2,lo3,0,rfl,⟨bs1,bs2,bl3,(by omega)⟩,HF.out,?_⟩
 repeat (first|exact Below.refl _ _|refine Below.drew ?_|refine Below.alloc ?_ (by first|(simp; done)|(simp; omega)) _)
theorem WY (a0 a1 a2 a3:Nat) (n:Int) (ha:bK a0 a1 a2 a3) (h0:0<n) (hq:n/64=2) (w:World) :
  Calls prog 76 #[.agg #[.int .u64 a0,.int .u64 a1,.int .u64 a2,.int .u64 a3],.int .i64 n] w (fV (fun v=>v=aB a0 a1 a2 a3/2^n.toNat) w):=by
 obtain⟨p,hr,hp,en⟩:=NY (by omega) 2 hq (by omega);have b1:n<256:=by omega
 have t0:decide (n≤0)=false:=decide_eq_false (by omega);obtain⟨lo2,up2,u2,d2,bl2,bu2,e2,g2,m2⟩:=eO (a:=a2) (p:=p) ha.2.2.1 hp;obtain⟨lo3,up3,u3,d3,bl3,bu3,e3,g3,m3⟩:=eO (a:=a3) (p:=p) ha.2.2.2 hp;obtain⟨s2,o2,bs2,f2⟩:=kB bl2 bu3 g2 m3;have HF:Hid (aB s2 lo3 0 0=aB a0 a1 a2 a3/2^n.toNat):=Lib.hid (by
  rw[en,tM,←Nat.div_div_eq_div_mul];have hq':aB a0 a1 a2 a3/18446744073709551616^((2:Int)).toNat=aB a2 a3 0 0:=by
   rw[show 18446744073709551616^((2:Int)).toNat=340282366920938463463374607431768211456 by simp];obtain⟨k0,k1,k2,k3⟩:=ha;unfold aB; omega
  rw[hq'];obtain⟨v2,x2,y2,z2⟩:=e2.out;obtain⟨v3,x3,y3,z3⟩:=e3.out;have f2:=f2.out;refine mY (m:=v2) ?_ y2;have hD:aB s2 lo3 0 0*2^p=1*(s2*2^p)+18446744073709551616*(lo3*2^p):=by
   unfold aB; simp only[Nat.add_mul,Nat.mul_add,Nat.mul_assoc,Nat.mul_zero,Nat.zero_mul,Nat.add_zero]; omega
  rw[hD];have k2:s2*2^p=lo2*2^p+up3*2^p:=by rw[f2,Nat.add_mul]
  unfold aB;omega)
 clear e2 g2 m2 e3 g3 m3 f2;have HEN:=Lib.hid en;clear en
 go_enter func76,ntmps76
 go_wp2_with fail;refine wp_loop_rounds 3 ?_;rw[rounds_succ];go_wp2_with fail
 go_region
 go_wp2_with fail;rw[rounds_succ];go_wp2_with fail;rw[rounds_succ];go_wp2_with fail;refine bodyPost_ret (v:=.agg #[.int .u64 s2,.int .u64 lo3,.int .u64 0,.int .u64 0]) (by simp[results,results76,go_sem]) rfl ?_;refine⟨s2,lo3,0,0,rfl,⟨bs2,bl3,(by omega),(by omega)⟩,HF.out,?_⟩
 repeat (first|exact Below.refl _ _|refine Below.drew ?_|refine Below.alloc ?_ (by first|(simp; done)|(simp; omega)) _)
theorem WX (a0 a1 a2 a3:Nat) (n:Int) (ha:bK a0 a1 a2 a3) (h0:0<n) (hq:n/64=3) (w:World) :
  Calls prog 76 #[.agg #[.int .u64 a0,.int .u64 a1,.int .u64 a2,.int .u64 a3],.int .i64 n] w (fV (fun v=>v=aB a0 a1 a2 a3/2^n.toNat) w):=by
 obtain⟨p,hr,hp,en⟩:=NY (by omega) 3 hq (by omega);have b1:n<256:=by omega
 have t0:decide (n≤0)=false:=decide_eq_false (by omega);obtain⟨lo3,up3,u3,d3,bl3,bu3,e3,g3,m3⟩:=eO (a:=a3) (p:=p) ha.2.2.2 hp;have HF:Hid (aB lo3 0 0 0=aB a0 a1 a2 a3/2^n.toNat):=Lib.hid (by
  rw[en,tM,←Nat.div_div_eq_div_mul];have hq':aB a0 a1 a2 a3/18446744073709551616^((3:Int)).toNat=aB a3 0 0 0:=by
   rw[show 18446744073709551616^((3:Int)).toNat=6277101735386680763835789423207666416102355444464034512896 by simp];obtain⟨k0,k1,k2,k3⟩:=ha;unfold aB; omega
  rw[hq'];obtain⟨v3,x3,y3,z3⟩:=e3.out;refine mY (m:=v3) ?_ y3;have hD:aB lo3 0 0 0*2^p=1*(lo3*2^p):=by
   unfold aB; simp only[Nat.add_mul,Nat.mul_add,Nat.mul_assoc,Nat.mul_zero,Nat.zero_mul,Nat.add_zero]; omega
  rw[hD];unfold aB;omega)
 clear e3 g3 m3;have HEN:=Lib.hid en;clear en
 go_enter func76,ntmps76
 go_wp2_with fail;refine wp_loop_rounds 2 ?_;rw[rounds_succ];go_wp2_with fail;rw[rounds_succ];go_wp2_with fail;refine bodyPost_ret (v:=.agg #[.int .u64 lo3,.int .u64 0,.int .u64 0,.int .u64 0]) (by simp[results,results76,go_sem]) rfl ?_;refine⟨lo3,0,0,0,rfl,⟨bl3,(by omega),(by omega),(by omega)⟩,HF.out,?_⟩
 repeat (first|exact Below.refl _ _|refine Below.drew ?_|refine Below.alloc ?_ (by first|(simp; done)|(simp; omega)) _)
theorem DQ (a0 a1 a2 a3:Nat) (n:Int) (ha:bK a0 a1 a2 a3) (h0:n≤0) (w:World) :
  Calls prog 76 #[.agg #[.int .u64 a0,.int .u64 a1,.int .u64 a2,.int .u64 a3],.int .i64 n] w (fV (fun v=>v=aB a0 a1 a2 a3) w):=by
 have t0:decide (n≤0)=true:=decide_eq_true h0
 go_enter func76,ntmps76
 go_wp2_with fail;refine bodyPost_ret (v:=.agg #[.int .u64 a0,.int .u64 a1,.int .u64 a2,.int .u64 a3]) (by simp[results,results76,go_sem]) rfl ?_;refine⟨a0,a1,a2,a3,rfl,ha,rfl,?_⟩
 repeat (first|exact Below.refl _ _|refine Below.drew ?_|refine Below.alloc ?_ (by first|(simp; done)|(simp; omega)) _)
theorem KB (a0 a1 a2 a3:Nat) (n:Int) (ha:bK a0 a1 a2 a3) (h0:256≤n) (h1:n≤9223372036854775807) (w:World) :
  Calls prog 76 #[.agg #[.int .u64 a0,.int .u64 a1,.int .u64 a2,.int .u64 a3],.int .i64 n] w (fV (fun v=>v=0) w):=by
 have t0:decide (n≤0)=false:=decide_eq_false (by omega);obtain⟨q,hq,bq,bq'⟩:∃q:Nat,n/64=(q:Int)∧4≤q∧q≤9223372036854775807:=⟨(n/64).toNat,by omega,by omega,by omega⟩
 have t1:decide ((0:Int)<4-(q:Int))=false:=decide_eq_false (by omega)
 go_enter func76,ntmps76
 go_wp2_with fail;refine wp_loop_rounds 1 ?_;rw[rounds_succ];go_wp2_with fail;refine bodyPost_ret (v:=.agg #[.int .u64 0,.int .u64 0,.int .u64 0,.int .u64 0]) (by simp[results,results76,go_sem]) rfl ?_;refine⟨0,0,0,0,rfl,⟨by omega,by omega,by omega,by omega⟩,rfl,?_⟩
 repeat (first|exact Below.refl _ _|refine Below.drew ?_|refine Below.alloc ?_ (by first|(simp; done)|(simp; omega)) _)
theorem AH (a0 a1 a2 a3:Nat) (n:Int) (ha:bK a0 a1 a2 a3) (h0:0≤n) (h1:n≤9223372036854775807) (w:World) :
  Calls prog 76 #[.agg #[.int .u64 a0,.int .u64 a1,.int .u64 a2,.int .u64 a3],.int .i64 n] w (fV (fun v=>v=aB a0 a1 a2 a3/2^n.toNat) w):=by
 by_cases hz:n≤0
 ·refine (DQ a0 a1 a2 a3 n ha hz w).mono ?_
  rintro e w' ⟨s0,s1,s2,s3,he,hs,hv,hb⟩
  refine⟨s0,s1,s2,s3,he,hs,?_,hb⟩;have:=cE ha;rw[hv,show n.toNat=0 by omega,Nat.pow_zero]; omega
 ·by_cases hf:256≤n
  ·refine (KB a0 a1 a2 a3 n ha hf h1 w).mono ?_
   rintro e w' ⟨s0,s1,s2,s3,he,hs,hv,hb⟩
   refine⟨s0,s1,s2,s3,he,hs,?_,hb⟩;rw[hv];have hp:=Nat.pow_le_pow_right (show 0<2 by omega) (show 256≤n.toNat by omega);have:=cE ha;exact (Nat.div_eq_of_lt (Nat.lt_of_lt_of_le this hp)).symm
  ·have hq:n/64=0∨n/64=1∨n/64=2∨n/64=3:=by omega
   rcases hq with h|h|h|h
   ·exact XA a0 a1 a2 a3 n ha (by omega) h w
   ·exact WZ a0 a1 a2 a3 n ha (by omega) h w
   ·exact WY a0 a1 a2 a3 n ha (by omega) h w
   ·exact WX a0 a1 a2 a3 n ha (by omega) h w
section
variable {P:Program} {ops:Array Oper} {Q:Exit→Act→World→Prop} {md:Region.Mode} {S:World→Prop} {L:Nat}
def dL (P:Program) (md:Region.Mode) (ops:Array Oper) (Q:Exit→Act→World→Prop) (S:World→Prop) (L:Nat):Nat→Array Bool→Act→World→Prop
 | 0,got,a,w=>Region.ready md ops got=[]∧Q .normal a w
 | m+1,got,a,w =>
  (Region.ready md ops got=[]→Q .normal a w) ∧
  ∀i∈Region.ready md ops got,wpOp P ops Q i (fun b u=>(i=L∨S u)∧dL P md ops Q S L m (got.setIfInBounds i true) b u) a w
theorem mQ:∀(m:Nat) (got:Array Bool) (a:Act) (w:World),dL P md ops Q S L m got a w→wpAny P md ops Q m got a w
 | 0,_,_,_,h=>h
 | m+1,_,_,_,h=>⟨h.1,fun i hi=>wpOp_mono (fun b u k=>mQ m _ b u k.2) (h.2 i hi)⟩
def CS (md:Region.Mode) (ops:Array Oper) (L i:Nat):Bool :=
 match ops[L]? with
 | some o=>o.after.any fun e=>Region.binds md e&&e.on==i
 | none=>false
theorem vK {i:Nat} {oi:Oper} {v:Value} (hi:ops[i]?=some oi) (hsel:∀(j:Nat) (o:Oper) cs b,ops[j]?=some o→o.op ≠ .select cs b)
  (hL:CS md ops L i=true) (hQ:∀c a w,Q (.panic c) (a.put oi.dst v) w→Q (.panic c) a w) :
  ∀(m:Nat) (got:Array Bool) (a:Act) (w:World),
   (∀j oj,ops[j]?=some oj→j≠i→got.getD j true=false→(∀e∈oj.after,Region.binds md e=true→e.on≠i)→oi.apart ops oj=true) →
   i∈Region.ready md ops got→YieldsIf P ops S oi v a→S w →
   dL P md ops Q S L m (got.setIfInBounds i true) (a.put oi.dst v) w→dL P md ops Q S L (m+1) got a w:=by
 intro m
 induction m with
 | zero =>
  intro got a w _ hr hy hS H;refine⟨fun h=>(by rw[h]at hr; cases hr),fun j hj => ?_⟩
  by_cases hji:j=i
  ·subst hji; exact hy.wpOp hi hS ⟨.inr hS,H⟩
  ·have:=ready_mono hj hji;rw[H.1]at this;cases this
 | succ m ih =>
  intro got a w hfree hr hy hS H;refine⟨fun h=>(by rw[h]at hr; cases hr),fun j hj => ?_⟩
  by_cases hji:j=i
  ·subst hji; exact hy.wpOp hi hS ⟨.inr hS,H⟩
  ·obtain⟨hun,oj,hoj,hall⟩:=mem_ready.1 hj;have hno:∀e∈oj.after,Region.binds md e=true→e.on≠i:=fun e he hb heq=>by
    have h1:=hall e he hb;have h0:=(mem_ready.1 hr).1;rw[heq]at h1
    rcases Nat.lt_or_ge i got.size with h'|h'
    ·simp[h']at h0 h1; rw[h0]at h1; cases h1
    ·simp[Array.getElem?_eq_none h']at h1
   have hjL:j≠L:=fun e=>by
    subst e;unfold CS at hL;rw[hoj]at hL;obtain⟨x,hx,hx2⟩:=Array.any_eq_true'.1 hL;simp only[Bool.and_eq_true,beq_iff_eq]at hx2;exact hno x hx hx2.1 hx2.2
   have h2:=wpOp_putIf hoj (hfree j oj hoj hji hun hno) (fun cs b=>hsel i oi cs b hi) (fun cs b=>hsel j oj cs b hoj) hQ hy (H.2 j (ready_mono hj hji));have hfree':∀k ok,ops[k]?=some ok→k≠i→(got.setIfInBounds j true).getD k true=false →
     (∀e∈ok.after,Region.binds md e=true→e.on≠i)→oi.apart ops ok=true:=fun k ok hk hki hu hn=>by
    refine hfree k ok hk hki ?_ hn
    by_cases hjk:j=k
    ·subst hjk; exact hun
    ·rw[getD_set_ne true hjk]at hu; exact hu
   refine wpOp_mono (fun b u h3=>⟨h3.2.1,ih (got.setIfInBounds j true) b u hfree' (ready_mono hr (Ne.symm hji)) h3.1 (h3.2.1.resolve_left hjL) ?_⟩) h2;rw[Array.setIfInBounds_comm _ _ hji];exact h3.2.2
theorem aI {i:Nat} {oi:Oper} {v:Value} {m:Nat} {got:Array Bool} {a:Act} {w:World} (hi:ops[i]?=some oi)
  (hs:Region.noSelect ops=true) (hf:Region.free md ops got i=true) (hr:(Region.ready md ops got).contains i=true) (hL:CS md ops L i=true)
  (hQ:∀c a w,Q (.panic c) (a.put oi.dst v) w→Q (.panic c) a w) (hS:S w) (hy:YieldsIf P ops S oi v a)
  (h:dL P md ops Q S L m (got.setIfInBounds i true) (a.put oi.dst v) w):dL P md ops Q S L (m+1) got a w :=
 vK hi (Region.noSelect_spec hs) hL hQ m got a w (Region.free_spec hi hf) (by simpa using hr) hy hS h
theorem aG {i:Nat} {o:Oper} {m:Nat} {got:Array Bool} {a:Act} {w:World} (hr:Region.ready md ops got=[i]) (ho:ops[i]?=some o)
  (h:∀K:Act→World→Prop,Shut (∀b u,(i=L∨S u)→((i=L∨S u)→dL P md ops Q S L m (got.setIfInBounds i true) b u)→K b u)→if Region.wanted o (yielded ops a.tmps)=true then Oper.wp P o a w K Q else K (a.put o.dst undef) w) :
  dL P md ops Q S L (m+1) got a w :=
 ⟨fun h0=>(by rw[hr]at h0; cases h0),fun j hj=>by
  rw[hr]at hj;obtain rfl:j=i:=by simpa using hj
  exact wpOp_step ho (fun K hK=>h K (fun b u hS hW=>hK b u ⟨hS,hW hS⟩))⟩
theorem bZ {got:Array Bool} {a:Act} {w:World} (hr:Region.ready md ops got=[]) (h:Q .normal a w):dL P md ops Q S L 0 got a w:=⟨hr,h⟩
theorem cT (S:World→Prop) (L:Nat) {id:Nat} {a:Act} {w:World} (hm:P.follows .mixedOrders=true)
  (h:dL P .any ops Q S L ops.size (Array.replicate ops.size false) a w.drew):(Code.region id ops true).wp P Q a w :=
 wp_region_any hm (mQ _ _ _ _ h)
end
theorem iM {P:Program} {ops:Array Oper} {Q:Exit→Act→World→Prop} {md:Region.Mode} {S:World→Prop} {L:Nat} {i j:Nat} {oi oj:Oper} {m:Nat} {got:Array Bool} {a:Act} {w:World} (hr:Region.ready md ops got=[i,j]) (hoi:ops[i]?=some oi) (hoj:ops[j]?=some oj)
  (h1:∀K:Act→World→Prop,Shut (∀b u,(i=L∨S u)→((i=L∨S u)→dL P md ops Q S L m (got.setIfInBounds i true) b u)→K b u)→if Region.wanted oi (yielded ops a.tmps)=true then Oper.wp P oi a w K Q else K (a.put oi.dst undef) w)
  (h2:∀K:Act→World→Prop,Shut (∀b u,(j=L∨S u)→((j=L∨S u)→dL P md ops Q S L m (got.setIfInBounds j true) b u)→K b u)→if Region.wanted oj (yielded ops a.tmps)=true then Oper.wp P oj a w K Q else K (a.put oj.dst undef) w) :
  dL P md ops Q S L (m+1) got a w :=
 ⟨fun h0=>(by rw[hr]at h0; cases h0),fun k hk=>by
  rw[hr]at hk
  rcases List.mem_cons.1 hk with rfl|hk
  ·exact wpOp_step hoi (fun K hK=>h1 K (fun b u hS hW=>hK b u ⟨hS,hW hS⟩))
  ·obtain rfl:k=j:=by simpa using hk
   exact wpOp_step hoj (fun K hK=>h2 K (fun b u hS hW=>hK b u ⟨hS,hW hS⟩))⟩
def FieldIs (f:Int) (F:FC):Prop:=f=1∧F=FP∨f=2∧F=FR
theorem FieldIs.ok {f:Int} {F:FC} (h:FieldIs f F):F.Ok:=by rcases h with⟨_,rfl⟩|⟨_,rfl⟩; exact Cg; exact Cf
theorem FieldIs.root {f:Int} {F:FC} (h:FieldIs f F):∃g,Root F.M g:=by
 rcases h with⟨_,rfl⟩|⟨_,rfl⟩
 ·exact⟨3,by rw[Ev]; exact RQ⟩
 ·exact⟨5,by rw[Eu]; exact EE⟩
def Ew (f:Int) (A:Nat) (c:Int):Prop:=f≠1∧f≠2∧c=1∨∃F,FieldIs f F∧¬A<F.M∧c=21
def QS (c:Int) (V:Nat) (w:World) (e:Ending) (w':World):Prop :=
 ∃s0 s1 s2 s3:Nat,e=.returned (.tuple #[.agg #[.int .u64 s0,.int .u64 s1,.int .u64 s2,.int .u64 s3],.int .i64 c])∧bK s0 s1 s2 s3∧aB s0 s1 s2 s3=V∧Below w.heap.size w w'
theorem WB:bK 0 0 0 0:=⟨by omega,by omega,by omega,by omega⟩
theorem KIs.new (w:World) (F:FC) (t:TypeId):KIs (w.alloc (.cells #[.int .u64 F.m0,.int .u64 F.m1,.int .u64 F.m2,.int .u64 F.m3,.int .u64 F.inv,.int .u64 F.s0,.int .u64 F.s1,.int .u64 F.s2,.int .u64 F.s3] t)) w.heap.size F :=
 ⟨by rw[World.cell?_alloc_new]; rfl,by rw[World.cell?_alloc_new]; rfl,by rw[World.cell?_alloc_new]; rfl,by rw[World.cell?_alloc_new]; rfl,by rw[World.cell?_alloc_new]; rfl,by rw[World.cell?_alloc_new]; rfl,by rw[World.cell?_alloc_new]; rfl,by rw[World.cell?_alloc_new]; rfl,by rw[World.cell?_alloc_new]; rfl,by simp⟩
set_option maxHeartbeats 2000000 in
theorem dU (f:Int) (F:FC) (hf:FieldIs f F) (w:World):Calls prog 91 #[.int .i64 f] w fun e w'=>e=.returned (.tuple #[.agg #[.int .u64 F.m0,.int .u64 F.m1,.int .u64 F.m2,.int .u64 F.m3,.int .u64 F.inv,.int .u64 F.s0,.int .u64 F.s1,.int .u64 F.s2,.int .u64 F.s3],.int .i64 0])∧Below w.heap.size w w':=by
 rcases hf with⟨rfl,rfl⟩|⟨rfl,rfl⟩
 ·go_enter func91,ntmps91
  go_wp2_with fail;refine bodyPost_ret (v:=.tuple #[.agg #[.int .u64 FP.m0,.int .u64 FP.m1,.int .u64 FP.m2,.int .u64 FP.m3,.int .u64 FP.inv,.int .u64 FP.s0,.int .u64 FP.s1,.int .u64 FP.s2,.int .u64 FP.s3],.int .i64 0]) (by simp[results,results91,go_sem,FP]) rfl ?_;refine⟨rfl,?_⟩
  repeat (first|exact Below.refl _ _|refine Below.drew ?_|refine Below.alloc ?_ (by first|(simp; done)|(simp; omega)) _|refine Below.setCell ?_ (by simp) _)
 ·go_enter func91,ntmps91
  go_wp2_with fail;refine bodyPost_ret (v:=.tuple #[.agg #[.int .u64 FR.m0,.int .u64 FR.m1,.int .u64 FR.m2,.int .u64 FR.m3,.int .u64 FR.inv,.int .u64 FR.s0,.int .u64 FR.s1,.int .u64 FR.s2,.int .u64 FR.s3],.int .i64 0]) (by simp[results,results91,go_sem,FR]) rfl ?_;refine⟨rfl,?_⟩
  repeat (first|exact Below.refl _ _|refine Below.drew ?_|refine Below.alloc ?_ (by first|(simp; done)|(simp; omega)) _|refine Below.setCell ?_ (by simp) _)
set_option maxHeartbeats 2000000 in
theorem BS (f:Int) (h1:f≠1) (h2:f≠2) (w:World):Calls prog 91 #[.int .i64 f] w fun e w'=>e=.returned (.tuple #[.agg #[.int .u64 0,.int .u64 0,.int .u64 0,.int .u64 0,.int .u64 0,.int .u64 0,.int .u64 0,.int .u64 0,.int .u64 0],.int .i64 1])∧Below w.heap.size w w':=by
 have t1:(f==1)=false:=by simp[h1]
 have t2:(f==2)=false:=by simp[h2]
 go_enter func91,ntmps91
 go_wp2_with fail;refine bodyPost_ret (v:=.tuple #[.agg #[.int .u64 0,.int .u64 0,.int .u64 0,.int .u64 0,.int .u64 0,.int .u64 0,.int .u64 0,.int .u64 0,.int .u64 0],.int .i64 1]) (by simp[results,results91,go_sem]) rfl ?_;refine⟨rfl,?_⟩
 repeat (first|exact Below.refl _ _|refine Below.drew ?_|refine Below.alloc ?_ (by first|(simp; done)|(simp; omega)) _|refine Below.setCell ?_ (by simp) _)
theorem tD (w:World):Calls prog 93 #[.int .i64 1] w fun e w'=>e=.returned (.int .i64 1)∧w'=w:=by
 go_enter func93,ntmps93
 go_wp2_with fail;go_ret;exact⟨rfl,rfl⟩
theorem tC (w:World):Calls prog 93 #[.int .i64 0] w fun e w'=>e=.returned (.int .i64 21)∧w'=w:=by
 go_enter func93,ntmps93
 go_wp2_with fail;go_ret;exact⟨rfl,rfl⟩
set_option maxHeartbeats 2000000 in
theorem NW (f:Int) (F:FC) (hf:FieldIs f F) (a0 a1 a2 a3 b0 b1 b2 b3:Nat) (ha:bK a0 a1 a2 a3) (hb:bK b0 b1 b2 b3) (la:aB a0 a1 a2 a3<F.M) (lb:aB b0 b1 b2 b3<F.M) (w:World) :
  Calls prog 99 #[.int .i64 f,.agg #[.int .u64 a0,.int .u64 a1,.int .u64 a2,.int .u64 a3],.agg #[.int .u64 b0,.int .u64 b1,.int .u64 b2,.int .u64 b3]] w (QS 0 ((aB a0 a1 a2 a3+aB b0 b1 b2 b3)%F.M) w):=by
 go_enter func99,ntmps99
 go_wp2_with fail;refine (dU f F hf _).mono ?_
 rintro e w1 ⟨rfl,hbl⟩
 have M1:=((((Mem.nil w).new (w.heap.size) a0 a1 a2 a3 25 (by simp)).new (w.heap.size+1) b0 b1 b2 b3 25 (by simp)).new (w.heap.size+1+1) 0 0 0 0 25 (by simp)).on hbl;clear hbl;have z0:w.heap.size<w1.heap.size:=M1.lt (c0:=a0) (c1:=a1) (c2:=a2) (c3:=a3) (by simp);have z1:w.heap.size+1<w1.heap.size:=M1.lt (c0:=b0) (c1:=b1) (c2:=b2) (c3:=b3) (by simp);have z2:w.heap.size+1+1<w1.heap.size:=M1.lt (c0:=0) (c1:=0) (c2:=0) (c3:=0) (by simp);have HM:=Lib.hid (M1.on ((Below.refl _ _).alloc (Nat.le_refl _) (.cells #[.int .u64 F.m0,.int .u64 F.m1,.int .u64 F.m2,.int .u64 F.m3,.int .u64 F.inv,.int .u64 F.s0,.int .u64 F.s1,.int .u64 F.s2,.int .u64 F.s3] 119)));have KK:=Lib.hid (KIs.new w1 F 119);have kr:=M1.row (b:=w.heap.size) (c0:=a0) (c1:=a1) (c2:=a2) (c3:=a3) (by simp);have x0:=kr.c0; have x1:=kr.c1; have x2:=kr.c2; have x3:=kr.c3;clear kr;have xl:=M1.lt (b:=w.heap.size) (c0:=a0) (c1:=a1) (c2:=a2) (c3:=a3) (by simp);go_wp2_with fail;refine (cR F hf.ok w1.heap.size a0 a1 a2 a3 ha _ KK.out).mono ?_
 rintro e w2 ⟨he,hbl⟩
 rw[show tY (aB a0 a1 a2 a3) F.M=true from decide_eq_true la]at he;subst he;have HM':=Lib.hid (HM.out.on hbl);have KK':=Lib.hid (KK.out.same hbl);have zk:=KK'.out.lt;clear HM KK hbl M1;have HM:=HM';have KK:=KK';clear HM' KK';clear x0 x1 x2 x3 xl zk;have kr:=HM.out.row (b:=w.heap.size+1) (c0:=b0) (c1:=b1) (c2:=b2) (c3:=b3) (by simp);have x0:=kr.c0; have x1:=kr.c1; have x2:=kr.c2; have x3:=kr.c3;clear kr;have xl:=HM.out.lt (b:=w.heap.size+1) (c0:=b0) (c1:=b1) (c2:=b2) (c3:=b3) (by simp);go_wp2_with fail;refine (cR F hf.ok w1.heap.size b0 b1 b2 b3 hb _ KK.out).mono ?_
 rintro e w3 ⟨he,hbl⟩
 rw[show tY (aB b0 b1 b2 b3) F.M=true from decide_eq_true lb]at he;subst he;have HM':=Lib.hid (HM.out.on hbl);have KK':=Lib.hid (KK.out.same hbl);have zk:=KK'.out.lt;clear HM KK hbl;have HM:=HM';have KK:=KK';clear HM' KK';clear x0 x1 x2 x3 xl zk;have kr:=HM.out.row (b:=w.heap.size) (c0:=a0) (c1:=a1) (c2:=a2) (c3:=a3) (by simp);have x0:=kr.c0; have x1:=kr.c1; have x2:=kr.c2; have x3:=kr.c3;clear kr;have xl:=HM.out.lt (b:=w.heap.size) (c0:=a0) (c1:=a1) (c2:=a2) (c3:=a3) (by simp);have kr:=HM.out.row (b:=w.heap.size+1) (c0:=b0) (c1:=b1) (c2:=b2) (c3:=b3) (by simp);have u0:=kr.c0; have u1:=kr.c1; have u2:=kr.c2; have u3:=kr.c3;clear kr;have ul:=HM.out.lt (b:=w.heap.size+1) (c0:=b0) (c1:=b1) (c2:=b2) (c3:=b3) (by simp);go_wp2_with fail;refine (wK F hf.ok w1.heap.size a0 a1 a2 a3 b0 b1 b2 b3 ha hb la lb _ KK.out).mono ?_
 rintro e w4 ⟨s0,s1,s2,s3,rfl,hs,hv,hbl⟩
 have HV:=Lib.hid hv;clear hv;have HM':=Lib.hid (HM.out.on hbl);have KK':=Lib.hid (KK.out.same hbl);have zk:=KK'.out.lt;clear HM KK hbl;have HM:=HM';have KK:=KK';clear HM' KK';clear x0 x1 x2 x3 xl u0 u1 u2 u3 ul zk;have kr:=HM.out.row (b:=w.heap.size+1+1) (c0:=0) (c1:=0) (c2:=0) (c3:=0) (by simp);have y0:=kr.c0; have y1:=kr.c1; have y2:=kr.c2; have y3:=kr.c3; have yf:=kr.fr;clear kr;have yl:=HM.out.lt (b:=w.heap.size+1+1) (c0:=0) (c1:=0) (c2:=0) (c3:=0) (by simp);go_wp2_with fail;refine bodyPost_ret (v:=.tuple #[.agg #[.int .u64 s0,.int .u64 s1,.int .u64 s2,.int .u64 s3],.int .i64 0]) (by simp[results,results99,go_sem, *]) rfl ?_;refine⟨_,_,_,_,rfl,hs,HV.out,?_⟩;exact bE HM.out.1 (by omega) _ _ _ _
set_option maxHeartbeats 2000000 in
theorem NR (f:Int) (F:FC) (hf:FieldIs f F) (a0 a1 a2 a3 b0 b1 b2 b3:Nat) (ha:bK a0 a1 a2 a3) (hb:bK b0 b1 b2 b3) (la:aB a0 a1 a2 a3<F.M) (lb:aB b0 b1 b2 b3<F.M) (w:World) :
  Calls prog 84 #[.int .i64 f,.agg #[.int .u64 a0,.int .u64 a1,.int .u64 a2,.int .u64 a3],.agg #[.int .u64 b0,.int .u64 b1,.int .u64 b2,.int .u64 b3]] w (QS 0 ((aB a0 a1 a2 a3+F.M-aB b0 b1 b2 b3)%F.M) w):=by
 go_enter func84,ntmps84
 go_wp2_with fail;refine (dU f F hf _).mono ?_
 rintro e w1 ⟨rfl,hbl⟩
 have M1:=((((Mem.nil w).new (w.heap.size) a0 a1 a2 a3 25 (by simp)).new (w.heap.size+1) b0 b1 b2 b3 25 (by simp)).new (w.heap.size+1+1) 0 0 0 0 25 (by simp)).on hbl;clear hbl;have z0:w.heap.size<w1.heap.size:=M1.lt (c0:=a0) (c1:=a1) (c2:=a2) (c3:=a3) (by simp);have z1:w.heap.size+1<w1.heap.size:=M1.lt (c0:=b0) (c1:=b1) (c2:=b2) (c3:=b3) (by simp);have z2:w.heap.size+1+1<w1.heap.size:=M1.lt (c0:=0) (c1:=0) (c2:=0) (c3:=0) (by simp);have HM:=Lib.hid (M1.on ((Below.refl _ _).alloc (Nat.le_refl _) (.cells #[.int .u64 F.m0,.int .u64 F.m1,.int .u64 F.m2,.int .u64 F.m3,.int .u64 F.inv,.int .u64 F.s0,.int .u64 F.s1,.int .u64 F.s2,.int .u64 F.s3] 119)));have KK:=Lib.hid (KIs.new w1 F 119);have kr:=M1.row (b:=w.heap.size) (c0:=a0) (c1:=a1) (c2:=a2) (c3:=a3) (by simp);have x0:=kr.c0; have x1:=kr.c1; have x2:=kr.c2; have x3:=kr.c3;clear kr;have xl:=M1.lt (b:=w.heap.size) (c0:=a0) (c1:=a1) (c2:=a2) (c3:=a3) (by simp);go_wp2_with fail;refine (cR F hf.ok w1.heap.size a0 a1 a2 a3 ha _ KK.out).mono ?_
 rintro e w2 ⟨he,hbl⟩
 rw[show tY (aB a0 a1 a2 a3) F.M=true from decide_eq_true la]at he;subst he;have HM':=Lib.hid (HM.out.on hbl);have KK':=Lib.hid (KK.out.same hbl);have zk:=KK'.out.lt;clear HM KK hbl M1;have HM:=HM';have KK:=KK';clear HM' KK';clear x0 x1 x2 x3 xl zk;have kr:=HM.out.row (b:=w.heap.size+1) (c0:=b0) (c1:=b1) (c2:=b2) (c3:=b3) (by simp);have x0:=kr.c0; have x1:=kr.c1; have x2:=kr.c2; have x3:=kr.c3;clear kr;have xl:=HM.out.lt (b:=w.heap.size+1) (c0:=b0) (c1:=b1) (c2:=b2) (c3:=b3) (by simp);go_wp2_with fail;refine (cR F hf.ok w1.heap.size b0 b1 b2 b3 hb _ KK.out).mono ?_
 rintro e w3 ⟨he,hbl⟩
 rw[show tY (aB b0 b1 b2 b3) F.M=true from decide_eq_true lb]at he;subst he;have HM':=Lib.hid (HM.out.on hbl);have KK':=Lib.hid (KK.out.same hbl);have zk:=KK'.out.lt;clear HM KK hbl;have HM:=HM';have KK:=KK';clear HM' KK';clear x0 x1 x2 x3 xl zk;have kr:=HM.out.row (b:=w.heap.size) (c0:=a0) (c1:=a1) (c2:=a2) (c3:=a3) (by simp);have x0:=kr.c0; have x1:=kr.c1; have x2:=kr.c2; have x3:=kr.c3;clear kr;have xl:=HM.out.lt (b:=w.heap.size) (c0:=a0) (c1:=a1) (c2:=a2) (c3:=a3) (by simp);have kr:=HM.out.row (b:=w.heap.size+1) (c0:=b0) (c1:=b1) (c2:=b2) (c3:=b3) (by simp);have u0:=kr.c0; have u1:=kr.c1; have u2:=kr.c2; have u3:=kr.c3;clear kr;have ul:=HM.out.lt (b:=w.heap.size+1) (c0:=b0) (c1:=b1) (c2:=b2) (c3:=b3) (by simp);go_wp2_with fail;refine (tU F hf.ok w1.heap.size a0 a1 a2 a3 b0 b1 b2 b3 ha hb la lb _ KK.out).mono ?_
 rintro e w4 ⟨s0,s1,s2,s3,rfl,hs,hv,hbl⟩
 have HV:=Lib.hid hv;clear hv;have HM':=Lib.hid (HM.out.on hbl);have KK':=Lib.hid (KK.out.same hbl);have zk:=KK'.out.lt;clear HM KK hbl;have HM:=HM';have KK:=KK';clear HM' KK';clear x0 x1 x2 x3 xl u0 u1 u2 u3 ul zk;have kr:=HM.out.row (b:=w.heap.size+1+1) (c0:=0) (c1:=0) (c2:=0) (c3:=0) (by simp);have y0:=kr.c0; have y1:=kr.c1; have y2:=kr.c2; have y3:=kr.c3; have yf:=kr.fr;clear kr;have yl:=HM.out.lt (b:=w.heap.size+1+1) (c0:=0) (c1:=0) (c2:=0) (c3:=0) (by simp);go_wp2_with fail;refine bodyPost_ret (v:=.tuple #[.agg #[.int .u64 s0,.int .u64 s1,.int .u64 s2,.int .u64 s3],.int .i64 0]) (by simp[results,results84,go_sem, *]) rfl ?_;refine⟨_,_,_,_,rfl,hs,HV.out,?_⟩;exact bE HM.out.1 (by omega) _ _ _ _
set_option maxHeartbeats 2000000 in
theorem NS (f:Int) (F:FC) (hf:FieldIs f F) (a0 a1 a2 a3 b0 b1 b2 b3:Nat) (ha:bK a0 a1 a2 a3) (hb:bK b0 b1 b2 b3) (la:aB a0 a1 a2 a3<F.M) (lb:aB b0 b1 b2 b3<F.M) (w:World) :
  Calls prog 83 #[.int .i64 f,.agg #[.int .u64 a0,.int .u64 a1,.int .u64 a2,.int .u64 a3],.agg #[.int .u64 b0,.int .u64 b1,.int .u64 b2,.int .u64 b3]] w (QS 0 (aB a0 a1 a2 a3*aB b0 b1 b2 b3%F.M) w):=by
 go_enter func83,ntmps83
 go_wp2_with fail;refine (dU f F hf _).mono ?_
 rintro e w1 ⟨rfl,hbl⟩
 have M1:=((((Mem.nil w).new (w.heap.size) a0 a1 a2 a3 25 (by simp)).new (w.heap.size+1) b0 b1 b2 b3 25 (by simp)).new (w.heap.size+1+1) 0 0 0 0 25 (by simp)).on hbl;clear hbl;have z0:w.heap.size<w1.heap.size:=M1.lt (c0:=a0) (c1:=a1) (c2:=a2) (c3:=a3) (by simp);have z1:w.heap.size+1<w1.heap.size:=M1.lt (c0:=b0) (c1:=b1) (c2:=b2) (c3:=b3) (by simp);have z2:w.heap.size+1+1<w1.heap.size:=M1.lt (c0:=0) (c1:=0) (c2:=0) (c3:=0) (by simp);have HM:=Lib.hid (M1.on ((Below.refl _ _).alloc (Nat.le_refl _) (.cells #[.int .u64 F.m0,.int .u64 F.m1,.int .u64 F.m2,.int .u64 F.m3,.int .u64 F.inv,.int .u64 F.s0,.int .u64 F.s1,.int .u64 F.s2,.int .u64 F.s3] 119)));have KK:=Lib.hid (KIs.new w1 F 119);have kr:=M1.row (b:=w.heap.size) (c0:=a0) (c1:=a1) (c2:=a2) (c3:=a3) (by simp);have x0:=kr.c0; have x1:=kr.c1; have x2:=kr.c2; have x3:=kr.c3;clear kr;have xl:=M1.lt (b:=w.heap.size) (c0:=a0) (c1:=a1) (c2:=a2) (c3:=a3) (by simp);go_wp2_with fail;refine (cR F hf.ok w1.heap.size a0 a1 a2 a3 ha _ KK.out).mono ?_
 rintro e w2 ⟨he,hbl⟩
 rw[show tY (aB a0 a1 a2 a3) F.M=true from decide_eq_true la]at he;subst he;have HM':=Lib.hid (HM.out.on hbl);have KK':=Lib.hid (KK.out.same hbl);have zk:=KK'.out.lt;clear HM KK hbl M1;have HM:=HM';have KK:=KK';clear HM' KK';clear x0 x1 x2 x3 xl zk;have kr:=HM.out.row (b:=w.heap.size+1) (c0:=b0) (c1:=b1) (c2:=b2) (c3:=b3) (by simp);have x0:=kr.c0; have x1:=kr.c1; have x2:=kr.c2; have x3:=kr.c3;clear kr;have xl:=HM.out.lt (b:=w.heap.size+1) (c0:=b0) (c1:=b1) (c2:=b2) (c3:=b3) (by simp);go_wp2_with fail;refine (cR F hf.ok w1.heap.size b0 b1 b2 b3 hb _ KK.out).mono ?_
 rintro e w3 ⟨he,hbl⟩
 rw[show tY (aB b0 b1 b2 b3) F.M=true from decide_eq_true lb]at he;subst he;have HM':=Lib.hid (HM.out.on hbl);have KK':=Lib.hid (KK.out.same hbl);have zk:=KK'.out.lt;clear HM KK hbl;have HM:=HM';have KK:=KK';clear HM' KK';clear x0 x1 x2 x3 xl zk;have kr:=HM.out.row (b:=w.heap.size) (c0:=a0) (c1:=a1) (c2:=a2) (c3:=a3) (by simp);have x0:=kr.c0; have x1:=kr.c1; have x2:=kr.c2; have x3:=kr.c3;clear kr;have xl:=HM.out.lt (b:=w.heap.size) (c0:=a0) (c1:=a1) (c2:=a2) (c3:=a3) (by simp);have kr:=HM.out.row (b:=w.heap.size+1) (c0:=b0) (c1:=b1) (c2:=b2) (c3:=b3) (by simp);have u0:=kr.c0; have u1:=kr.c1; have u2:=kr.c2; have u3:=kr.c3;clear kr;have ul:=HM.out.lt (b:=w.heap.size+1) (c0:=b0) (c1:=b1) (c2:=b2) (c3:=b3) (by simp);go_wp2_with fail;refine (pH F hf.ok w1.heap.size a0 a1 a2 a3 b0 b1 b2 b3 ha hb lb _ KK.out).mono ?_
 rintro e w4 ⟨s0,s1,s2,s3,rfl,hs,hv,hbl⟩
 have HV:=Lib.hid hv;clear hv;have HM':=Lib.hid (HM.out.on hbl);have KK':=Lib.hid (KK.out.same hbl);have zk:=KK'.out.lt;clear HM KK hbl;have HM:=HM';have KK:=KK';clear HM' KK';clear x0 x1 x2 x3 xl u0 u1 u2 u3 ul zk;have kr:=HM.out.row (b:=w.heap.size+1+1) (c0:=0) (c1:=0) (c2:=0) (c3:=0) (by simp);have y0:=kr.c0; have y1:=kr.c1; have y2:=kr.c2; have y3:=kr.c3; have yf:=kr.fr;clear kr;have yl:=HM.out.lt (b:=w.heap.size+1+1) (c0:=0) (c1:=0) (c2:=0) (c3:=0) (by simp);go_wp2_with fail;refine bodyPost_ret (v:=.tuple #[.agg #[.int .u64 s0,.int .u64 s1,.int .u64 s2,.int .u64 s3],.int .i64 0]) (by simp[results,results83,go_sem, *]) rfl ?_;refine⟨_,_,_,_,rfl,hs,HV.out,?_⟩;exact bE HM.out.1 (by omega) _ _ _ _
set_option maxHeartbeats 2000000 in
theorem xH (f c:Int) (a0 a1 a2 a3:Nat) (ha:bK a0 a1 a2 a3) (h:Ew f (aB a0 a1 a2 a3) c) (w:World) :
  Calls prog 98 #[.int .i64 f,.agg #[.int .u64 a0,.int .u64 a1,.int .u64 a2,.int .u64 a3]] w fun e w'=>e=.returned (.int .i64 c)∧Below w.heap.size w w':=by
 rcases h with⟨h1,h2,rfl⟩|⟨F,hf,la,rfl⟩
 ·go_enter func98,ntmps98
  go_wp2_with fail;refine (BS f h1 h2 _).mono ?_
  rintro e w1 ⟨rfl,hbl⟩
  have M1:=((Mem.nil w).new (w.heap.size) a0 a1 a2 a3 25 (by simp)).on hbl;clear hbl;have z0:w.heap.size<w1.heap.size:=M1.lt (c0:=a0) (c1:=a1) (c2:=a2) (c3:=a3) (by simp);have HM:=Lib.hid (M1.on ((Below.refl _ _).alloc (Nat.le_refl _) (.cells #[.int .u64 0,.int .u64 0,.int .u64 0,.int .u64 0,.int .u64 0,.int .u64 0,.int .u64 0,.int .u64 0,.int .u64 0] 119)));go_wp2_with fail;refine (tD _).mono ?_
  rintro e w2 ⟨rfl,rfl⟩
  go_wp2_with fail;refine bodyPost_ret (v:=.int .i64 1) (by simp[results,results98,go_sem, *]) rfl ?_;exact⟨rfl,HM.out.1⟩
 ·go_enter func98,ntmps98
  go_wp2_with fail;refine (dU f F hf _).mono ?_
  rintro e w1 ⟨rfl,hbl⟩
  have M1:=((Mem.nil w).new (w.heap.size) a0 a1 a2 a3 25 (by simp)).on hbl;clear hbl;have z0:w.heap.size<w1.heap.size:=M1.lt (c0:=a0) (c1:=a1) (c2:=a2) (c3:=a3) (by simp);have HM:=Lib.hid (M1.on ((Below.refl _ _).alloc (Nat.le_refl _) (.cells #[.int .u64 F.m0,.int .u64 F.m1,.int .u64 F.m2,.int .u64 F.m3,.int .u64 F.inv,.int .u64 F.s0,.int .u64 F.s1,.int .u64 F.s2,.int .u64 F.s3] 119)));have KK:=Lib.hid (KIs.new w1 F 119);have kr:=M1.row (b:=w.heap.size) (c0:=a0) (c1:=a1) (c2:=a2) (c3:=a3) (by simp);have x0:=kr.c0; have x1:=kr.c1; have x2:=kr.c2; have x3:=kr.c3;clear kr;have xl:=M1.lt (b:=w.heap.size) (c0:=a0) (c1:=a1) (c2:=a2) (c3:=a3) (by simp);go_wp2_with fail;refine (cR F hf.ok w1.heap.size a0 a1 a2 a3 ha _ KK.out).mono ?_
  rintro e w2 ⟨he,hbl⟩
  rw[show tY (aB a0 a1 a2 a3) F.M=false from decide_eq_false la]at he;subst he;have HM':=Lib.hid (HM.out.on hbl);have KK':=Lib.hid (KK.out.same hbl);have zk:=KK'.out.lt;clear HM KK hbl M1;have HM:=HM';have KK:=KK';clear HM' KK';clear x0 x1 x2 x3 xl zk;go_wp2_with fail;refine (tC _).mono ?_
  rintro e w3 ⟨rfl,rfl⟩
  go_wp2_with fail;refine bodyPost_ret (v:=.int .i64 21) (by simp[results,results98,go_sem, *]) rfl ?_;exact⟨rfl,HM.out.1⟩
set_option maxHeartbeats 2000000 in
theorem BQ (f:Int) (F:FC) (hf:FieldIs f F) (a0 a1 a2 a3:Nat) (ha:bK a0 a1 a2 a3) (la:aB a0 a1 a2 a3<F.M) (w:World) :
  Calls prog 98 #[.int .i64 f,.agg #[.int .u64 a0,.int .u64 a1,.int .u64 a2,.int .u64 a3]] w (fun e w'=>e=.returned (.int .i64 0)∧Below w.heap.size w w'):=by
 go_enter func98,ntmps98
 go_wp2_with fail;refine (dU f F hf _).mono ?_
 rintro e w1 ⟨rfl,hbl⟩
 have M1:=((Mem.nil w).new (w.heap.size) a0 a1 a2 a3 25 (by simp)).on hbl;clear hbl;have z0:w.heap.size<w1.heap.size:=M1.lt (c0:=a0) (c1:=a1) (c2:=a2) (c3:=a3) (by simp);have HM:=Lib.hid (M1.on ((Below.refl _ _).alloc (Nat.le_refl _) (.cells #[.int .u64 F.m0,.int .u64 F.m1,.int .u64 F.m2,.int .u64 F.m3,.int .u64 F.inv,.int .u64 F.s0,.int .u64 F.s1,.int .u64 F.s2,.int .u64 F.s3] 119)));have KK:=Lib.hid (KIs.new w1 F 119);have kr:=M1.row (b:=w.heap.size) (c0:=a0) (c1:=a1) (c2:=a2) (c3:=a3) (by simp);have x0:=kr.c0; have x1:=kr.c1; have x2:=kr.c2; have x3:=kr.c3;clear kr;have xl:=M1.lt (b:=w.heap.size) (c0:=a0) (c1:=a1) (c2:=a2) (c3:=a3) (by simp);go_wp2_with fail;refine (cR F hf.ok w1.heap.size a0 a1 a2 a3 ha _ KK.out).mono ?_
 rintro e w2 ⟨he,hbl⟩
 rw[show tY (aB a0 a1 a2 a3) F.M=true from decide_eq_true la]at he;subst he;have HM':=Lib.hid (HM.out.on hbl);have KK':=Lib.hid (KK.out.same hbl);have zk:=KK'.out.lt;clear HM KK hbl M1;have HM:=HM';have KK:=KK';clear HM' KK';clear x0 x1 x2 x3 xl zk;go_wp2_with fail;go_ret;exact⟨rfl,HM.out.1⟩
set_option maxHeartbeats 2000000 in
theorem pK (f:Int) (F:FC) (hf:FieldIs f F) (w:World):Calls prog 74 #[.int .i64 f] w fun e w'=>e=.returned (.agg #[.int .u64 F.m0,.int .u64 F.m1,.int .u64 F.m2,.int .u64 F.m3])∧Below w.heap.size w w':=by
 go_enter func74,ntmps74
 go_wp2_with fail;refine (dU f F hf _).mono ?_
 rintro e w1 ⟨rfl,hbl⟩
 have M1:=((Mem.nil w).new (w.heap.size) 0 0 0 0 85 (by simp)).on hbl;clear hbl;have z0:w.heap.size<w1.heap.size:=M1.lt (c0:=0) (c1:=0) (c2:=0) (c3:=0) (by simp);have HM:=Lib.hid (M1.on ((Below.refl _ _).alloc (Nat.le_refl _) (.cells #[.int .u64 F.m0,.int .u64 F.m1,.int .u64 F.m2,.int .u64 F.m3,.int .u64 F.inv,.int .u64 F.s0,.int .u64 F.s1,.int .u64 F.s2,.int .u64 F.s3] 119)));have KK:=Lib.hid (KIs.new w1 F 119);have k0:=KK.out.k0; have k1:=KK.out.k1; have k2:=KK.out.k2; have k3:=KK.out.k3;have kr:=M1.row (b:=w.heap.size) (c0:=0) (c1:=0) (c2:=0) (c3:=0) (by simp);have y0:=kr.c0; have y1:=kr.c1; have y2:=kr.c2; have y3:=kr.c3; have yf:=kr.fr;clear kr;have yl:=M1.lt (b:=w.heap.size) (c0:=0) (c1:=0) (c2:=0) (c3:=0) (by simp);go_wp2_with fail;refine bodyPost_ret (v:=.agg #[.int .u64 F.m0,.int .u64 F.m1,.int .u64 F.m2,.int .u64 F.m3]) (by simp[results,results74,go_sem, *]) rfl ?_;refine⟨rfl,?_⟩
 repeat (first|exact M1.1|exact HM.out.1|refine Below.alloc ?_ (by first|(simp; done)|(simp; omega)) _|refine Below.setCell ?_ (by first|(simp; done)|(simp; omega)) _)
set_option maxHeartbeats 2000000 in
theorem NV (f:Int) (F:FC) (hf:FieldIs f F) (a0 a1 a2 a3 b0 b1 b2 b3:Nat) (ha:bK a0 a1 a2 a3) (hb:bK b0 b1 b2 b3) (la:aB a0 a1 a2 a3<F.M) (lb:aB b0 b1 b2 b3<F.M) (hz:aB b0 b1 b2 b3≠0) (w:World) :
  Calls prog 97 #[.int .i64 f,.agg #[.int .u64 a0,.int .u64 a1,.int .u64 a2,.int .u64 a3],.agg #[.int .u64 b0,.int .u64 b1,.int .u64 b2,.int .u64 b3]] w (QS 0 (aB a0 a1 a2 a3*(aB b0 b1 b2 b3^(F.M-2))%F.M) w):=by
 have HE:=Lib.hid (show ∀w,(Op.equalIn 10000 25 (.agg #[.int .u64 b0,.int .u64 b1,.int .u64 b2,.int .u64 b3]) (.agg #[.int .u64 0,.int .u64 0,.int .u64 0,.int .u64 0])).run prog w=.ok false w from fun w=>by
  have h:=GV 9998 b0 b1 b2 b3 0 0 0 0 w;have q:GW b0 b1 b2 b3 0 0 0 0=false:=by
   cases q:GW b0 b1 b2 b3 0 0 0 0
   ·rfl
   ·exact absurd (((mX hb WB).1 q).trans rfl) hz
  rw[q]at h;exact h)
 have hG:=GY;clear hz
 go_enter func97,ntmps97
 go_wp2_with fail;refine (dU f F hf _).mono ?_
 rintro e w1 ⟨rfl,hbl⟩
 have M1:=((((Mem.nil w).new (w.heap.size) a0 a1 a2 a3 25 (by simp)).new (w.heap.size+1) b0 b1 b2 b3 25 (by simp)).new (w.heap.size+1+1) 0 0 0 0 25 (by simp)).on hbl;clear hbl;have z0:w.heap.size<w1.heap.size:=M1.lt (c0:=a0) (c1:=a1) (c2:=a2) (c3:=a3) (by simp);have z1:w.heap.size+1<w1.heap.size:=M1.lt (c0:=b0) (c1:=b1) (c2:=b2) (c3:=b3) (by simp);have z2:w.heap.size+1+1<w1.heap.size:=M1.lt (c0:=0) (c1:=0) (c2:=0) (c3:=0) (by simp);have HM:=Lib.hid (M1.on ((Below.refl _ _).alloc (Nat.le_refl _) (.cells #[.int .u64 F.m0,.int .u64 F.m1,.int .u64 F.m2,.int .u64 F.m3,.int .u64 F.inv,.int .u64 F.s0,.int .u64 F.s1,.int .u64 F.s2,.int .u64 F.s3] 119)));have KK:=Lib.hid (KIs.new w1 F 119);have kr:=M1.row (b:=w.heap.size) (c0:=a0) (c1:=a1) (c2:=a2) (c3:=a3) (by simp);have x0:=kr.c0; have x1:=kr.c1; have x2:=kr.c2; have x3:=kr.c3;clear kr;have xl:=M1.lt (b:=w.heap.size) (c0:=a0) (c1:=a1) (c2:=a2) (c3:=a3) (by simp);go_wp2_with fail;refine (cR F hf.ok w1.heap.size a0 a1 a2 a3 ha _ KK.out).mono ?_
 rintro e w2 ⟨he,hbl⟩
 rw[show tY (aB a0 a1 a2 a3) F.M=true from decide_eq_true la]at he;subst he;have HM':=Lib.hid (HM.out.on hbl);have KK':=Lib.hid (KK.out.same hbl);have zk:=KK'.out.lt;clear HM KK hbl M1;have HM:=HM';have KK:=KK';clear HM' KK';clear x0 x1 x2 x3 xl zk;have kr:=HM.out.row (b:=w.heap.size+1) (c0:=b0) (c1:=b1) (c2:=b2) (c3:=b3) (by simp);have x0:=kr.c0; have x1:=kr.c1; have x2:=kr.c2; have x3:=kr.c3;clear kr;have xl:=HM.out.lt (b:=w.heap.size+1) (c0:=b0) (c1:=b1) (c2:=b2) (c3:=b3) (by simp);go_wp2_with fail;refine (cR F hf.ok w1.heap.size b0 b1 b2 b3 hb _ KK.out).mono ?_
 rintro e w3 ⟨he,hbl⟩
 rw[show tY (aB b0 b1 b2 b3) F.M=true from decide_eq_true lb]at he;subst he;have HM':=Lib.hid (HM.out.on hbl);have KK':=Lib.hid (KK.out.same hbl);have zk:=KK'.out.lt;clear HM KK hbl;have HM:=HM';have KK:=KK';clear HM' KK';clear x0 x1 x2 x3 xl zk;have kr:=HM.out.row (b:=w.heap.size+1) (c0:=b0) (c1:=b1) (c2:=b2) (c3:=b3) (by simp);have u0:=kr.c0; have u1:=kr.c1; have u2:=kr.c2; have u3:=kr.c3;clear kr;have ul:=HM.out.lt (b:=w.heap.size+1) (c0:=b0) (c1:=b1) (c2:=b2) (c3:=b3) (by simp);have hE:=HE.out;go_wp2_with fail;clear u0 u1 u2 u3 ul hE;refine cT (fun wx=>Mem w wx [(w.heap.size+1,b0,b1,b2,b3),(w.heap.size,a0,a1,a2,a3)]) 6 (by kernel_rfl) ?_;have HM':=Lib.hid (HM.out.drewN 1);have KK':=Lib.hid (KK.out.drewN 1);clear HM KK;have HM:=HM';have KK:=KK';clear HM' KK';have HS:=HM.out.sub (rs':=[(w.heap.size+1,b0,b1,b2,b3),(w.heap.size,a0,a1,a2,a3)]) (by simp);refine aI (i:=0) (v:=.agg #[.int .u64 b0,.int .u64 b1,.int .u64 b2,.int .u64 b3]) rfl (by kernel_rfl) (by kernel_rfl) (by kernel_rfl) (by kernel_rfl) (fun _ _ _ h=>h) HS (Or.inl ⟨by kernel_rfl,fun wx hx => ?_⟩) ?_
 ·have kr:=hx.row (b:=w.heap.size+1) (c0:=b0) (c1:=b1) (c2:=b2) (c3:=b3) (by simp);have x0:=kr.c0; have x1:=kr.c1; have x2:=kr.c2; have x3:=kr.c3;clear kr HS hx;go_simp
 simp only[Act.put,List.setIfInBounds_toArray,List.set_cons_zero,List.set_cons_succ];refine aI (i:=3) (v:=.agg #[.int .u64 a0,.int .u64 a1,.int .u64 a2,.int .u64 a3]) rfl (by kernel_rfl) (by kernel_rfl) (by kernel_rfl) (by kernel_rfl) (fun _ _ _ h=>h) HS (Or.inl ⟨by kernel_rfl,fun wx hx => ?_⟩) ?_
 ·have kr:=hx.row (b:=w.heap.size) (c0:=a0) (c1:=a1) (c2:=a2) (c3:=a3) (by simp);have x0:=kr.c0; have x1:=kr.c1; have x2:=kr.c2; have x3:=kr.c3;clear kr HS hx;go_simp
 simp only[Act.put,List.setIfInBounds_toArray,List.set_cons_zero,List.set_cons_succ];clear HS;refine aG (i:=1) (by kernel_rfl) rfl (fun K hK => ?_);go_simp;refine (hJ F hf.ok w1.heap.size b0 b1 b2 b3 hb _ KK.out).mono ?_
 rintro e w4 ⟨i0,i1,i2,i3,rfl,hi,hv,hbl⟩
 have HVi:=Lib.hid hv;clear hv;have HM':=Lib.hid (HM.out.on hbl);have KK':=Lib.hid (KK.out.same hbl);have zk_w4:=KK'.out.lt;clear HM KK hbl;have HM:=HM';have KK:=KK';clear HM' KK';have HS:=HM.out.sub (rs':=[(w.heap.size+1,b0,b1,b2,b3),(w.heap.size,a0,a1,a2,a3)]) (by simp);refine hK.out _ _ (Or.inr HS) (fun _ => ?_);clear hK K;clear HS;refine aG (i:=2) (by kernel_rfl) rfl (fun K hK => ?_);go_simp;refine (oF F hf.ok (aB b0 b1 b2 b3) w1.heap.size i0 i1 i2 i3 hi HVi.out _ KK.out).mono ?_
 rintro e w5 ⟨j0,j1,j2,j3,rfl,hj,hv,hbl⟩
 have HVj:=Lib.hid hv;clear hv;have HM':=Lib.hid (HM.out.on hbl);have KK':=Lib.hid (KK.out.same hbl);have zk_w5:=KK'.out.lt;clear HM KK hbl;have HM:=HM';have KK:=KK';clear HM' KK';have HS:=HM.out.sub (rs':=[(w.heap.size+1,b0,b1,b2,b3),(w.heap.size,a0,a1,a2,a3)]) (by simp);refine hK.out _ _ (Or.inr HS) (fun _ => ?_);clear hK K;clear HS;refine aG (i:=4) (by kernel_rfl) rfl (fun K hK => ?_);go_simp;refine (dR F hf.ok w1.heap.size j0 j1 j2 j3 a0 a1 a2 a3 hj ha la _ KK.out).mono ?_
 rintro e w6 ⟨s0,s1,s2,s3,rfl,hs,hv,hbl⟩
 have HVs:=Lib.hid (show aB s0 s1 s2 s3=aB a0 a1 a2 a3*(aB b0 b1 b2 b3^(F.M-2))%F.M by rw[hv,HVj.out,oA hf.ok,Nat.mul_comm]);clear hv;have HM':=Lib.hid (HM.out.on hbl);have KK':=Lib.hid (KK.out.same hbl);have zk_w6:=KK'.out.lt;clear HM KK hbl;have HM:=HM';have KK:=KK';clear HM' KK';have HS:=HM.out.sub (rs':=[(w.heap.size+1,b0,b1,b2,b3),(w.heap.size,a0,a1,a2,a3)]) (by simp);refine hK.out _ _ (Or.inr HS) (fun _ => ?_);clear hK K;clear HS;have kr:=HM.out.row (b:=w.heap.size+1+1) (c0:=0) (c1:=0) (c2:=0) (c3:=0) (by simp);have y0:=kr.c0; have y1:=kr.c1; have y2:=kr.c2; have y3:=kr.c3; have yf:=kr.fr;clear kr;have yl:=HM.out.lt (b:=w.heap.size+1+1) (c0:=0) (c1:=0) (c2:=0) (c3:=0) (by simp);refine aG (i:=5) (by kernel_rfl) rfl (fun K hK => ?_);go_simp;have HM':=Lib.hid ((HM.out.sub (rs':=[(w.heap.size+1+1,0,0,0,0),(w.heap.size+1,b0,b1,b2,b3),(w.heap.size,a0,a1,a2,a3)]) (by simp)).put s0 s1 s2 s3 (by omega) (by intro r hr; simp at hr; rcases hr with rfl|rfl<;>simp<;>omega));clear HM;have HM:=HM';clear HM';have HS:=HM.out.sub (rs':=[(w.heap.size+1,b0,b1,b2,b3),(w.heap.size,a0,a1,a2,a3)]) (by simp);refine hK.out _ _ (Or.inr HS) (fun _ => ?_);clear hK K;clear HS;refine aG (i:=6) (by kernel_rfl) rfl (fun K hK => ?_);go_simp;refine hK.out _ _ (Or.inl rfl) (fun _ => ?_);clear hK K;refine bZ (by kernel_rfl) ?_;go_wp2_with fail;refine bodyPost_ret (v:=.tuple #[.agg #[.int .u64 s0,.int .u64 s1,.int .u64 s2,.int .u64 s3],.int .i64 0]) (by simp[results,results97,go_sem, *]) rfl ?_;exact⟨_,_,_,_,rfl,hs,HVs.out,HM.out.1⟩
set_option maxHeartbeats 2000000 in
theorem NT (f c:Int) (V a0 a1 a2 a3:Nat) (hD:∀w,Calls prog 97 #[.int .i64 f,.agg #[.int .u64 1,.int .u64 0,.int .u64 0,.int .u64 0],.agg #[.int .u64 a0,.int .u64 a1,.int .u64 a2,.int .u64 a3]] w (QS c V w)) (w:World) :
  Calls prog 79 #[.int .i64 f,.agg #[.int .u64 a0,.int .u64 a1,.int .u64 a2,.int .u64 a3]] w (QS c V w):=by
 have HD:=Lib.hid hD;clear hD
 go_enter func79,ntmps79
 go_wp2_with fail;have HM:=Lib.hid (((Mem.nil w).new (w.heap.size) a0 a1 a2 a3 25 (by simp)).new (w.heap.size+1) 0 0 0 0 25 (by simp));refine cT (fun wx=>Mem w wx [(w.heap.size,a0,a1,a2,a3)]) 7 (by kernel_rfl) ?_;have HM':=Lib.hid (HM.out.drewN 1);clear HM;have HM:=HM';clear HM';have HS:=HM.out.sub (rs':=[(w.heap.size,a0,a1,a2,a3)]) (by simp);refine aI (i:=0) (v:=.int .i64 f) rfl (by kernel_rfl) (by kernel_rfl) (by kernel_rfl) (by kernel_rfl) (fun _ _ _ h=>h) HS (Or.inl ⟨by kernel_rfl,fun wx hx => ?_⟩) ?_
 ·clear HS hx;go_simp
 simp only[Act.put,List.setIfInBounds_toArray,List.set_cons_zero,List.set_cons_succ];refine aI (i:=2) (v:=.agg #[.int .u64 a0,.int .u64 a1,.int .u64 a2,.int .u64 a3]) rfl (by kernel_rfl) (by kernel_rfl) (by kernel_rfl) (by kernel_rfl) (fun _ _ _ h=>h) HS (Or.inl ⟨by kernel_rfl,fun wx hx => ?_⟩) ?_
 ·have kr:=hx.row (b:=w.heap.size) (c0:=a0) (c1:=a1) (c2:=a2) (c3:=a3) (by simp);have x0:=kr.c0; have x1:=kr.c1; have x2:=kr.c2; have x3:=kr.c3;clear kr HS hx;go_simp
 simp only[Act.put,List.setIfInBounds_toArray,List.set_cons_zero,List.set_cons_succ];clear HS;refine aG (i:=1) (by kernel_rfl) rfl (fun K hK => ?_);go_simp;refine (nV 1 (by omega) _).mono ?_
 rintro e w1 ⟨rfl,hbl⟩
 have HM':=Lib.hid (HM.out.on hbl);clear HM hbl;have HM:=HM';clear HM';have HS:=HM.out.sub (rs':=[(w.heap.size,a0,a1,a2,a3)]) (by simp);refine hK.out _ _ (Or.inr HS) (fun _ => ?_);clear hK K;clear HS;refine aG (i:=3) (by kernel_rfl) rfl (fun K hK => ?_);go_simp;refine (HD.out _).mono ?_
 rintro e w2 ⟨s0,s1,s2,s3,rfl,hs,hv,hbl⟩
 have HVs:=Lib.hid hv;clear hv;have HM':=Lib.hid (HM.out.on hbl);clear HM hbl;have HM:=HM';clear HM';have HS:=HM.out.sub (rs':=[(w.heap.size,a0,a1,a2,a3)]) (by simp);refine hK.out _ _ (Or.inr HS) (fun _ => ?_);clear hK K;refine aI (i:=4) (v:=.agg #[.int .u64 s0,.int .u64 s1,.int .u64 s2,.int .u64 s3]) rfl (by kernel_rfl) (by kernel_rfl) (by kernel_rfl) (by kernel_rfl) (fun _ _ _ h=>h) HS (Or.inl ⟨by kernel_rfl,fun wx hx => ?_⟩) ?_
 ·clear HS hx;go_simp
 simp only[Act.put,List.setIfInBounds_toArray,List.set_cons_zero,List.set_cons_succ];refine aI (i:=5) (v:=.int .i64 c) rfl (by kernel_rfl) (by kernel_rfl) (by kernel_rfl) (by kernel_rfl) (fun _ _ _ h=>h) HS (Or.inl ⟨by kernel_rfl,fun wx hx => ?_⟩) ?_
 ·clear HS hx;go_simp
 simp only[Act.put,List.setIfInBounds_toArray,List.set_cons_zero,List.set_cons_succ];clear HS;have kr:=HM.out.row (b:=w.heap.size+1) (c0:=0) (c1:=0) (c2:=0) (c3:=0) (by simp);have y0:=kr.c0; have y1:=kr.c1; have y2:=kr.c2; have y3:=kr.c3; have yf:=kr.fr;clear kr;have yl:=HM.out.lt (b:=w.heap.size+1) (c0:=0) (c1:=0) (c2:=0) (c3:=0) (by simp);refine aG (i:=6) (by kernel_rfl) rfl (fun K hK => ?_);go_simp;have HM':=Lib.hid ((HM.out.sub (rs':=[(w.heap.size+1,0,0,0,0),(w.heap.size,a0,a1,a2,a3)]) (by simp)).put s0 s1 s2 s3 (by omega) (by intro r hr; simp at hr; rcases hr with rfl<;>simp<;>omega));clear HM;have HM:=HM';clear HM';have HS:=HM.out.sub (rs':=[(w.heap.size,a0,a1,a2,a3)]) (by simp);refine hK.out _ _ (Or.inr HS) (fun _ => ?_);clear hK K;clear HS;refine aG (i:=7) (by kernel_rfl) rfl (fun K hK => ?_);go_simp;refine hK.out _ _ (Or.inl rfl) (fun _ => ?_);clear hK K;refine bZ (by kernel_rfl) ?_;go_wp2_with fail;refine bodyPost_ret (v:=.tuple #[.agg #[.int .u64 s0,.int .u64 s1,.int .u64 s2,.int .u64 s3],.int .i64 c]) (by simp[results,results79,go_sem, *]) rfl ?_;exact⟨_,_,_,_,rfl,hs,HVs.out,HM.out.1⟩
set_option maxHeartbeats 2000000 in
theorem NU (f:Int) (F:FC) (hf:FieldIs f F) (a0 a1 a2 a3 n0 n1 n2 n3:Nat) (ha:bK a0 a1 a2 a3) (hn:bK n0 n1 n2 n3) (la:aB a0 a1 a2 a3<F.M) (w:World) :
  Calls prog 75 #[.int .i64 f,.agg #[.int .u64 a0,.int .u64 a1,.int .u64 a2,.int .u64 a3],.agg #[.int .u64 n0,.int .u64 n1,.int .u64 n2,.int .u64 n3]] w (QS 0 (aB a0 a1 a2 a3^aB n0 n1 n2 n3%F.M) w):=by
 go_enter func75,ntmps75
 go_wp2_with fail;refine (dU f F hf _).mono ?_
 rintro e w1 ⟨rfl,hbl⟩
 have M1:=((((Mem.nil w).new (w.heap.size) a0 a1 a2 a3 25 (by simp)).new (w.heap.size+1) n0 n1 n2 n3 85 (by simp)).new (w.heap.size+1+1) 0 0 0 0 25 (by simp)).on hbl;clear hbl;have z0:w.heap.size<w1.heap.size:=M1.lt (c0:=a0) (c1:=a1) (c2:=a2) (c3:=a3) (by simp);have z1:w.heap.size+1<w1.heap.size:=M1.lt (c0:=n0) (c1:=n1) (c2:=n2) (c3:=n3) (by simp);have z2:w.heap.size+1+1<w1.heap.size:=M1.lt (c0:=0) (c1:=0) (c2:=0) (c3:=0) (by simp);have HM:=Lib.hid (M1.on ((Below.refl _ _).alloc (Nat.le_refl _) (.cells #[.int .u64 F.m0,.int .u64 F.m1,.int .u64 F.m2,.int .u64 F.m3,.int .u64 F.inv,.int .u64 F.s0,.int .u64 F.s1,.int .u64 F.s2,.int .u64 F.s3] 119)));have KK:=Lib.hid (KIs.new w1 F 119);have kr:=M1.row (b:=w.heap.size) (c0:=a0) (c1:=a1) (c2:=a2) (c3:=a3) (by simp);have x0:=kr.c0; have x1:=kr.c1; have x2:=kr.c2; have x3:=kr.c3;clear kr;have xl:=M1.lt (b:=w.heap.size) (c0:=a0) (c1:=a1) (c2:=a2) (c3:=a3) (by simp);go_wp2_with fail;refine (cR F hf.ok w1.heap.size a0 a1 a2 a3 ha _ KK.out).mono ?_
 rintro e w2 ⟨he,hbl⟩
 rw[show tY (aB a0 a1 a2 a3) F.M=true from decide_eq_true la]at he;subst he;have HM':=Lib.hid (HM.out.on hbl);have KK':=Lib.hid (KK.out.same hbl);have zk:=KK'.out.lt;clear HM KK hbl M1;have HM:=HM';have KK:=KK';clear HM' KK';clear x0 x1 x2 x3 xl zk;go_wp2_with fail;refine cT (fun wx=>Mem w wx [(w.heap.size+1,n0,n1,n2,n3),(w.heap.size,a0,a1,a2,a3)]) 6 (by kernel_rfl) ?_;have HM':=Lib.hid (HM.out.drewN 1);have KK':=Lib.hid (KK.out.drewN 1);clear HM KK;have HM:=HM';have KK:=KK';clear HM' KK';have HS:=HM.out.sub (rs':=[(w.heap.size+1,n0,n1,n2,n3),(w.heap.size,a0,a1,a2,a3)]) (by simp);refine aI (i:=0) (v:=.agg #[.int .u64 a0,.int .u64 a1,.int .u64 a2,.int .u64 a3]) rfl (by kernel_rfl) (by kernel_rfl) (by kernel_rfl) (by kernel_rfl) (fun _ _ _ h=>h) HS (Or.inl ⟨by kernel_rfl,fun wx hx => ?_⟩) ?_
 ·have kr:=hx.row (b:=w.heap.size) (c0:=a0) (c1:=a1) (c2:=a2) (c3:=a3) (by simp);have x0:=kr.c0; have x1:=kr.c1; have x2:=kr.c2; have x3:=kr.c3;clear kr HS hx;go_simp
 simp only[Act.put,List.setIfInBounds_toArray,List.set_cons_zero,List.set_cons_succ];refine aI (i:=2) (v:=.agg #[.int .u64 n0,.int .u64 n1,.int .u64 n2,.int .u64 n3]) rfl (by kernel_rfl) (by kernel_rfl) (by kernel_rfl) (by kernel_rfl) (fun _ _ _ h=>h) HS (Or.inl ⟨by kernel_rfl,fun wx hx => ?_⟩) ?_
 ·have kr:=hx.row (b:=w.heap.size+1) (c0:=n0) (c1:=n1) (c2:=n2) (c3:=n3) (by simp);have x0:=kr.c0; have x1:=kr.c1; have x2:=kr.c2; have x3:=kr.c3;clear kr HS hx;go_simp
 simp only[Act.put,List.setIfInBounds_toArray,List.set_cons_zero,List.set_cons_succ];clear HS;refine aG (i:=1) (by kernel_rfl) rfl (fun K hK => ?_);go_simp;refine (hJ F hf.ok w1.heap.size a0 a1 a2 a3 ha _ KK.out).mono ?_
 rintro e w4 ⟨i0,i1,i2,i3,rfl,hi,hv,hbl⟩
 have HVi:=Lib.hid hv;clear hv;have HM':=Lib.hid (HM.out.on hbl);have KK':=Lib.hid (KK.out.same hbl);have zk_w4:=KK'.out.lt;clear HM KK hbl;have HM:=HM';have KK:=KK';clear HM' KK';have HS:=HM.out.sub (rs':=[(w.heap.size+1,n0,n1,n2,n3),(w.heap.size,a0,a1,a2,a3)]) (by simp);refine hK.out _ _ (Or.inr HS) (fun _ => ?_);clear hK K;clear HS;refine aG (i:=3) (by kernel_rfl) rfl (fun K hK => ?_);go_simp;refine (mE F hf.ok (aB a0 a1 a2 a3) w1.heap.size i0 i1 i2 i3 n0 n1 n2 n3 hi hn HVi.out _ KK.out).mono ?_
 rintro e w5 ⟨j0,j1,j2,j3,rfl,hj,hv,hbl⟩
 have HVj:=Lib.hid hv;clear hv;have HM':=Lib.hid (HM.out.on hbl);have KK':=Lib.hid (KK.out.same hbl);have zk_w5:=KK'.out.lt;clear HM KK hbl;have HM:=HM';have KK:=KK';clear HM' KK';have HS:=HM.out.sub (rs':=[(w.heap.size+1,n0,n1,n2,n3),(w.heap.size,a0,a1,a2,a3)]) (by simp);refine hK.out _ _ (Or.inr HS) (fun _ => ?_);clear hK K;clear HS;refine aG (i:=4) (by kernel_rfl) rfl (fun K hK => ?_);go_simp;refine (BA F hf.ok w1.heap.size j0 j1 j2 j3 hj _ KK.out).mono ?_
 rintro e w6 ⟨s0,s1,s2,s3,rfl,hs,hv,hbl⟩
 have HVs:=Lib.hid (show aB s0 s1 s2 s3=aB a0 a1 a2 a3^aB n0 n1 n2 n3%F.M by rw[hv,HVj.out,←oB,TA hf.ok _ (Nat.mod_lt _ hf.ok.pos)]);clear hv;have HM':=Lib.hid (HM.out.on hbl);have KK':=Lib.hid (KK.out.same hbl);have zk_w6:=KK'.out.lt;clear HM KK hbl;have HM:=HM';have KK:=KK';clear HM' KK';have HS:=HM.out.sub (rs':=[(w.heap.size+1,n0,n1,n2,n3),(w.heap.size,a0,a1,a2,a3)]) (by simp);refine hK.out _ _ (Or.inr HS) (fun _ => ?_);clear hK K;clear HS;have kr:=HM.out.row (b:=w.heap.size+1+1) (c0:=0) (c1:=0) (c2:=0) (c3:=0) (by simp);have y0:=kr.c0; have y1:=kr.c1; have y2:=kr.c2; have y3:=kr.c3; have yf:=kr.fr;clear kr;have yl:=HM.out.lt (b:=w.heap.size+1+1) (c0:=0) (c1:=0) (c2:=0) (c3:=0) (by simp);refine aG (i:=5) (by kernel_rfl) rfl (fun K hK => ?_);go_simp;have HM':=Lib.hid ((HM.out.sub (rs':=[(w.heap.size+1+1,0,0,0,0),(w.heap.size+1,n0,n1,n2,n3),(w.heap.size,a0,a1,a2,a3)]) (by simp)).put s0 s1 s2 s3 (by omega) (by intro r hr; simp at hr; rcases hr with rfl|rfl<;>simp<;>omega));clear HM;have HM:=HM';clear HM';have HS:=HM.out.sub (rs':=[(w.heap.size+1,n0,n1,n2,n3),(w.heap.size,a0,a1,a2,a3)]) (by simp);refine hK.out _ _ (Or.inr HS) (fun _ => ?_);clear hK K;clear HS;refine aG (i:=6) (by kernel_rfl) rfl (fun K hK => ?_);go_simp;refine hK.out _ _ (Or.inl rfl) (fun _ => ?_);clear hK K;refine bZ (by kernel_rfl) ?_;go_wp2_with fail;refine bodyPost_ret (v:=.tuple #[.agg #[.int .u64 s0,.int .u64 s1,.int .u64 s2,.int .u64 s3],.int .i64 0]) (by simp[results,results75,go_sem, *]) rfl ?_;exact⟨_,_,_,_,rfl,hs,HVs.out,HM.out.1⟩
end Go.Proofs.Ytiginhbnaloghaa
namespace Go.Proofs.Ytiginhbnaloghaa.Ex
open Go.Proofs.Try
open Go.RowKit
abbrev RM:Nat:=Go.Proofs.Ytiginhbnaloghaa.FR.M
abbrev bI:Nat:=115792089237316195423570985008687907853269984665640564039457584007913129639936
theorem gK {x:Nat} (h:x<RM):x<bI:=Nat.lt_trans h (by decide)
theorem iT:0<RM:=by decide
def yM (x y:Nat):Nat:=(x+y)%RM
def lH (x y:Nat):Nat:=(x+RM-y)%RM
def gH (x y:Nat):Nat:=x*y%RM
def fD (x n:Nat):Nat:=x^n%RM
def CD (x:Nat):Nat:=1*(x^(RM-2))%RM
theorem qZ (x y:Nat):yM x y<RM:=Nat.mod_lt _ iT
theorem gU (x y:Nat):lH x y<RM:=Nat.mod_lt _ iT
theorem eU (x y:Nat):gH x y<RM:=Nat.mod_lt _ iT
theorem gC (x y:Nat):fD x y<RM:=Nat.mod_lt _ iT
theorem qX (x:Nat):CD x<RM:=Nat.mod_lt _ iT
theorem jZ:FieldIs 2 Go.Proofs.Ytiginhbnaloghaa.FR:=Or.inr ⟨rfl,rfl⟩
theorem lT {x:Nat} (h:x<RM):aB (fw x 0) (fw x 1) (fw x 2) (fw x 3)=x:=eB (gK h)
def QI (op:Nat→Nat→Nat):jN
 | [.v (.im (.int .i64 2)),.v (.fl l),.v (.fl m)]=>match kV l,kV m with
  | some x,some y=>some ([x<RM,y<RM],.many [.fl [.q (op x y)],.im (.int .i64 0)])
  | _,_=>none
 | _=>none
theorem wW {fid:FuncId} {op:Nat→Nat→Nat} (hlt:∀x y,op x y<RM) (h:∀x y,x<RM→y<RM→∀w,Calls prog fid #[.int .i64 2,.agg (aC [At.q x]).toArray,.agg (aC [At.q y]).toArray] w (QS 0 (op x y) w)) :
  ∀cs pre r,QI op cs=some (pre,r)→aO pre→∀(args:List Value) (w:World),cG w cs args→Good prog fid r args w:=by
 intro cs pre r hg hp args w ha;unfold QI at hg;split at hg
 ·rename_i l m;split at hg
  ·rename_i x y hx hy;cases hg
   match args,ha with
   | [t,v,u],ha =>
    obtain⟨h1,h2,h3,_⟩:=ha;have h1:t=.int .i64 2:=h1;have h2:v=.agg (aC l).toArray:=h2;have h3:u=.agg (aC m).toArray:=h3;rw[bU l x hx]at h2;rw[bU m y hy]at h3;subst h1; subst h2; subst h3;refine (h x y hp.1 hp.2.1 w).mono ?_
    rintro e w' ⟨s0,s1,s2,s3,rfl,hs,hv,hb⟩
    obtain⟨rfl,rfl,rfl,rfl⟩:=iB hs (gK (hlt x y)) hv;exact⟨rfl,hb⟩
   | [],ha=>exact ha.elim
   | [_],ha=>exact ha.2.elim
   | [_,_],ha=>exact ha.2.2.elim
   | _::_::_::_::_,ha=>exact ha.2.2.2.elim
  ·cases hg
 ·cases hg
theorem XY:∀cs pre r,QI yM cs=some (pre,r)→aO pre→∀(args:List Value) (w:World),cG w cs args→Good prog 99 r args w :=
 wW qZ fun x y hx hy w=>by
  have:=NW 2 _ jZ _ _ _ _ _ _ _ _ (cW x) (cW y) (by rw[lT hx]; exact hx) (by rw[lT hy]; exact hy) w;rw[lT hx,lT hy]at this;exact this
theorem XV:∀cs pre r,QI lH cs=some (pre,r)→aO pre→∀(args:List Value) (w:World),cG w cs args→Good prog 84 r args w :=
 wW gU fun x y hx hy w=>by
  have:=NR 2 _ jZ _ _ _ _ _ _ _ _ (cW x) (cW y) (by rw[lT hx]; exact hx) (by rw[lT hy]; exact hy) w;rw[lT hx,lT hy]at this;exact this
theorem XW:∀cs pre r,QI gH cs=some (pre,r)→aO pre→∀(args:List Value) (w:World),cG w cs args→Good prog 83 r args w :=
 wW eU fun x y hx hy w=>by
  have:=NS 2 _ jZ _ _ _ _ _ _ _ _ (cW x) (cW y) (by rw[lT hx]; exact hx) (by rw[lT hy]; exact hy) w;rw[lT hx,lT hy]at this;exact this
def vC (x:Nat):Int:=if x<RM then 0 else 21
def UA:jN
 | [.v (.im (.int .i64 2)),.v (.fl l)]=>match kV l with
  | some x=>some ([x<bI],.one (.im (.int .i64 (vC x))))
  | none=>none
 | _=>none
theorem LQ:∀cs pre r,UA cs=some (pre,r)→aO pre→∀(args:List Value) (w:World),cG w cs args→Good prog 98 r args w:=by
 intro cs pre r hg hp args w ha;unfold UA at hg;split at hg
 ·rename_i l;split at hg
  ·rename_i x hx;cases hg
   match args,ha with
   | [t,v],ha =>
    obtain⟨h1,h2,_⟩:=ha;have h1:t=.int .i64 2:=h1;have h2:v=.agg (aC l).toArray:=h2;rw[bU l x hx]at h2;subst h1; subst h2;unfold vC
    by_cases h:x<RM
    ·rw[if_pos h];exact BQ 2 _ jZ _ _ _ _ (cW x) (by rw[eB hp.1]; exact h) w
    ·rw[if_neg h];exact xH 2 21 _ _ _ _ (cW x) (Or.inr ⟨_,jZ,by rw[eB hp.1]; exact h,rfl⟩) w
   | [],ha=>exact ha.elim
   | [_],ha=>exact ha.2.elim
   | _::_::_::_,ha=>exact ha.2.2.elim
  ·cases hg
 ·cases hg
def TS:jN
 | [.v (.im (.int .i64 2)),.v (.fl l)]=>match kV l with
  | some x=>some ([x<RM,x≠0],.many [.fl [.q (CD x)],.im (.int .i64 0)])
  | none=>none
 | _=>none
theorem XX:∀cs pre r,TS cs=some (pre,r)→aO pre→∀(args:List Value) (w:World),cG w cs args→Good prog 79 r args w:=by
 intro cs pre r hg hp args w ha;unfold TS at hg;split at hg
 ·rename_i l;split at hg
  ·rename_i x hx;cases hg
   match args,ha with
   | [t,v],ha =>
    obtain⟨h1,h2,_⟩:=ha;have h1:t=.int .i64 2:=h1;have h2:v=.agg (aC l).toArray:=h2;rw[bU l x hx]at h2;subst h1; subst h2;refine (NT 2 0 (CD x) _ _ _ _ (fun w => ?_) w).mono ?_
    ·have:=NV 2 _ jZ 1 0 0 0 _ _ _ _ (by unfold bK; decide) (cW x) (by decide) (by rw[lT hp.1]; exact hp.1) (by rw[lT hp.1]; exact hp.2.1) w;rw[lT hp.1]at this;exact this
    rintro e w' ⟨s0,s1,s2,s3,rfl,hs,hv,hb⟩
    obtain⟨rfl,rfl,rfl,rfl⟩:=iB hs (gK (qX x)) hv;exact⟨rfl,hb⟩
   | [],ha=>exact ha.elim
   | [_],ha=>exact ha.2.elim
   | _::_::_::_,ha=>exact ha.2.2.elim
  ·cases hg
 ·cases hg
def TQ:jN
 | [.v (.im (.int .i64 2)),.v (.fl l),.v (.fl m)]=>match kV l,kV m with
  | some x,some y=>some ([x<RM,y<bI],.many [.fl [.q (fD x y)],.im (.int .i64 0)])
  | _,_=>none
 | _=>none
theorem PR:∀cs pre r,TQ cs=some (pre,r)→aO pre→∀(args:List Value) (w:World),cG w cs args→Good prog 75 r args w:=by
 intro cs pre r hg hp args w ha;unfold TQ at hg;split at hg
 ·rename_i l m;split at hg
  ·rename_i x y hx hy;cases hg
   match args,ha with
   | [t,v,u],ha =>
    obtain⟨h1,h2,h3,_⟩:=ha;have h1:t=.int .i64 2:=h1;have h2:v=.agg (aC l).toArray:=h2;have h3:u=.agg (aC m).toArray:=h3;rw[bU l x hx]at h2;rw[bU m y hy]at h3;subst h1; subst h2; subst h3;have h:=NU 2 _ jZ _ _ _ _ _ _ _ _ (cW x) (cW y) (by rw[lT hp.1]; exact hp.1) w;rw[lT hp.1,eB hp.2.1]at h;refine h.mono ?_
    rintro e w' ⟨s0,s1,s2,s3,rfl,hs,hv,hb⟩
    obtain⟨rfl,rfl,rfl,rfl⟩:=iB hs (gK (gC x y)) hv;exact⟨rfl,hb⟩
   | [],ha=>exact ha.elim
   | [_],ha=>exact ha.2.elim
   | [_,_],ha=>exact ha.2.2.elim
   | _::_::_::_::_,ha=>exact ha.2.2.2.elim
  ·cases hg
 ·cases hg
def BL:jN
 | [.v (.im (.int .u64 (.ofNat n)))]=>some ([n<18446744073709551616],.one (.fl [.q n]))
 | _=>none
theorem Dq:∀cs pre r,BL cs=some (pre,r)→aO pre→∀(args:List Value) (w:World),cG w cs args→Good prog 58 r args w:=by
 intro cs pre r hg hp args w ha;unfold BL at hg;split at hg
 ·rename_i n;cases hg
  match args,ha with
  | [t],ha =>
   have h1:t=.int .u64 (Int.ofNat n):=ha.1;subst h1;refine (nV n hp.1 w).mono ?_
   rintro e w' ⟨rfl,hb⟩
   refine⟨?_,hb⟩;obtain⟨e0,e1,e2,e3⟩:=iB (s0:=n) (s1:=0) (s2:=0) (s3:=0) (x:=n) ⟨hp.1,by omega,by omega,by omega⟩ (by have:=hp.1; omega) (by unfold aB; omega);show Ending.returned _=Ending.returned (.agg #[.int .u64 (fw n 0:Nat),.int .u64 (fw n 1:Nat),.int .u64 (fw n 2:Nat),.int .u64 (fw n 3:Nat)]);rw[←e0,←e1,←e2,←e3];rfl
  | [],ha=>exact ha.elim
  | _::_::_,ha=>exact ha.2.elim
 ·cases hg
def xZ:Tab:=((((((T0.add 99 (QI yM)).add 84 (QI lH)).add 83 (QI gH)).add 98 UA).add 79 TS).add 75 TQ).add 58 BL
theorem pV:TabOk prog xZ:=(((((((Cd _).add func99 (by kernel_rfl) (by kernel_rfl) XY).add func84 (by kernel_rfl) (by kernel_rfl) XV).add func83 (by kernel_rfl) (by kernel_rfl) XW).add func98 (by kernel_rfl) (by kernel_rfl) LQ).add func79 (by kernel_rfl) (by kernel_rfl) XX).add func75 (by kernel_rfl) (by kernel_rfl) PR).add func58 (by kernel_rfl) (by kernel_rfl) Dq
def el (f:Nat→Nat) (j:Nat):List At:=[.q (f j)]
def LV (w:World) (v:Value) (N:Nat) (f:Nat→Nat):Prop:=∃p m,v=.slice p N m∧N≤m∧(∀j,j<N→f j<bI)∧(0<N→∃b o,p=some ⟨b,o,none⟩∧b<w.heap.size∧w.rangeAt b o (aC (aV (el f) 0 N)))
theorem LV.on {w w':World} {v:Value} {N:Nat} {f:Nat→Nat} (h:LV w v N f) (hb:Below w.heap.size w w'):LV w' v N f:=by
 obtain⟨p,m,h1,h2,h3,h4⟩:=h;exact⟨p,m,h1,h2,h3,fun h=>by
  obtain⟨b,o,e,h5,h6⟩:=h4 h;exact⟨b,o,e,Nat.lt_of_lt_of_le h5 hb.size,cX hb h5 h6⟩⟩
theorem LV.ofS {w:World} {l:List At} {n m N:Nat} {f:Nat→Nat} {v:Value} (h:CA.ok w (.s l n m) v) (h1:aC l=aC (aV (el f) 0 N)) (h2:n=N) (h3:N≤m) (h4:∀j,j<N→f j<bI):LV w v N f:=by
 obtain⟨b,o,rfl,hb,hr⟩:=h;rw[h1]at hr;exact⟨_,m,by rw[h2],h3,h4,fun _=>⟨b,o,rfl,hb,hr⟩⟩
theorem LV.nil (w:World) (f:Nat→Nat):LV w (.slice none 0 0) 0 f:=⟨none,0,rfl,Nat.le_refl _,fun j h=>by omega,fun h=>by omega⟩
theorem eW {w:World} {b o N i:Nat} {f:Nat→Nat} (hb:b<w.heap.size) (hr:w.rangeAt b o (aC (aV (el f) 0 N))) (hi:i<N):oldOf w b (o+i*4) [.q (f i)] :=
 ⟨hb,pS (f:=el f) (c:=4) (fun _=>rfl) hi hr⟩
def xO (w:World) (idx:Nat→Option Nat) (ld:Nat→Option (List At)) (gen:Nat→Option Value):Ext:={ Ext.none with idx:=idx,ld:=ld,gen:=gen,old:=oldOf w,T2:=vD,T3:=CL,T4:=CI,T5:=CJ,T6:=CK }
theorem fK (w:World) (idx:Nat→Option Nat) (ld:Nat→Option (List At)) (gen:Nat→Option Value):bH prog { qG prog with x:=xO w idx ld gen } w.heap.size w :=
 ⟨(aW _).1,eN (fun b o l h=>h) (fun w' _=>FrAt.none _ _) (fun w' _=>FsAt.none _ _)⟩
def Ee (op:Nat→Nat) (c:Nat→List Prop):jN
 | [.v (.fl l)]=>match kV l with|some x=>some (c x,.one (.fl [.q (op x)]))|none=>none
 | _=>none
def ZQ (op:Nat→Nat→Nat) (c:Nat→Nat→List Prop):jN
 | [.v (.fl l),.v (.fl m)]=>match kV l,kV m with|some x,some y=>some (c x y,.one (.fl [.q (op x y)]))|_,_=>none
 | _=>none
def OP (x y:Nat):List Prop:=[x<RM,y<RM]
theorem xC {f:FuncId} {op:Nat→Nat→Nat} {c:Nat→Nat→List Prop} (h:∀x y,aO (c x y)→∀args w,cG w [.v (.fl [.q x]),.v (.fl [.q y])] args→Good prog f (.one (.fl [.q (op x y)])) args w) :
  ∀cs pre r,ZQ op c cs=some (pre,r)→aO pre→∀(args:List Value) (w:World),cG w cs args→Good prog f r args w:=by
 intro cs pre r hg hp args w ha;unfold ZQ at hg;split at hg
 ·rename_i l m;split at hg
  ·rename_i x y hx hy;cases hg;refine h x y hp args w ?_
   match args,ha with
   | [v,u],ha =>
    refine⟨?_,?_,trivial⟩
    ·show v=.agg (aC (q1 x)).toArray;rw[←bU l x hx]; exact ha.1
    ·show u=.agg (aC (q1 y)).toArray;rw[←bU m y hy]; exact ha.2.1
   | [],ha=>exact ha.elim
   | [_],ha=>exact ha.2.elim
   | _::_::_::_,ha=>exact ha.2.2.elim
  ·cases hg
 ·cases hg
theorem TX {f:FuncId} {op:Nat→Nat} {c:Nat→List Prop} (h:∀x,aO (c x)→∀args w,cG w [.v (.fl [.q x])] args→Good prog f (.one (.fl [.q (op x)])) args w) :
  ∀cs pre r,Ee op c cs=some (pre,r)→aO pre→∀(args:List Value) (w:World),cG w cs args→Good prog f r args w:=by
 intro cs pre r hg hp args w ha;unfold Ee at hg;split at hg
 ·rename_i l;split at hg
  ·rename_i x hx;cases hg;refine h x hp args w ?_
   match args,ha with
   | [v],ha =>
    refine⟨?_,trivial⟩;show v=.agg (aC (q1 x)).toArray;rw[←bU l x hx]; exact ha.1
   | [],ha=>exact ha.elim
   | _::_::_,ha=>exact ha.2.elim
  ·cases hg
 ·cases hg
theorem DX (x y:Nat):rQ prog xZ (qG prog) (fun _=>true) f82 40 [.v (.fl [.q x]),.v (.fl [.q y])]=some ([x<RM,y<RM],.one (.fl [.q (yM x y)])):=by kernel_rfl
theorem AJ (x y:Nat):rQ prog xZ (qG prog) (fun _=>true) f57 40 [.v (.fl [.q x]),.v (.fl [.q y])]=some ([x<RM,y<RM],.one (.fl [.q (lH x y)])):=by kernel_rfl
theorem AI (x y:Nat):rQ prog xZ (qG prog) (fun _=>true) f56 40 [.v (.fl [.q x]),.v (.fl [.q y])]=some ([x<RM,y<RM],.one (.fl [.q (gH x y)])):=by kernel_rfl
theorem sO (x:Nat):rQ prog xZ (qG prog) (fun _=>true) f47 40 [.v (.fl [.q x])]=some ([x<RM,x≠0],.one (.fl [.q (CD x)])):=by kernel_rfl
theorem DW:rQ prog xZ (qG prog) (fun _=>true) f36 40 []=some ([1<18446744073709551616],.one (.fl [.q 1])):=by kernel_rfl
def dO:Tab:=((((xZ.add 82 (ZQ yM OP)).add 57 (ZQ lH OP)).add 56 (ZQ gH OP)).add 47 (Ee CD fun x=>[x<RM,x≠0])).add 36 (g0 (.one (.fl [.q 1])))
theorem bD:TabOk prog dO:=((((pV.add func82 (by kernel_rfl) (by kernel_rfl) (xC fun x y h args w ha=>dT aK pV (aW _) func82 (DX x y) h ha)).add
 func57 (by kernel_rfl) (by kernel_rfl) (xC fun x y h args w ha=>dT aK pV (aW _) func57 (AJ x y) h ha)).add
 func56 (by kernel_rfl) (by kernel_rfl) (xC fun x y h args w ha=>dT aK pV (aW _) func56 (AI x y) h ha)).add
 func47 (by kernel_rfl) (by kernel_rfl) (TX fun x h args w ha=>dT aK pV (aW _) func47 (sO x) h ha)).add
 func36 (by kernel_rfl) (by kernel_rfl) (zG fun w=>dT aK pV (aW _) func36 DW ⟨by omega,trivial⟩ (args:=[]) trivial)
def xY (v:Value) (N i:Nat):List Fact:=[.slot 5 (.im v),.slot 6 (.im (iI N)),.slot 7 (.im (iI i))]
def gG:Code:=(f81.body).getD .skip
def oX:Code:=jM (jM (cB (cA (cB gG))))
theorem OX:gG=.seq (cA gG) (.seq (.seq (cA (cA (cB gG))) (.block 0 (.loop oX))) (cB (cB gG))):=by kernel_rfl
def bW (num:Nat→Option Value) (_:Nat):Cfg:=⟨fun _=>dO,fun _=>true,num⟩
theorem Bw (v:Value):aM prog (qG prog) f81.ntmps (bW fun _=>none) 40 (cA gG) (eK 0 [.v (.im v)]) [.slot 0 (.im v)]=some ([],.nrm,[.slot 0 (.im v)]):=by kernel_rfl
theorem Bv (p:Option Addr) (N m:Nat):aM prog (qG prog) f81.ntmps (bW fun _=>none) 40 (cA (cA (cB gG))) [.slot 0 (.im (.slice p N m))] (xY (.slice p N m) N 0)=some ([],.nrm,xY (.slice p N m) N 0):=by kernel_rfl
theorem Bx (w:World) (b o N m i x:Nat):aM prog { qG prog with x:=xO w (aE [(9,i)]) (aE [(10,[.q x])]) (fun _=>none) } f81.ntmps (bW (aE [(8,.bool true),(13,.bool false),(14,iI (i+1))])) 40 oX (xY (aZ b o N m) N i) (xY (aZ b o N m) N (i+1))=some ([aD .lss .i64 (Int.ofNat i) (Int.ofNat N)=some (.bool true),Int.ofNat i=Int.ofNat i,i<N,oldOf w b (o+i*4) [.q x],cN [.q x]=4,x<bI,aD .neq .i64 (vC x) 0=some (.bool false),aD .add .i64 (Int.ofNat i) 1=some (iI (i+1))],.nrm,xY (aZ b o N m) N (i+1)):=by kernel_rfl
theorem By (w:World) (b o N m i x:Nat):aM prog { qG prog with x:=xO w (aE [(9,i)]) (aE [(10,[.q x])]) (fun _=>none) } f81.ntmps (bW (aE [(8,.bool true),(13,.bool true)])) 40 oX (xY (aZ b o N m) N i) [.slot 2 (.im (.bool false))]=some ([aD .lss .i64 (Int.ofNat i) (Int.ofNat N)=some (.bool true),Int.ofNat i=Int.ofNat i,i<N,oldOf w b (o+i*4) [.q x],cN [.q x]=4,x<bI,aD .neq .i64 (vC x) 0=some (.bool true)],.rt,[.slot 2 (.im (.bool false))]):=by kernel_rfl
theorem VF (v:Value) (N i:Nat):aM prog (qG prog) f81.ntmps (bW (aE [(8,.bool false)])) 40 oX (xY v N i) (xY v N i)=some ([aD .lss .i64 (Int.ofNat i) (Int.ofNat N)=some (.bool false)],.ex 0,xY v N i):=by kernel_rfl
theorem OV (v:Value) (N i:Nat):aM prog (qG prog) f81.ntmps (bW fun _=>none) 40 (cB (cB gG)) (xY v N i) [.slot 2 (.im (.bool true))]=some ([],.rt,[.slot 2 (.im (.bool true))]):=by kernel_rfl
theorem UT {x:Nat} (h:x<RM):aD .neq .i64 (vC x) 0=some (.bool false):=by unfold vC; rw[if_pos h]; rfl
theorem OK {x:Nat} (h:¬x<RM):aD .neq .i64 (vC x) 0=some (.bool true):=by unfold vC; rw[if_neg h]; rfl
theorem fI {p:Nat→Prop} [DecidablePred p]:∀{N:Nat},(¬ ∀j,j<N→p j)→∃j,j<N∧(∀k,k<j→p k)∧¬p j:=by
 intro N
 induction N with
 | zero=>exact fun h=>(h fun j hj=>by omega).elim
 | succ N ih =>
  intro h
  by_cases h0:∀j,j<N→p j
  ·refine⟨N,by omega,h0,fun hp=>h fun j hj => ?_⟩
   by_cases e:j=N
   ·rw[e]; exact hp
   ·exact h0 j (by omega)
  ·obtain⟨j,h1,h2⟩:=ih h0;exact⟨j,by omega,h2⟩
theorem zX {w0:World} {b o N m i:Nat} {f:Nat→Nat} (hb:b<w0.heap.size) (hr:w0.rangeAt b o (aC (aV (el f) 0 N))) (hN:N≤4611686018427387904) (hi:i<N) (hx:f i<bI) (h:f i<RM):Ok prog w0.heap.size w0 f81.ntmps oX (xY (aZ b o N m) N i) .nrm (xY (aZ b o N m) N (i+1)) :=
 ⟨_,_,_,_,fK w0 _ _ _,fun _ _=>bD.w _ _,Bx w0 b o N m i (f i),cZ hi,rfl,hi,eW hb hr hi,rfl,hx,UT h,fF (k:=1) (by omega),trivial⟩
def dD (N:Nat) (f:Nat→Nat):Prop:=∀j,j<N→f j<RM
instance (N:Nat) (f:Nat→Nat):Decidable (dD N f):=Nat.decidableBallLT N fun j _=>f j<RM
theorem IW {w0:World} {v:Value} {N:Nat} {f:Nat→Nat} (hv:LV w0 v N f) (hN:N≤4611686018427387904):Good prog 81 (.one (.im (.bool (decide (dD N f))))) [v] w0:=by
 obtain⟨p,m,rfl,hm,h256,hmem⟩:=hv;have hG:bH prog (qG prog) w0.heap.size w0:=(aW _).w _ _;have hT:∀n d:Nat,TabOkW prog dO w0.heap.size w0:=fun _ _=>bD.w _ _
 refine bP func81 (cs:=[.v (.im (.slice p N m))]) (args:=[.slice p N m]) (c:=gG) rfl ⟨rfl,trivial⟩ (Nat.le_of_ble_eq_true (by kernel_rfl)) fun a w' hA => ?_
 rw[OX];refine wp_seq (aA aK hT hG (Bw _) trivial hA fun a w' hA => ?_);refine wp_seq (wp_seq (aA aK hT hG (Bv p N m) trivial hA fun a w' hA => ?_));refine wp_block ?_;have fin:∀(P Q:Exit→Act→World→Prop) e a w,P e a w→(∀e a w,P e a w→Q e a w)→Q e a w:=fun P Q e a w h k=>k e a w h
 by_cases h:dD N f
 ·rw[decide_eq_true h];refine dA aK (fun i=>xY (.slice p N m) N i) N (fun i hi => ?_) (.ex 0) (by simp) (xY (.slice p N m) N N) ⟨_,_,_,_,hG,hT,VF _ N N,dZ (Nat.le_refl _),trivial⟩ hA fun a w hA => ?_
  ·obtain⟨b,o,rfl,hb,hr⟩:=hmem (by omega);exact zX hb hr hN hi (h256 i hi) (h i hi)
  ·show (cB (cB gG)).wp _ _ _ _;exact aA aK hT hG (OV _ N N) trivial hA fun a w' hA=>aY (l:=[.im (.bool true)]) (r:=.one (.im (.bool true))) (by kernel_rfl) (by kernel_rfl) hA
 ·rw[decide_eq_false h];obtain⟨j,hj,h1,h2⟩:=fI (p:=fun j=>f j<RM) h;obtain⟨b,o,rfl,hb,hr⟩:=hmem (by omega);refine dA aK (fun i=>xY (aZ b o N m) N i) j (fun i hi=>zX hb hr hN (by omega) (h256 i (by omega)) (h1 i hi)) .rt (by simp) [.slot 2 (.im (.bool false))] ⟨_,_,_,_,fK w0 _ _ _,hT,By w0 b o N m j (f j),cZ hj,rfl,hj,eW hb hr hj,rfl,h256 j hj,OK h2,trivial⟩ hA fun a w hA => ?_
  exact aY (l:=[.im (.bool false)]) (r:=.one (.im (.bool false))) (by kernel_rfl) (by kernel_rfl) hA
def EW (f:Nat→Nat) (N i:Nat):Nat:=if i<N then f i else 0
theorem RN (w:World) (b o N m i x:Nat):eC prog { qG prog with x:=xO w (aE [(11,i)]) (aE [(12,[.q x])]) (fun _=>none) } (bW (aE [(8,.bool true)])) f53 40 [.v (.im (aZ b o N m)),.v (.im (iI i))]=some ([aD .lss .i64 (Int.ofNat i) (Int.ofNat N)=some (.bool true),Int.ofNat i=Int.ofNat i,i<N,oldOf w b (o+i*4) [.q x],cN [.q x]=4],.one (.fl [.q x])):=by kernel_rfl
theorem LB (p:Option Addr) (N m i:Nat):eC prog (qG prog) (bW (aE [(8,.bool false)])) f53 40 [.v (.im (.slice p N m)),.v (.im (iI i))]=some ([aD .lss .i64 (Int.ofNat i) (Int.ofNat N)=some (.bool false)],.one (.fl [.f ⟨0,cS⟩])):=by kernel_rfl
theorem uR {w0:World} {v:Value} {N i:Nat} {f:Nat→Nat} (hv:LV w0 v N f):Good prog 53 (.one (.fl [.q (EW f N i)])) [v,iI i] w0:=by
 obtain⟨p,m,rfl,hm,h256,hmem⟩:=hv;unfold EW
 by_cases h:i<N
 ·rw[if_pos h];obtain⟨b,o,rfl,hb,hr⟩:=hmem (by omega);exact bM aK (fun _ _=>bD.w _ _) (fK w0 _ _ _) func53 (RN w0 b o N m i (f i)) ⟨cZ h,rfl,h,eW hb hr h,rfl,trivial⟩ (args:=[aZ b o N m,iI i]) ⟨rfl,rfl,trivial⟩
 ·rw[if_neg h];exact bM aK (fun _ _=>bD.w _ _) ((aW _).w _ _) func53 (LB p N m i) ⟨dZ (by omega),trivial⟩ (args:=[.slice p N m,iI i]) ⟨rfl,rfl,trivial⟩
def aQ (f:Nat→Nat):Nat→Nat
 | 0=>0
 | n+1=>if f n=0 then aQ f n else n+1
theorem gS (f:Nat→Nat):∀n,aQ f n≤n
 | 0=>Nat.le_refl _
 | n+1=>by
  unfold aQ;have:=gS f n;split<;>omega
theorem CZ (f:Nat→Nat):∀n i,aQ f n≤i→i<n→f i=0
 | n+1,i,h,hi=>by
  unfold aQ at h
  by_cases h0:f n=0
  ·rw[if_pos h0]at h
   by_cases e:i=n
   ·rw[e]; exact h0
   ·exact CZ f n i h (by omega)
  ·rw[if_neg h0]at h; omega
theorem pN (f:Nat→Nat):∀n,0<aQ f n→f (aQ f n-1)≠0
 | 0,h=>absurd h (Nat.lt_irrefl 0)
 | n+1,h=>by
  unfold aQ at h ⊢
  by_cases h0:f n=0
  ·rw[if_pos h0]at h ⊢; exact pN f n h
  ·rw[if_neg h0]; exact h0
theorem mW {x:Nat} (hx:x<bI):aC [At.q x]=aC [At.f ⟨0,cS⟩]↔x=0:=by
 constructor
 ·intro h;have h2:w4 x=w4 0:=by
   have h3:w4 x++[]=w4 0++[]:=h;simpa using h3
  unfold w4 at h2;simp only[List.cons.injEq,Value.int.injEq,true_and,and_true]at h2;obtain⟨e0,e1,e2,e3⟩:=h2;have h3:=eB hx;have h4:=eB (x:=0) (by omega);have c0:fw x 0=fw 0 0:=by omega
  have c1:fw x 1=fw 0 1:=by omega
  have c2:fw x 2=fw 0 2:=by omega
  have c3:fw x 3=fw 0 3:=by omega
  rw[c0,c1,c2,c3,h4]at h3;exact h3.symm
 ·rintro rfl
  rfl
def uZ (v:Value) (i:Nat):List Fact:=[.slot 0 (.im v),.slot 3 (.im (iI i))]
def gE:Code:=(f33.body).getD .skip
def rK:Code:=jM (jM (cA (cB (cB gE))))
theorem ML:gE=.seq (cA gE) (.seq (cA (cB gE)) (.seq (.block 0 (.loop rK)) (cB (cB (cB gE))))):=by kernel_rfl
theorem YM (p:Option Addr) (N m:Nat):aM prog (qG prog) f33.ntmps (bW fun _=>none) 40 (cA gE) (eK 0 [.v (.im (.slice p N m))]) [.slot 0 (.im (.slice p N m))]=some ([],.nrm,[.slot 0 (.im (.slice p N m))]):=by kernel_rfl
theorem YL (p:Option Addr) (N m:Nat):aM prog (qG prog) f33.ntmps (bW fun _=>none) 40 (cA (cB gE)) [.slot 0 (.im (.slice p N m))] (uZ (.slice p N m) N)=some ([],.nrm,uZ (.slice p N m) N):=by kernel_rfl
def YO (h:Bool) (num:Nat→Option Value) (_:Nat):Cfg:=⟨fun _=>dO,fun _=>h,num⟩
theorem YN (w:World) (b o N m i x:Nat):aM prog { qG prog with x:=xO w (aE [(12,i)]) (aE [(13,[.q x])]) (fun _=>none) } f33.ntmps (YO true (aE [(7,.bool true),(11,iI i),(18,iI i)])) 40 rK (uZ (aZ b o N m) (i+1)) (uZ (aZ b o N m) i)=some ([aD .gtr .i64 (Int.ofNat (i+1)) 0=some (.bool true),aD .sub .i64 (Int.ofNat (i+1)) 1=some (iI i),Int.ofNat i=Int.ofNat i,i<N,oldOf w b (o+i*4) [.q x],cN [.q x]=4,aC [.q x]=aC [.f ⟨0,cS⟩],aD .sub .i64 (Int.ofNat (i+1)) 1=some (iI i)],.nrm,uZ (aZ b o N m) i):=by kernel_rfl
theorem ST (w:World) (b o N m i x:Nat):aM prog { qG prog with x:=xO w (aE [(12,i)]) (aE [(13,[.q x])]) (fun _=>none) } f33.ntmps (YO false (aE [(7,.bool true),(11,iI i),(18,iI i)])) 40 rK (uZ (aZ b o N m) (i+1)) (uZ (aZ b o N m) (i+1))=some ([aD .gtr .i64 (Int.ofNat (i+1)) 0=some (.bool true),aD .sub .i64 (Int.ofNat (i+1)) 1=some (iI i),Int.ofNat i=Int.ofNat i,i<N,oldOf w b (o+i*4) [.q x],cN [.q x]=4,aC [.q x]≠aC [.f ⟨0,cS⟩]],.ex 0,uZ (aZ b o N m) (i+1)):=by kernel_rfl
theorem SU (v:Value):aM prog (qG prog) f33.ntmps (YO true (aE [(7,.bool false)])) 40 rK (uZ v 0) (uZ v 0)=some ([aD .gtr .i64 (Int.ofNat 0) 0=some (.bool false)],.ex 0,uZ v 0):=by kernel_rfl
theorem MK (v:Value) (i:Nat):aM prog (qG prog) f33.ntmps (bW fun _=>none) 40 (cB (cB (cB gE))) (uZ v i) [.slot 2 (.im (iI i))]=some ([],.rt,[.slot 2 (.im (iI i))]):=by kernel_rfl
theorem FF {i:Nat}:aD .gtr .i64 (Int.ofNat (i+1)) 0=some (.bool true):=by
 have:=@nW (i+1) 0;rw[decide_eq_true (Nat.succ_pos _)]at this;exact this
theorem wN {i:Nat} (h:i<4611686018427387904):aD .sub .i64 (Int.ofNat (i+1)) 1=some (iI i):=FB (k:=1) (by omega) (by omega)
theorem FK {w0:World} {v:Value} {N:Nat} {f:Nat→Nat} (hv:LV w0 v N f) (hN:N≤2305843009213693952):Good prog 33 (.one (.im (iI (aQ f N)))) [v] w0:=by
 obtain⟨p,m,rfl,hm,h256,hmem⟩:=hv;have hG:bH prog (qG prog) w0.heap.size w0:=(aW _).w _ _;have hT:∀n d:Nat,TabOkW prog dO w0.heap.size w0:=fun _ _=>bD.w _ _
 refine bP func33 (cs:=[.v (.im (.slice p N m))]) (args:=[.slice p N m]) (c:=gE) rfl ⟨rfl,trivial⟩ (Nat.le_of_ble_eq_true (by kernel_rfl)) fun a w' hA => ?_
 rw[ML];refine wp_seq (aA aK hT hG (YM _ _ _) trivial hA fun a w' hA => ?_);refine wp_seq (aA aK hT hG (YL p N m) trivial hA fun a w' hA => ?_);refine wp_seq (wp_block ?_);have hle:=gS f N;have hz:=CZ f N;have hl:=pN f N;generalize aQ f N=T at hle hz hl ⊢;refine dA aK (fun i=>uZ (.slice p N m) (N-i)) (N-T) (fun i hi => ?_) (.ex 0) (by simp) (uZ (.slice p N m) T) ?_ hA fun a w hA => ?_
 ·have h0:0<N:=by omega
  have hk:N-i=(N-i-1)+1:=by omega
  have hk2:N-(i+1)=N-i-1:=by omega
  have hk3:T≤N-i-1:=by omega
  have hk4:N-i-1<N:=by omega
  have hk5:N-i-1<4611686018427387904:=by omega
  show Ok _ _ _ _ _ (uZ _ (N-i)) _ (uZ _ (N-(i+1)));rw[hk2,hk];clear hk hk2;obtain⟨b,o,rfl,hb,hr⟩:=hmem h0;generalize N-i-1=k at hk3 hk4 hk5 ⊢;exact⟨_,_,_,_,fK w0 _ _ _,fun _ _=>bD.w _ _,YN w0 b o N m k (f k),FF,wN hk5,rfl,hk4,eW hb hr hk4,rfl,(mW (h256 k hk4)).2 (hz k hk3 hk4),wN hk5,trivial⟩
 ·have e:N-(N-T)=T:=by omega
  rw[e];cases T with
  | zero=>exact⟨_,_,_,_,hG,fun _ _=>bD.w _ _,SU _,rfl,trivial⟩
  | succ k =>
   have h0:0<N:=by omega
   have hk4:k<N:=by omega
   have hk5:k<4611686018427387904:=by omega
   obtain⟨b,o,rfl,hb,hr⟩:=hmem h0;have hl:=hl (Nat.succ_pos k);exact⟨_,_,_,_,fK w0 _ _ _,fun _ _=>bD.w _ _,ST w0 b o N m k (f k),FF,wN hk5,rfl,hk4,eW hb hr hk4,rfl,fun h=>hl ((mW (h256 k hk4)).1 h),trivial⟩
 ·show (cB (cB (cB gE))).wp _ _ _ _;exact aA aK hT hG (MK _ _) trivial hA fun a w' hA=>aY (l:=[.im (iI T)]) (r:=.one (.im (iI T))) (by kernel_rfl) (by kernel_rfl) hA
def mL (id:Nat) (caps:List Value):Value:=.func (.func id) #[] caps.toArray
def IM (v:Value) (Z:List At) (N i:Nat):List Fact:=[.slot 1 (.im v),.slot 5 (.sl 8 0 N N),.row 8 true Z,.slot 10 (.im (iI N)),.slot 11 (.im (iI i))]
def dF:Code:=(f67.body).getD .skip
def oT:Code:=jM (jM (cB (cA (cB (cB dF)))))
theorem zS:dF=.seq (cA dF) (.seq (cA (cB dF)) (.seq (.seq (cA (cA (cB (cB dF)))) (.block 0 (.loop oT))) (cB (cB (cB dF))))):=by kernel_rfl
theorem Bg (v:Value) (N:Nat):aM prog (qG prog) f67.ntmps (bW fun _=>none) 40 (cA dF) (eK 0 [.v (.im (iI N)),.v (.im v)]) [.slot 0 (.im (iI N)),.slot 1 (.im v)]=some ([],.nrm,[.slot 0 (.im (iI N)),.slot 1 (.im v)]):=by kernel_rfl
def xM (d N:Nat) (Z:List At):Ext:={ Ext.none with mks:=aE [(d,(N,Z))],T2:=vD,T3:=CL,T4:=CI,T5:=CJ,T6:=CK }
theorem PL (d N:Nat) (Z:List At) (base:Nat) (w:World):bH prog { qG prog with x:=xM d N Z } base w :=
 ⟨(aW _).1,eN (fun b o l h=>h.elim) (fun w' _=>FrAt.none _ _) (fun w' _=>FsAt.none _ _)⟩
theorem Bf (v:Value) (N:Nat) (Z:List At):aM prog { qG prog with x:=xM 8 N Z } f67.ntmps (bW fun _=>none) 40 (cA (cB dF)) [.slot 0 (.im (iI N)),.slot 1 (.im v)] [.slot 1 (.im v),.slot 5 (.sl 8 0 N N),.row 8 true Z]=some ([∃e,∀w:World,(Instr.makeSlice 22 (iI N) (iI N)).run prog w=.ok (.slice (some ⟨w.heap.size,0,none⟩) N N) (w.alloc (.cells (aC Z).toArray e))],.nrm,[.slot 1 (.im v),.slot 5 (.sl 8 0 N N),.row 8 true Z]):=by kernel_rfl
theorem Be (v:Value) (N:Nat) (Z:List At):aM prog (qG prog) f67.ntmps (bW fun _=>none) 40 (cA (cA (cB (cB dF)))) [.slot 1 (.im v),.slot 5 (.sl 8 0 N N),.row 8 true Z] (IM v Z N 0)=some ([],.nrm,IM v Z N 0):=by kernel_rfl
def VI (id:Nat) (caps:List Value) (i x:Nat):Tab:=fun f' cs=>some ([f'=id,cs=.v (.im (iI i))::caps.map fun v=>.v (.im v)],.one (.fl [.q x]))
def xS (d i:Nat) (Z:List At):Ext:={ Ext.none with idx:=aE [(d,i)],st:=aE [(d,Z)],T2:=vD,T3:=CL,T4:=CI,T5:=CJ,T6:=CK }
theorem WD (d i:Nat) (Z:List At) (base:Nat) (w:World):bH prog { qG prog with x:=xS d i Z } base w :=
 ⟨(aW _).1,eN (fun b o l h=>h.elim) (fun w' _=>FrAt.none _ _) (fun w' _=>FsAt.none _ _)⟩
theorem Bh (id:Nat) (caps:List Value) (Z Z':List At) (N i x:Nat):aM prog { qG prog with x:=xS 19 i Z' } f67.ntmps (fun _=>⟨fun _=>VI id caps i x,fun _=>true,aE [(12,.bool true),(20,iI (i+1))]⟩) 60 oT (IM (mL id caps) Z N i) (IM (mL id caps) Z' N (i+1))=some ([aD .lss .i64 (Int.ofNat i) (Int.ofNat N)=some (.bool true),id=id,CA.v (.im (iI i))::(caps.map fun v=>CA.v (.im v))=CA.v (.im (iI i))::(caps.map fun v=>CA.v (.im v)),Int.ofNat i=Int.ofNat i,i<N,put Z (0+i*4) [.q x]=some Z',aD .add .i64 (Int.ofNat i) 1=some (iI (i+1))],.nrm,IM (mL id caps) Z' N (i+1)):=by kernel_rfl
theorem UZ (v:Value) (Z:List At) (N i:Nat):aM prog (qG prog) f67.ntmps (bW (aE [(12,.bool false)])) 40 oT (IM v Z N i) (IM v Z N i)=some ([aD .lss .i64 (Int.ofNat i) (Int.ofNat N)=some (.bool false)],.ex 0,IM v Z N i):=by kernel_rfl
theorem OQ (v:Value) (Z:List At) (N i:Nat):aM prog (qG prog) f67.ntmps (bW fun _=>none) 40 (cB (cB (cB dF))) (IM v Z N i) [.slot 4 (.sl 8 0 N N),.row 8 true Z]=some ([],.rt,[.slot 4 (.sl 8 0 N N),.row 8 true Z]):=by kernel_rfl
theorem uH:oZ (aC [At.q 0]) (.int .u64 0):=by unfold oZ; kernel_rfl
def JB (id:Nat):Prop:=∀args w,(callFunc id args).run prog w=.ok (.enter id args) w
theorem zR {w:World}:∀{caps vs:List Value},cG w (caps.map fun v=>.v (.im v)) vs→vs=caps
 | [],[],_=>rfl
 | [],_::_,h=>h.elim
 | _::_,[],h=>h.elim
 | c::cs,u::us,h=>by
  have h3:u=c:=h.1;rw[h3,zR h.2]
theorem PD {w:World} {id:Nat} {caps:List Value} {i x:Nat} (hA:JB id) (h:Good prog id (.one (.fl [.q x])) (iI i::caps) w):uV prog (VI id caps i x) w:=by
 intro f cs pre r hg hp;unfold VI at hg;cases hg;obtain⟨rfl,rfl,_⟩:=hp;refine⟨hA,fun args ha => ?_⟩;have e:args=iI i::caps:=by
  match args,ha with
  | v::vs,ha =>
   have h1:v=iI i:=ha.1;subst h1;rw[zR ha.2]
  | [],ha=>exact ha.elim
 rw[e];exact h
theorem IK {w0:World} {id:Nat} {caps:List Value} {N:Nat} {f:Nat→Nat} (hN:N≤131072) (hA:JB id) (hC:∀i,i<N→∀w',Below w0.heap.size w0 w'→Good prog id (.one (.fl [.q (f i)])) (iI i::caps) w') :
  Calls prog 67 #[iI N,mL id caps] w0 (fun e w'=>FR.ok ⟨aV (el f) 0 N,N,N,[]⟩ w0 e w'):=by
 have hG:bH prog (qG prog) w0.heap.size w0:=(aW _).w _ _;have hT:∀n d:Nat,TabOkW prog dO w0.heap.size w0:=fun _ _=>bD.w _ _
 refine bP func67 (cs:=[.v (.im (iI N)),.v (.im (mL id caps))]) (args:=[iI N,mL id caps]) (c:=dF) rfl ⟨rfl,rfl,trivial⟩ (Nat.le_of_ble_eq_true (by kernel_rfl)) fun a w' hA' => ?_
 rw[zS];refine wp_seq (aA aK hT hG (Bg _ _) trivial hA' fun a w' hA' => ?_);refine wp_seq (aA aK hT (PL 8 N (aV (fun _=>[.q 0]) 0 N) _ _) (Bf _ N (aV (fun _=>[.q 0]) 0 N)) ⟨QC (t:=22) (e:=25) (z:=[.q 0]) (v:=.int .u64 0) (n:=4) (by8:=32) (by kernel_rfl) (by kernel_rfl) rfl uH (by omega) (by omega) (by omega),trivial⟩ hA' fun a w' hA' => ?_);refine wp_seq (wp_seq (aA aK hT hG (Be _ _ _) trivial hA' fun a w' hA' => ?_));refine wp_block ?_;rw[←FX (el f)]at hA';refine dA aK (fun i=>IM (mL id caps) (nZ (el f) [.q 0] N i) N i) N (fun i hi => ?_) (.ex 0) (by simp) (IM (mL id caps) (aV (el f) 0 N) N N) ?_ hA' fun a w hA' => ?_
 ·exact⟨_,_,_,_,WD 19 i (nZ (el f) [.q 0] N (i+1)) _ _,fun _ _ w' hw=>PD hA (hC i hi w' hw),Bh id caps _ _ N i (f i),cZ hi,rfl,rfl,rfl,hi,tF (f:=el f) (c:=4) (fun _=>rfl) rfl hi (Nat.zero_add _),fF (k:=1) (by omega),trivial⟩
 ·rw[←FV (el f) [.q 0] N];exact⟨_,_,_,_,hG,hT,UZ _ _ N N,dZ (Nat.le_refl _),trivial⟩
 ·show (cB (cB (cB dF))).wp _ _ _ _;exact aA aK hT hG (OQ _ _ N N) trivial hA' fun a w' hA=>eI (r:=⟨aV (el f) 0 N,N,N,[]⟩) (by kernel_rfl) hA
def mC:List (Nat×TV)→List Fact
 | []=>[]
 | (s,t)::r=>.slot s t.av::mC r
theorem jD:∀{l:List (Nat×TV)} {φ:Fact},φ∈mC l→∃x∈l,φ=.slot x.1 x.2.av
 | x::r,φ,h=>by
  rcases List.mem_cons.1 h with rfl|h
  ·exact⟨x,List.mem_cons_self,rfl⟩
  ·obtain⟨y,h1,h2⟩:=jD h;exact⟨y,List.mem_cons_of_mem _ h1,h2⟩
theorem Holds.fresh {nt base:Nat} {w0:World} {A:List Fact} {a:Act} {w:World} (h:Holds nt base w0 A a w) (l:List (Nat×TV)) (hl:∀x∈l,a.tmps[x.1]?=some x.2.den):Holds nt w.heap.size w (mC l) a w:=by
 refine⟨h.defers,h.size,Below.refl _ _,Nat.le_refl _,fun _=>(w.heap.size,0,0),fun φ hφ => ?_,fun k k' o' l1 l2 h1 => ?_,fun k l1 h1 => ?_,Nat.le_refl _,fun p h1 h2=>⟨rfl,rfl⟩,Shape.refl _⟩
 ·obtain⟨x,hx,rfl⟩:=jD hφ;show a.tmps[x.1]?=_;rw[TV.av_den];exact hl x hx
 ·obtain⟨x,_,e⟩:=jD h1; cases e
 ·obtain⟨x,_,e⟩:=jD h1; cases e
theorem Holds.ptr {nt base:Nat} {w0:World} {A:List Fact} {a:Act} {w:World} (h:Holds nt base w0 A a w) {s k b:Nat} (h1:Fact.slot s (.pt k 0)∈A) (h2:Fact.at k b∈A):a.tmps[s]?=some (cU b 0):=by
 obtain⟨β,g1,g2⟩:=h.facts;have e1:=g1 _ h1;have e2:=g1 _ h2;simp only[Fact.ok,AV.den]at e1 e2;rw[e1,e2.1,e2.2];rfl
theorem FR.ok.older {r:FR} {w w1 w2:World} {e:Ending} (h:r.ok w1 e w2) (hb:Below w.heap.size w w1):r.ok w e w2:=by
 obtain⟨b,h1,h2,h3,h4⟩:=h;exact⟨b,h1,hb.trans (h2.mono hb.size),Nat.le_trans hb.size h3,h4⟩
def kW:Code:=(f44.body).getD .skip
theorem JO:kW=.seq (cA kW) (cB kW):=by kernel_rfl
theorem WP (v:Value) (p:Option Addr) (N m:Nat) (h:v=.slice p N m):aM prog (qG prog) f44.ntmps (bW fun _=>none) 40 (cA kW) (eK 0 [.v (.im (.slice p N m))]) [.slot 1 (.pt 1 0),.row 1 true [.c (.slice p N m)]]=some ([],.nrm,[.slot 1 (.pt 1 0),.row 1 true [.c (.slice p N m)]]):=by kernel_rfl
def GG (v:Value) (T:Nat):jN
 | [.v (.im u)]=>some ([u=v],.one (.im (iI T)))
 | _=>none
def GH (id:Nat) (caps:List Value) (N:Nat) (f:Nat→Nat):List CA→Option (List Prop×FR)
 | [.v (.im n),.v (.im g)]=>some ([n=iI N,g=mL id caps],⟨aV (el f) 0 N,N,N,[]⟩)
 | _=>none
theorem zE {w:World} {v:Value} {N:Nat} {f:Nat→Nat} (hv:LV w v N f) (hN:N≤2305843009213693952):∀cs pre r,GG v (aQ f N) cs=some (pre,r)→aO pre→∀(args:List Value),cG w cs args→Good prog 33 r args w:=by
 intro cs pre r hg hp args ha;unfold GG at hg;split at hg
 ·cases hg
  match args,ha with
  | [u],ha =>
   have h1:u=_:=ha.1;have h2:=hp.1;subst h1;subst h2;exact FK hv hN
  | [],ha=>exact ha.elim
  | _::_::_,ha=>exact ha.2.elim
 ·cases hg
theorem rP {w:World} {id:Nat} {caps:List Value} {N:Nat} {f:Nat→Nat} (hN:N≤131072) (hA:JB id) (hC:∀i,i<N→∀w',Below w.heap.size w w'→Good prog id (.one (.fl [.q (f i)])) (iI i::caps) w') :
  ∀cs pre r,GH id caps N f cs=some (pre,r)→aO pre→∀(args:List Value),cG w cs args→Calls prog 67 args.toArray w (fun e w'=>r.ok w e w'):=by
 intro cs pre r hg hp args ha;unfold GH at hg;split at hg
 ·cases hg
  match args,ha with
  | [u,t],ha =>
   have h1:u=_:=ha.1;have h2:t=_:=ha.2.1;subst h1; subst h2;have e1:=hp.1;have e2:=hp.2.1;subst e1; subst e2;exact IK hN hA hC
  | [],ha=>exact ha.elim
  | [_],ha=>exact ha.2.elim
  | _::_::_::_,ha=>exact ha.2.2.elim
 ·cases hg
theorem KH (w:World) (b o N m i x bx:Nat):eC prog { qG prog with x:=xO w (aE [(6,i)]) (aE [(7,[.q x])]) (aE [(4,aZ b o N m)]) } (bW fun _=>none) f78 40 [.v (.im (iI i)),.v (.im (cU bx 0))]=some ([oldOf w bx 0 [.c (aZ b o N m)],Int.ofNat i=Int.ofNat i,i<N,oldOf w b (o+i*4) [.q x],cN [.q x]=4],.one (.fl [.q x])):=by kernel_rfl
theorem AD {w:World} {b o N m i bx:Nat} {f:Nat→Nat} (hi:i<N) (hb:b<w.heap.size) (hr:w.rangeAt b o (aC (aV (el f) 0 N))) (hx:oldOf w bx 0 [.c (aZ b o N m)]):Good prog 78 (.one (.fl [.q (f i)])) [iI i,cU bx 0] w :=
 bM aK (fun _ _=>bD.w _ _) (fK w _ _ _) func78 (KH w b o N m i (f i) bx) ⟨hx,rfl,hi,eW hb hr hi,rfl,trivial⟩ (args:=[iI i,cU bx 0]) ⟨rfl,rfl,trivial⟩
def xB (w:World) (gen:Nat→Option Value) (T2:Tab2):Ext:={ Ext.none with gen:=gen,old:=oldOf w,T2:=T2,T3:=CL,T4:=CI,T5:=CJ,T6:=CK }
theorem yC {w:World} {gen:Nat→Option Value} {T2:Tab2} (h:∀w',Below w.heap.size w w'→FrAt prog T2 w'):bH prog { qG prog with x:=xB w gen T2 } w.heap.size w :=
 ⟨(aW _).1,eN (fun b o l h=>h) h (fun w' _=>FsAt.none _ _)⟩
theorem WO (w:World) (v:Value) (T N bx:Nat) (f:Nat→Nat):aM prog { qG prog with x:=xB w (aE [(3,v)]) (vD.add 67 (GH 78 [cU bx 0] T f)) } f44.ntmps (fun _=>⟨fun _=>dO.add 33 (GG v T),fun _=>true,fun _=>none⟩) 40 (cB kW) (mC [(1,.im (cU bx 0))]) [.slot 2 (.sl 6 0 T T),.row 6 true (aV (el f) 0 T)]=some ([oldOf w bx 0 [.c v],v=v,iI T=iI T,mL 78 [cU bx 0]=mL 78 [cU bx 0]],.rt,[.slot 2 (.sl 6 0 T T),.row 6 true (aV (el f) 0 T)]):=by kernel_rfl
theorem eR {P:Program} {fn:Func} {R R':Ending→World→Prop} {a:Act} {w:World} (h:bodyPost P fn R .ret a w) (hR:∀e w,R e w→R' e w):bodyPost P fn R' .ret a w:=by
 obtain⟨h1,v,h2,h3⟩:=h;exact⟨h1,v,h2,hR _ _ h3⟩
theorem CY {w0:World} {v:Value} {N:Nat} {f:Nat→Nat} (hv:LV w0 v N f) (hN:N≤131072):Calls prog 44 #[v] w0 (fun e w'=>FR.ok ⟨aV (el f) 0 (aQ f N),aQ f N,aQ f N,[]⟩ w0 e w'):=by
 obtain⟨p,m,rfl,hm,h256,hmem⟩:=id hv;have hG:bH prog (qG prog) w0.heap.size w0:=(aW _).w _ _;have hT:∀n d:Nat,TabOkW prog dO w0.heap.size w0:=fun _ _=>bD.w _ _
 refine bP func44 (cs:=[.v (.im (.slice p N m))]) (args:=[.slice p N m]) (c:=kW) rfl ⟨rfl,trivial⟩ (Nat.le_of_ble_eq_true (by kernel_rfl)) fun a w1 hA => ?_
 rw[JO];refine wp_seq (aA aK hT hG (WP _ p N m rfl) trivial hA fun a w1 hA => ?_);obtain⟨bx,hB⟩:=hA.at (k:=1) (l:=[.c (.slice p N m)]) (by simp);have hold:oldOf w1 bx 0 [.c (.slice p N m)]:=hB.old (k:=1) (by simp) (by simp);have hF:=hB.fresh [(1,.im (cU bx 0))] (fun x hx=>by
  cases List.mem_singleton.1 hx;exact hB.ptr (s:=1) (k:=1) (by simp) (by simp))
 have hlv:=hv.on hA.below;have hle:=gS f N;refine aA aK (fun _ _ w' hw => ?_) (yC fun w' hw => ?_) (WO w1 (.slice p N m) (aQ f N) N bx f) ⟨hold,rfl,rfl,rfl,trivial⟩ hF fun a w2 hA2 => ?_
 ·exact TabOkW.add (base:=w1.heap.size) (w0:=w1) (bD.w _ _) func33 (by kernel_rfl) (by kernel_rfl) (fun w hw=>zE (hlv.on hw) (by omega)) w' hw
 ·refine (FrAt.none _ _).add func67 (by kernel_rfl) (by kernel_rfl) (rP (by omega) (fun args w=>bQ func78 (by kernel_rfl) (by kernel_rfl) args w) fun i hi w3 hw3 => ?_);obtain⟨b,o,rfl,hb,hr⟩:=hmem (by omega);have hb3:=(hA.below.trans ((hw.trans (hw3.mono hw.size)).mono hA.below.size));have ho:=hold.1;exact AD (by omega) (Nat.lt_of_lt_of_le hb hb3.size) (cX hb3 hb hr) (oldOf.go (hw.trans (hw3.mono hw.size)) (Nat.le_refl _) hold)
 ·exact eR (eI (r:=⟨aV (el f) 0 (aQ f N),aQ f N,aQ f N,[]⟩) (by kernel_rfl) hA2) fun e w h=>h.older hA.below
end Go.Proofs.Ytiginhbnaloghaa.Ex
