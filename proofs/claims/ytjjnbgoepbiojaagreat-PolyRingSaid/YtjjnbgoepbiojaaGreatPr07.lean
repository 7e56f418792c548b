/- Pr07 -/
import Derived.Laws.ComplexArith
import Derived.StillTail
import Derived.RegionTactic
import Derived.KernelRfl
import Derived.LoopTactic
import Derived.Test.YtjjnbgoepbiojaaGreatPr06
import Derived.Test.YtjjnbgoepbiojaaGreatPr04
import Derived.Test.YtjjnbgoepbiojaaGreatPr05
import Derived.Test.YtjjnbgoepbiojaaGreatProg
set_option maxRecDepth 100000
set_option linter.unusedVariables false
set_option linter.unusedSimpArgs false
set_option linter.unnecessarySimpa false
noncomputable section
namespace Go.Proofs.YtjjnbgoepbiojaaGreat.Ex
open Go.Proofs.Tryz
open Go.RowKit
theorem QF {i h:Nat} (hi:i<9223372036854775808) (he:i/2=h):aC .quo .i64 (Int.ofNat i) 2=some (iI h):=by
 have:=@Dj i 2 (by omega) hi;rw[he]at this;exact this
theorem QG {i:Nat} (h:2*i<9223372036854775808):aC .mul .i64 2 (Int.ofNat i)=some (iI (2*i)):=GV (i:=2) h
theorem nN {log:Nat} {x y:Operand} (h:log≤28):dY .shl 3 x y (iI 1) (iI log) (iI (2^log)):=fun w=>by
 have hp:2^log≤2^28:=Nat.pow_le_pow_right (by omega) h;have e:IntKind.i64.wrap ((2^log:Nat):Int)=((2^log:Nat):Int):=kC (by omega);have e2:((2:Int)^log)=((2^log:Nat):Int):=by simp
 have e3:min log 64=log:=Nat.min_eq_left (by omega);simp[eqGuard,binOp,go_sem,iI,e3];rw[e2];exact e
def oG (N:Nat) (f:Nat→Nat) (log:Nat) (i:Nat):Nat:=aU f N (DB log i)
theorem NG {w0:World} {n h bl bt s t:Nat} {F tw:Nat→Nat} {Q:Exit→Act→World→Prop} (hn:n=2^s*2*2^t) (hh:h=2^s*2^t) (hn2:n≤65536) (hne:bt≠bl) (hF:bD n F) (htw:bD h tw) {a:Act} {w:World}
  (hA:Holds f58.ntmps w0.heap.size w0 (oL n h bl bt (aP (el F) 0 n) (aP (el tw) 0 h) (2^s)) a w) {R:Act→World→Prop}
  (hR:∀a w,Holds f58.ntmps w0.heap.size w0 (oL n h bl bt (aP (el (yD F (2^s) (2^t) tw (2^t))) 0 n) (aP (el tw) 0 h) (2^s*2)) a w→R a w):kF.wp prog (Exit.then R Q) a w:=by
 have hG:bO prog (qG prog) w0.heap.size w0:=(bE _).w _ _;have hT:∀n d:Nat,TabOkW prog dB w0.heap.size w0:=fun _ _=>aY.w _ _
 have hp1:0<2^s:=Nat.two_pow_pos s;have hp2:0<2^t:=Nat.two_pow_pos t;generalize 2^s=half at *;generalize 2^t=st at *;have hhn:half*st≤65536:=by
  have:half*2*st=2*(half*st):=by rw[Nat.mul_assoc,Nat.mul_left_comm]
  omega
 have hn3:n=2*h:=by rw[hn,hh,Nat.mul_comm half 2,Nat.mul_assoc]
 have hle:half≤half*st:=Nat.le_mul_of_pos_right _ hp2;have hle2:st≤half*st:=Nat.le_mul_of_pos_left _ hp1;rw[NH];refine wp_seq (aA aG hT hG (Xy n h bl bt _ _ half) ⟨bK (by omega),trivial⟩ hA fun a w hA => ?_);refine wp_seq (wp_block (wp_seq (aA aG hT hG (Xz n h bl bt _ _ half) trivial hA fun a w hA => ?_)));refine wp_block ?_;refine cH aG (fun k=>.slot 11 (.im (iI (2*half*k)))::oL n h bl bt (aP (el (yD F half st tw k)) 0 n) (aP (el tw) 0 h) half) st (fun k hk => ?_) (.ex 2) (by simp) (.slot 11 (.im (iI (2*half*st)))::oL n h bl bt (aP (el (yD F half st tw st)) 0 n) (aP (el tw) 0 h) half) ⟨_,_,_,_,hG,hT,Xx n h bl bt _ _ half _,bU (by rw[hn,Nat.mul_comm half 2]; exact Nat.le_refl _),trivial⟩ hA fun a w hA => ?_
 ·have hk1:2*half*k+2*half≤n:=by
   have h1:2*half*k+2*half=2*half*(k+1):=by rw[Nat.mul_add,Nat.mul_one]
   rw[h1,hn,Nat.mul_comm half 2];exact Nat.mul_le_mul_left _ hk
  have hk2:2*half*(k+1)=2*half*k+2*half:=by rw[Nat.mul_add,Nat.mul_one]
  show Ok _ _ _ _ _ _ _ (.slot 11 (.im (iI (2*half*(k+1))))::oL n h bl bt (aP (el (kO (yD F half st tw k) (2*half*k) (2*half*k+half) st tw half)) 0 n) _ half);rw[hk2];have hlt:=CZ (half:=half) (step:=st) (tw:=tw) hF k;generalize 2*half*k=fr at hk1 ⊢;have hC:=Jy (F:=yD F half st tw k) (tw:=tw) (N:=n) (T:=h) (lo:=fr) (h:=half) (st:=st) (by omega) (by omega) hlt htw (fun j hj=>by rw[hh]; exact (Nat.mul_lt_mul_right hp2).2 hj) (by omega);have hq:h/half=st:=by rw[hh]; exact Nat.mul_div_cancel_left _ hp1
  have oq:aC .quo .i64 (Int.ofNat h) (Int.ofNat half)=some (iI st):=by
   have:=@Dj h half hp1 (by omega);rw[hq]at this;exact this
  exact⟨_,_,_,_,Et ((UO _).add func85 (by kernel_rfl) (by kernel_rfl) hC) _ _,hT,Nq n h bl bt half fr st (yD F half st tw k) tw,
   bK (by omega),cX (by omega),by omega,by omega,by omega,cX (by omega),QG (by omega),cX (by omega),by omega,by omega,by omega,QF (by omega) (by omega),oq,hne,rfl,rfl,Nat.zero_add _,by omega,Nat.zero_add _,by omega,rfl,rfl,rfl,QG (by omega),cX (by omega),trivial⟩
 ·show (cB (cB kF)).wp _ _ _ _;exact aA aG hT hG (Ya n h bl bt _ _ half _) ⟨GV (k:=2) (by omega),trivial⟩ hA fun a w hA=>hR a w hA
theorem PK {s log:Nat} (h:s<log):2^log=2^s*2*2^(log-1-s)∧2^log/2=2^s*2^(log-1-s)∧2^log/2/2^s=2^(log-1-s):=by
 have e:log=s+1+(log-1-s):=by omega
 have h1:2^log=2^s*2*2^(log-1-s):=by
  have:2^(s+1+(log-1-s))=2^s*2*2^(log-1-s):=by rw[Nat.pow_add,Nat.pow_succ]
  rwa [←e]at this
 have h2:2^log/2=2^s*2^(log-1-s):=by
  rw[h1,Nat.mul_right_comm,Nat.mul_div_cancel _ (by omega)]
 exact⟨h1,h2,by rw[h2,Nat.mul_div_cancel_left _ (Nat.two_pow_pos s)]⟩
theorem yN {w0:World} {v:Value} {N log x:Nat} {f:Nat→Nat} (hv:LV w0 v N f) (hf:bD N f) (hl:log≤16) (hx:x<RM) :
  Calls prog 58 #[v,iI log,.agg (aB [At.q x]).toArray] w0 (fun e w'=>FR.ok ⟨aP (el (uM (oG N f log) (2^log) (gN 1 x) log)) 0 (2^log),2^log,2^log,[]⟩ w0 e w'):=by
 have hG:bO prog (qG prog) w0.heap.size w0:=(bE _).w _ _;have hT:∀n d:Nat,TabOkW prog dB w0.heap.size w0:=fun _ _=>aY.w _ _
 obtain⟨p,m,rfl,hm,h256,hmem⟩:=id hv;have hn2:2^log≤65536:=Nat.pow_le_pow_right (n:=2) (by omega) hl;refine bP func58 (cs:=[.v (.im (.slice p N m)),.v (.im (iI log)),.v (.fl [.q x])]) (args:=[.slice p N m,iI log,.agg (aB [At.q x]).toArray]) (c:=fC) rfl ⟨rfl,rfl,rfl,trivial⟩ (Nat.le_of_ble_eq_true (by kernel_rfl)) fun a w1 hA => ?_
 rw[VN];refine wp_seq (aA aG hT hG (Np p N m log x) trivial hA fun a w1 hA => ?_);refine wp_seq (aA aG hT (mL _ _ _) (No _ log x (2^log)) ⟨nN (by omega),trivial⟩ hA fun a w1 hA => ?_);obtain⟨b3,hA⟩:=hA.at (k:=3) (l:=[.c (.slice p N m)]) (by simp[GK]);obtain⟨b4,hA⟩:=hA.at (k:=4) (l:=[.c (iI log)]) (by simp[GK]);obtain⟨b5,hA⟩:=hA.at (k:=5) (l:=[.q x]) (by simp[GK]);have o3:oldOf w1 b3 0 [.c (.slice p N m)]:=hA.old (k:=3) (by simp[GK]) (by simp);have o4:oldOf w1 b4 0 [.c (iI log)]:=hA.old (k:=4) (by simp[GK]) (by simp);have o5:oldOf w1 b5 0 [.q x]:=hA.old (k:=5) (by simp[GK]) (by simp);have hF:=hA.fresh [(3,.im (aT b3 0)),(4,.im (aT b4 0)),(5,.im (aT b5 0)),(7,.im (iI (2^log)))] (fun z hz=>by
  simp only[List.mem_cons,List.not_mem_nil,or_false]at hz
  rcases hz with rfl|rfl|rfl|rfl
  ·exact hA.ptr (s:=3) (k:=3) (by simp[GK]) (by simp)
  ·exact hA.ptr (s:=4) (k:=4) (by simp[GK]) (by simp)
  ·exact hA.ptr (s:=5) (k:=5) (by simp[GK]) (by simp)
  ·exact hA.slot (v:=iI (2^log)) (by simp))
 have hb1:=hA.below;clear hA;have hlv:=hv.on hb1;have hfr:∀w',Below w1.heap.size w1 w'→FrAt prog (Lr b3 b4 (2^log) (oG N f log)) w':=fun w' hw =>
  ((FrAt.none _ _).add func30 (by kernel_rfl) (by kernel_rfl) (iY (by omega) (fun args w=>bF func82 (by kernel_rfl) (by kernel_rfl) args w) fun i hi w3 hw3 =>
   JQ ((hlv.on hw).on hw3) (by omega) (by omega) (oldOf.go (hw.trans (hw3.mono hw.size)) (Nat.le_refl _) o3) (oldOf.go (hw.trans (hw3.mono hw.size)) (Nat.le_refl _) o4))).add func84 (by kernel_rfl) (by kernel_rfl) fun cs pre r h1 h2 args ha=>IM cs pre r h1 h2 args w' ha
 refine wp_seq (aA aG (fun _ _=>aY.w _ _) (MP hfr) (Nn w1 b3 b4 b5 (2^log) (oG N f log)) ⟨rfl,rfl,trivial⟩ hF fun a w2 hA => ?_);refine wp_seq (aA aG (fun _ _=>aY.w _ _) (MP hfr) (Nm w1 b3 b4 b5 (2^log) (2^log/2) x (oG N f log) _) ⟨o5,rfl,QF (by omega) rfl,by decide,hx,by omega,trivial⟩ hA fun a w2 hA => ?_);obtain⟨bl,hA⟩:=hA.at (k:=16) (l:=aP (el (oG N f log)) 0 (2^log)) (by simp[Ff]);obtain⟨bt,hA⟩:=hA.at (k:=21) (l:=aP (el (gN 1 x)) 0 (2^log/2)) (by simp[Ff]);have hne:bt≠bl:=by
  obtain⟨β,g1,g2,_⟩:=hA.facts;have e1:=g1 (.at 21 bt) (by simp);have e2:=g1 (.at 16 bl) (by simp);have:=g2 21 16 true (aP (el (gN 1 x)) 0 (2^log/2)) (aP (el (oG N f log)) 0 (2^log)) (by simp[Ff]) (by simp[Ff]) (by omega);simp only[Fact.ok]at e1 e2;rw[e1.1,e2.1]at this;exact this
 refine wp_seq (wp_seq (aA aG (fun _ _=>aY.w _ _) ((bE _).w _ _) (Nl (2^log) (2^log/2) bl bt _ _) trivial hA fun a w2 hA => ?_));refine wp_block ?_;have hfl:bD (2^log) (oG N f log):=fun j hj=>by
  unfold oG aU;split
  ·rename_i h; exact hf _ h
  ·exact fK
 have htw:bD (2^log/2) (gN 1 x):=fun j hj=>DR (by decide) j
 refine jO (fun s a w=>Holds f58.ntmps w1.heap.size w1 (oL (2^log) (2^log/2) bl bt (aP (el (uM (oG N f log) (2^log) (gN 1 x) s)) 0 (2^log)) (aP (el (gN 1 x)) 0 (2^log/2)) (2^s)) a w) log (fun s hs a w hA R hR => ?_) (fun a w hA R => ?_) (by exact hA)
 ·obtain⟨e1,e2,e3⟩:=PK hs;have e4:uM (oG N f log) (2^log) (gN 1 x) (s+1)=yD (uM (oG N f log) (2^log) (gN 1 x) s) (2^s) (2^(log-1-s)) (gN 1 x) (2^(log-1-s)):=by
   show yD _ _ _ _ _=_;rw[e3]
  refine NG (t:=log-1-s) e1 e2 hn2 hne (pF hfl s) htw hA fun a w hA=>hR a w ?_
  rw[e4,Nat.pow_succ];exact hA
 ·rw[NH];refine wp_seq (aA aG (fun _ _=>aY.w _ _) ((bE _).w _ _) (Xw (2^log) (2^log/2) bl bt _ _ (2^log)) ⟨bU (Nat.le_refl _),trivial⟩ hA fun a w hA => ?_);show (cB (cB (cB (cB (cB fC))))).wp _ _ _ _;exact aA aG (fun _ _=>aY.w _ _) ((bE _).w _ _) (Xv (2^log) (2^log/2) bl bt _ _ (2^log)) trivial hA fun a w hA=>aX (dE (r:=⟨aP (el (uM (oG N f log) (2^log) (gN 1 x) log)) 0 (2^log),2^log,2^log,[]⟩) (by kernel_rfl) hA) fun e w h=>h.older hb1
def FL (z:Int) (b:Nat):Prop:=∃(s:Bool) (k:Nat),Ieee.double.read b=.number s (z.natAbs*2^k) (-(k:Int))∧(z=0∨s=decide (z<0))
theorem Kp:Ieee.double.signWeight=2^63:=by decide
theorem IX:Ieee.double.binade=2^52:=by decide
theorem IW:Ieee.double.infRung=2047*2^52:=by decide
theorem FD:Ieee.double.leastPlace = -1074:=by decide
theorem KB (s:Bool) {e m:Nat} (he:e<2046) (hm:m<2^52):Ieee.double.read (Ieee.double.word s ((e+1)*2^52+m))=.number s (2^52+m) (-1074+(e:Int)):=by
 have h1:(e+1)*2^52+m<2^63:=by omega
 unfold Ieee.Format.read Ieee.Format.word;simp only[Kp,IX,IW,FD];have h2:(if s=true then 2^63+((e+1)*2^52+m)else (e+1)*2^52+m)%2^63=(e+1)*2^52+m:=by cases s<;>simp<;>omega
 have h3:((if s=true then 2^63+((e+1)*2^52+m)else (e+1)*2^52+m)/2^63%2==1)=s:=by cases s<;>simp<;>omega
 rw[h2,h3,if_neg (by omega),if_pos (by omega)];have h4:((e+1)*2^52+m)%2^52=m:=by omega
 have h5:((e+1)*2^52+m)/2^52-1=e:=by omega
 rw[h4,h5]
theorem KA (s:Bool):Ieee.double.read (Ieee.double.word s 0)=.number s 0 (-1074):=by
 cases s<;>decide
theorem FL.write {s:Bool} {z:Int} {k:Nat} (hz:z.natAbs<2^53) (hs:z=0∨s=decide (z<0)):FL z (Ieee.double.write (.number s (z.natAbs*2^k) (-(k:Int)))):=by
 by_cases h0:z=0
 ·subst h0;refine⟨s,1074,?_,Or.inl rfl⟩;show Ieee.double.read (Ieee.double.nearest s (0*2^k) _)=_;unfold Ieee.Format.nearest;rw[Nat.zero_mul,if_pos rfl,KA];have e:∀n:Nat,(0:Int).natAbs*n=0:=fun n=>Nat.zero_mul n
  rw[e]<;>rfl
 ·have hn:z.natAbs≠0:=by omega
  obtain⟨L,hL1,hL2⟩:∃L,2^L≤z.natAbs∧z.natAbs<2^(L+1):=⟨z.natAbs.log2,Nat.log2_self_le hn,Nat.lt_log2_self⟩
  have hL:L≤52:=by
   rcases Nat.lt_or_ge 52 L with h|h
   ·have:=Nat.pow_le_pow_right (n:=2) (by omega) (show 53≤L by omega);omega
   ·exact h
  have hpos:z.natAbs*2^k≠0:=Nat.mul_ne_zero hn (Nat.pos_iff_ne_zero.1 (Nat.two_pow_pos k));have hlog:(z.natAbs*2^k).log2=L+k:=by
   refine (Nat.log2_eq_iff hpos).2 ⟨?_,?_⟩
   ·rw[Nat.pow_add]; exact Nat.mul_le_mul_right _ hL1
   ·rw[show L+k+1=(L+1)+k by omega,Nat.pow_add]; exact (Nat.mul_lt_mul_right (Nat.two_pow_pos k)).2 hL2
  have hkept:Ieee.Toward.even.cut s ((z.natAbs*2^k) <<< (-(k:Int)-((L:Int)-52)).toNat) (((L:Int)-52) - -(k:Int)).toNat=z.natAbs*2^(52-L):=by
   rcases Nat.lt_or_ge (52-L) k with h|h
   ·
    have e1:(-(k:Int)-((L:Int)-52)).toNat=0:=by omega
    have e2:(((L:Int)-52) - -(k:Int)).toNat=k-(52-L):=by omega
    rw[e1,e2,Nat.shiftLeft_zero];have e3:z.natAbs*2^k=z.natAbs*2^(52-L)*2^(k-(52-L)):=by rw[Nat.mul_assoc,←Nat.pow_add,show 52-L+(k-(52-L))=k by omega]
    unfold Ieee.Toward.cut;have e4:min (k-(52-L)) ((z.natAbs*2^k).log2+2)=k-(52-L):=by rw[hlog]; omega
    simp only[e4,Nat.one_shiftLeft];have e5:z.natAbs*2^k/2^(k-(52-L))=z.natAbs*2^(52-L):=by rw[e3,Nat.mul_div_cancel _ (Nat.two_pow_pos _)]
    have e6:z.natAbs*2^k%2^(k-(52-L))=0:=by rw[e3,Nat.mul_mod_left]
    rw[e5,e6];have hg:=Nat.two_pow_pos (k-(52-L));have e7:decide (2^(k-(52-L))<2*0)=false:=decide_eq_false (by omega);have e8:(2^(k-(52-L))==2*0)=false:=by rw[beq_eq_false_iff_ne]; omega
    rw[e7,e8];rfl
   ·have e1:(-(k:Int)-((L:Int)-52)).toNat=52-L-k:=by omega
    have e2:(((L:Int)-52) - -(k:Int)).toNat=0:=by omega
    rw[e1,e2,Nat.shiftLeft_eq,Nat.mul_assoc,←Nat.pow_add,show k+(52-L-k)=52-L by omega];unfold Ieee.Toward.cut;simp[Nat.mod_one]
  have hk1:2^52≤z.natAbs*2^(52-L):=by
   have:=Nat.mul_le_mul_right (2^(52-L)) hL1
   rwa [←Nat.pow_add,show L+(52-L)=52 by omega]at this
  have hk2:z.natAbs*2^(52-L)<2^53:=by
   have:=(Nat.mul_lt_mul_right (Nat.two_pow_pos (52-L))).2 hL2
   rwa [←Nat.pow_add,show L+1+(52-L)=53 by omega]at this
  refine⟨s,52-L,?_,Or.inr (hs.resolve_left h0)⟩;show Ieee.double.read (Ieee.double.nearest s (z.natAbs*2^k) (-(k:Int)))=_;unfold Ieee.Format.nearest;rw[if_neg hpos];have hfb:((Ieee.double.fractionBits:Nat):Int)=52:=rfl;have elast:max (-(k:Int)+((z.natAbs*2^k).log2:Int)-(Ieee.double.fractionBits:Int)) Ieee.double.leastPlace=(L:Int)-52:=by
   rw[hlog,hfb,FD]; omega
  simp only[elast];rw[hkept,FD,IX,IW];generalize z.natAbs*2^(52-L)=K at hk1 hk2 ⊢;have e9:((L:Int)-52 - -1074).toNat=L+1022:=by omega
  rw[e9];have hB:(2:Nat)^53=2*2^52:=by rw[Nat.pow_succ,Nat.mul_comm]
  rw[hB]at hk2;have hr:=KB s (e:=L+1022) (m:=K-2^52) (by omega);generalize (2:Nat)^52=B at hk1 hk2 hr ⊢;have hr:=hr (by omega);have Md:(L+1022)*B≤1074*B:=Nat.mul_le_mul_right _ (by omega);have e13:(L+1022)*B+K≤2047*B:=by omega
  have e14:(L+1022+1)*B=(L+1022)*B+B:=by rw[Nat.add_mul _ 1,Nat.one_mul]
  have e10:min ((L+1022)*B+K) (2047*B)=(L+1022+1)*B+(K-B):=by rw[Nat.min_eq_left e13,e14]; omega
  rw[e10,hr];have e11:B+(K-B)=K:=by omega
  rw[e11];congr 1;omega
theorem oO {s:Bool} {z:Int} {k K:Nat} (hk:k≤K) (hs:z=0∨s=decide (z<0)):Ieee.signed s (z.natAbs*2^k) (K-k)=z*(2^K:Nat):=by
 have e:(z.natAbs*2^k) <<< (K-k)=z.natAbs*2^K:=by rw[Nat.shiftLeft_eq,Nat.mul_assoc,←Nat.pow_add,show k+(K-k)=K by omega]
 unfold Ieee.signed;rw[e];generalize 2^K=B
 rcases hs with rfl|rfl
 ·cases s<;>simp
 ·by_cases h:z<0
  ·rw[decide_eq_true h,if_pos rfl];have:((z.natAbs*B:Nat):Int) = -z*(B:Int):=by rw[Int.natCast_mul,show ((z.natAbs:Nat):Int) = -z by omega]
   rw[this,Int.neg_mul,Int.neg_neg]
  ·rw[decide_eq_false h,if_neg (by simp)];rw[Int.natCast_mul,show ((z.natAbs:Nat):Int)=z by omega]
theorem FL.sum {z y:Int} {s t:Bool} {k l:Nat} (hs:z=0∨s=decide (z<0)) (ht:y=0∨t=decide (y<0)) (hb:(z+y).natAbs<2^53):∃d,Ieee.Datum.sum (.number s (z.natAbs*2^k) (-(k:Int))) (.number t (y.natAbs*2^l) (-(l:Int)))=some d∧FL (z+y) (Ieee.double.write d):=by
 have ebase:min (-(k:Int)) (-(l:Int)) = -((max k l:Nat):Int):=by omega
 have e1:(-(k:Int) - -((max k l:Nat):Int)).toNat=max k l-k:=by omega
 have e2:(-(l:Int) - -((max k l:Nat):Int)).toNat=max k l-l:=by omega
 refine⟨_,rfl,?_⟩;simp only[ebase,e1,e2,oO (Nat.le_max_left k l) hs,oO (Nat.le_max_right k l) ht];rw[←Int.add_mul];have hp:0<2^(max k l):=Nat.two_pow_pos _;have ea:((z+y)*((2^(max k l):Nat):Int)).natAbs=(z+y).natAbs*2^(max k l):=by rw[Int.natAbs_mul,Int.natAbs_natCast]
 rw[ea];refine FL.write hb ?_
 by_cases h0:z+y=0
 ·exact Or.inl h0
 ·right;have hB:(0:Int)<((2^(max k l):Nat):Int):=by omega
  have hne:(z+y)*((2^(max k l):Nat):Int)≠0:=Int.mul_ne_zero h0 (by omega);rw[if_neg hne];congr 1;exact propext ⟨fun h=>by
   rcases (show z+y<0∨0≤z+y by omega)with q|q
   ·exact q
   ·exact absurd h (Int.not_lt.2 (Int.mul_nonneg q (Int.le_of_lt hB))),fun h=>Int.mul_neg_of_neg_of_pos h hB⟩
theorem FL.add {z y:Int} {a b:Nat} (h1:FL z a) (h2:FL y b) (hb:(z+y).natAbs<2^53):∃r,floatBits .add .f64 a b=some r∧FL (z+y) r:=by
 obtain⟨s,k,e1,hs⟩:=h1;obtain⟨t,l,e2,ht⟩:=h2;obtain⟨d,hd,hf⟩:=FL.sum (k:=k) (l:=l) hs ht hb;refine⟨_,?_,hf⟩;show ((Ieee.double.read a).sum (Ieee.double.read b)).map Ieee.double.write=_;rw[e1,e2,hd];rfl
theorem FL.sub {z y:Int} {a b:Nat} (h1:FL z a) (h2:FL y b) (hb:(z-y).natAbs<2^53):∃r,floatBits .sub .f64 a b=some r∧FL (z-y) r:=by
 obtain⟨s,k,e1,hs⟩:=h1;obtain⟨t,l,e2,ht⟩:=h2;have ht2 : -y=0∨(!t)=decide (-y<0):=by
  by_cases h0:y=0
  ·left; omega
  ·right;rw[ht.resolve_left h0]
   by_cases h:y<0
   ·rw[decide_eq_true h,decide_eq_false (by omega)]; rfl
   ·rw[decide_eq_false h,decide_eq_true (by omega)]; rfl
 obtain⟨d,hd,hf⟩:=FL.sum (k:=k) (l:=l) hs ht2 (by rw[←Int.sub_eq_add_neg]; exact hb);rw[←Int.sub_eq_add_neg]at hf;refine⟨_,?_,hf⟩;show ((Ieee.double.read a).sum (Ieee.double.read b).opposite).map Ieee.double.write=_;rw[e1,e2];rw[Int.natAbs_neg]at hd;show (Ieee.Datum.sum _ (.number (!t) _ _)).map Ieee.double.write=_;rw[hd];rfl
theorem FL.mul {z y:Int} {a b:Nat} (h1:FL z a) (h2:FL y b) (hb:(z*y).natAbs<2^53):∃r,floatBits .mul .f64 a b=some r∧FL (z*y) r:=by
 obtain⟨s,k,e1,hs⟩:=h1;obtain⟨t,l,e2,ht⟩:=h2;refine⟨Ieee.double.write (.number (s ^^ t) ((z*y).natAbs*2^(k+l)) (-((k+l:Nat):Int))),?_,FL.write hb ?_⟩
 ·show ((Ieee.double.read a).product (Ieee.double.read b)).map Ieee.double.write=_;rw[e1,e2];show some (Ieee.double.write (.number (s ^^ t) (z.natAbs*2^k*(y.natAbs*2^l)) (-(k:Int) + -(l:Int))))=_;have e3:z.natAbs*2^k*(y.natAbs*2^l)=(z*y).natAbs*2^(k+l):=by rw[Int.natAbs_mul,Nat.pow_add,Nat.mul_mul_mul_comm]
  have e4 : -(k:Int) + -(l:Int) = -((k+l:Nat):Int):=by omega
  rw[e3,e4]
 ·by_cases h0:z=0
  ·left; rw[h0,Int.zero_mul]
  ·by_cases h3:y=0
   ·left; rw[h3,Int.mul_zero]
   ·right;rw[hs.resolve_left h0,ht.resolve_left h3]
    rcases (show z<0∨0≤z by omega)with q|q<;>rcases (show y<0∨0≤y by omega)with q'|q'
    ·rw[decide_eq_true q,decide_eq_true q',decide_eq_false (Int.not_lt.2 (Int.le_of_lt (Int.mul_pos_of_neg_of_neg q q')))]; rfl
    ·rw[decide_eq_true q,decide_eq_false (Int.not_lt.2 q'),decide_eq_true (Int.mul_neg_of_neg_of_pos q (by omega))]; rfl
    ·rw[decide_eq_false (Int.not_lt.2 q),decide_eq_true q',decide_eq_true (Int.mul_neg_of_pos_of_neg (by omega) q')]; rfl
    ·rw[decide_eq_false (Int.not_lt.2 q),decide_eq_false (Int.not_lt.2 q'),decide_eq_false (Int.not_lt.2 (Int.mul_nonneg q q'))]; rfl
theorem FL.ofInt {z:Int} (hz:z.natAbs<2^53):FL z (floatOfInt .f64 z):=by
 have:=FL.write (s:=decide (z<0)) (z:=z) (k:=0) hz (Or.inr rfl);rw[Nat.pow_zero,Nat.mul_one]at this;exact this
theorem FL.toInt {z:Int} {b:Nat} (h:FL z b) (hz:z.natAbs<2^53):floatToIntVal .f64 b .i64=some z:=by
 obtain⟨s,k,e1,hs⟩:=h;have hc:(FloatKind.f64.decode b).toInt .zero=some z:=by
  show (Ieee.double.read b).toInt .zero=_;rw[e1];show some (Ieee.signed s (Ieee.Toward.zero.cut s ((z.natAbs*2^k) <<< (-(k:Int)).toNat) (- -(k:Int)).toNat) 0)=_;have q1:(-(k:Int)).toNat=0:=by omega
  have q2:(- -(k:Int)).toNat=k:=by omega
  rw[q1,q2,Nat.shiftLeft_zero];have hcut:Ieee.Toward.zero.cut s (z.natAbs*2^k) k=z.natAbs:=by
   unfold Ieee.Toward.cut
   by_cases h0:z.natAbs=0
   ·rw[h0]; simp
   ·have hpos:z.natAbs*2^k≠0:=Nat.mul_ne_zero h0 (Nat.pos_iff_ne_zero.1 (Nat.two_pow_pos k));have hle:k≤(z.natAbs*2^k).log2:=(Nat.le_log2 hpos).2 (Nat.le_mul_of_pos_left _ (by omega));have e4:min k ((z.natAbs*2^k).log2+2)=k:=by omega
    simp only[e4,Nat.one_shiftLeft];rw[Nat.mul_div_cancel _ (Nat.two_pow_pos k)];rfl
  rw[hcut];have:=oO (s:=s) (z:=z) (k:=0) (K:=0) (Nat.le_refl 0) hs;simp at this;rw[this]
 unfold floatToIntVal;rw[hc];have h1:IntKind.i64.min = -9223372036854775808:=rfl;have h2:IntKind.i64.max=9223372036854775807:=rfl;simp only[h1,h2];rw[if_pos (by omega)]
theorem FL.cmul {n c d:Int} {a e c' d':Nat} (h:FL n a) (he:FL 0 e) (hc:FL c c') (hd:FL d d') (hb1:(n*c).natAbs<2^53) (hb2:(n*d).natAbs<2^53):∃x y,cMulBits a e c' d'=some (x,y)∧FL (n*c) x∧FL (n*d) y:=by
 obtain⟨r1,q1,f1⟩:=FL.mul h hc hb1;obtain⟨r2,q2,f2⟩:=FL.mul he hd (by rw[Int.zero_mul]; decide);rw[Int.zero_mul]at f2;obtain⟨x,q3,f3⟩:=FL.sub f1 f2 (by rw[Int.sub_zero]; exact hb1);rw[Int.sub_zero]at f3;obtain⟨r4,q4,f4⟩:=FL.mul h hd hb2;obtain⟨r5,q5,f5⟩:=FL.mul he hc (by rw[Int.zero_mul]; decide);rw[Int.zero_mul]at f5;obtain⟨y,q6,f6⟩:=FL.add f4 f5 (by rw[Int.add_zero]; exact hb2);rw[Int.add_zero]at f6;refine⟨x,y,?_,f3,f6⟩;unfold cMulBits;simp[q1,q2,q3,q4,q5,q6]
theorem FL.csum {a b c d:Int} {a' b' c' d':Nat} (h1:FL a a') (h2:FL b b') (h3:FL c c') (h4:FL d d') (hb1:(a+c).natAbs<2^53) (hb2:(b+d).natAbs<2^53):∃x y,cSumBits .add .f64 a' b' c' d'=some (x,y)∧FL (a+c) x∧FL (b+d) y:=by
 obtain⟨x,q1,f1⟩:=FL.add h1 h3 hb1;obtain⟨y,q2,f2⟩:=FL.add h2 h4 hb2;refine⟨x,y,?_,f1,f2⟩;unfold cSumBits;simp[q1,q2]
def iV (z:Int):Value:=.int .i64 z
def cV (c:Nat×Nat):Value:=.complex .f64 c.1 c.2
def x4 (X:Nat→Int):List At:=[.c (iV (X 0)),.c (iV (X 1)),.c (iV (X 2)),.c (iV (X 3))]
theorem GA {X:Nat→Int} {i:Nat} (h:i<4):cellAt (x4 X) i=some (iV (X i)):=by
 match i,h with
 | 0,_=>rfl
 | 1,_=>rfl
 | 2,_=>rfl
 | 3,_=>rfl
theorem Eu {X:Nat→Int} {i:Nat} {z:Int} (h:i<4):put (x4 X) (0+i*1) [.c (iV z)]=some (x4 fun j=>if j=i then z else X j):=by
 match i,h with
 | 0,_=>rfl
 | 1,_=>rfl
 | 2,_=>rfl
 | 3,_=>rfl
def NB (m:Nat):Nat×Nat:=if m=0 then (4607182418800017408,0)else if m=1 then (0,13830554455654793216)else if m=2 then (13830554455654793216,0)else (0,4607182418800017408)
def Xs:List At:=[.c (cV (NB 0)),.c (cV (NB 1)),.c (cV (NB 2)),.c (cV (NB 3))]
theorem Na {m:Nat} (h:m<4):cellAt Xs (0+m*1)=some (cV (NB m)):=by
 match m,h with
 | 0,_=>rfl
 | 1,_=>rfl
 | 2,_=>rfl
 | 3,_=>rfl
def tF:Code:=(f40.body).getD .skip
def Ax:Code:=cB tF
def AU:Code:=fY (fY (cB (cA Ax)))
def Aw:Code:=cB Ax
def Av:Code:=cB Aw
def AW:Code:=cB Av
def kI:Code:=fY (fY (cB (cA AW)))
def mP:Code:=fY (cA (cB (cB kI)))
def Au:Code:=fY (fY (cB (cA (cB (cB mP)))))
theorem As:tF=.seq (cA tF) (.seq (.seq (cA (cA Ax)) (.block 0 (.loop AU))) (.seq (cA Aw) (.seq (cA Av) (.seq (.seq (cA (cA AW)) (.block 2 (.loop kI))) (cB AW))))):=by kernel_rfl
theorem SF:kI=.seq (cA kI) (.seq (cA (cB kI)) (.seq (.block 3 (.seq (cA mP) (.seq (cA (cB mP)) (.seq (.seq (cA (cA (cB (cB mP)))) (.block 4 (.loop Au))) (cB (cB (cB mP))))))) (cB (cB (cB kI))))):=by kernel_rfl
def z4:Nat→Int:=fun _=>0
def Ay (X:Nat→Int):List Fact:=[.slot 1 (.pt 1 0),.row 1 true (x4 X),.slot 2 (.pt 2 0),.row 2 true (x4 z4),.slot 3 (.pt 3 0),.row 3 true (x4 z4)]
theorem Tj (X:Nat→Int):aH prog (qG prog) f40.ntmps (cF fun _=>none) 40 (cA tF) (dX 0 [.v (.fl (x4 X))]) (Ay X)=some ([],.nrm,Ay X):=by kernel_rfl
def IR (X:Nat→Int) (i:Nat):List Fact:=.slot 14 (.fl (x4 X)) :: .slot 15 (.im (iI i))::Ay X
theorem Ti (X:Nat→Int):aH prog (qG prog) f40.ntmps (cF fun _=>none) 40 (cA (cA Ax)) (Ay X) (IR X 0)=some ([],.nrm,IR X 0):=by kernel_rfl
theorem Tk (X:Nat→Int) (i:Nat) (z:Int):aH prog { qG prog with x:=xG (aE [(17,iV z)]) } f40.ntmps (cF (aE [(16,.bool true),(19,.bool false),(22,.bool false),(26,iI (i+1))])) 40 AU (IR X i) (IR X (i+1))=some ([aC .lss .i64 (Int.ofNat i) 4=some (.bool true),i<4,cellAt (x4 X) i=some (iV z),aC .lss .i64 z (-1099511627776)=some (.bool false),aC .gtr .i64 z 1099511627776=some (.bool false),aC .add .i64 (Int.ofNat i) 1=some (iI (i+1))],.nrm,IR X (i+1)):=by kernel_rfl
def Ec (re im:Nat→Int) (e:Int):List Fact:=[.slot 2 (.pt 2 0),.row 2 true (x4 re),.slot 3 (.pt 3 0),.row 3 true (x4 im),.slot 4 (.im (iV e))]
theorem Tw (X:Nat→Int) (i:Nat) (z:Int):aH prog { qG prog with x:=xG (aE [(17,iV z)]) } f40.ntmps (cF (aE [(16,.bool true),(19,.bool true)])) 40 AU (IR X i) (Ec z4 z4 4)=some ([aC .lss .i64 (Int.ofNat i) 4=some (.bool true),i<4,cellAt (x4 X) i=some (iV z),aC .lss .i64 z (-1099511627776)=some (.bool true)],.rt,Ec z4 z4 4):=by kernel_rfl
theorem Tv (X:Nat→Int) (i:Nat) (z:Int):aH prog { qG prog with x:=xG (aE [(17,iV z)]) } f40.ntmps (cF (aE [(16,.bool true),(19,.bool false),(22,.bool true)])) 40 AU (IR X i) (Ec z4 z4 4)=some ([aC .lss .i64 (Int.ofNat i) 4=some (.bool true),i<4,cellAt (x4 X) i=some (iV z),aC .lss .i64 z (-1099511627776)=some (.bool false),aC .gtr .i64 z 1099511627776=some (.bool true)],.rt,Ec z4 z4 4):=by kernel_rfl
theorem Tt (X:Nat→Int) (i:Nat):aH prog (qG prog) f40.ntmps (cF (aE [(16,.bool false)])) 40 AU (IR X i) (Ay X)=some ([aC .lss .i64 (Int.ofNat i) 4=some (.bool false)],.ex 0,Ay X):=by kernel_rfl
def Xe (X:Nat→Int):List Fact:=.slot 7 (.pt 7 0) :: .row 7 true Xs::Ay X
theorem Th (X:Nat→Int):aH prog (qG prog) f40.ntmps (cF fun _=>none) 40 (cA Aw) (Ay X) (Xe X)=some ([],.nrm,Xe X):=by kernel_rfl
def Xd (X re im:Nat→Int):List Fact:=.slot 8 (.pt 8 0) :: .row 8 true (x4 re) :: .slot 9 (.pt 9 0) :: .row 9 true (x4 im)::Xe X
theorem Tg (X:Nat→Int):aH prog (qG prog) f40.ntmps (cF fun _=>none) 40 (cA Av) (Xe X) (Xd X z4 z4)=some ([],.nrm,Xd X z4 z4):=by kernel_rfl
def pU (X re im:Nat→Int) (j:Nat):List Fact:=.slot 28 (.im (iI j))::Xd X re im
theorem Tf (X re im:Nat→Int):aH prog (qG prog) f40.ntmps (cF fun _=>none) 40 (cA (cA AW)) (Xd X re im) (pU X re im 0)=some ([],.nrm,pU X re im 0):=by kernel_rfl
theorem Tu (X re im:Nat→Int) (j:Nat) (c:Bool):aH prog (qG prog) f40.ntmps (cF (aE [(29,.bool c)])) 40 (cA kI) (pU X re im j) (.slot 29 (.im (.bool c))::pU X re im j)=some ([aC .lss .i64 (Int.ofNat j) 4=some (.bool c)],.nrm,.slot 29 (.im (.bool c))::pU X re im j):=by kernel_rfl
def MK (X re im:Nat→Int) (j:Nat) (S:Nat×Nat) (k:Nat):List Fact:=.slot 10 (.im (iI j)) :: .slot 11 (.im (cV S)) :: .slot 31 (.fl (x4 X)) :: .slot 32 (.im (iI k))::pU X re im j
theorem Tq (X re im:Nat→Int) (j:Nat):aH prog (qG prog) f40.ntmps (cF fun _=>none) 40 (cA mP) (pU X re im j) (.slot 10 (.im (iI j))::pU X re im j)=some ([],.nrm,.slot 10 (.im (iI j))::pU X re im j):=by kernel_rfl
theorem Tp (X re im:Nat→Int) (j:Nat):aH prog (qG prog) f40.ntmps (cF fun _=>none) 40 (cA (cB mP)) (.slot 10 (.im (iI j))::pU X re im j) (.slot 10 (.im (iI j)) :: .slot 11 (.im (cV (0,0)))::pU X re im j)=some ([],.nrm,.slot 10 (.im (iI j)) :: .slot 11 (.im (cV (0,0)))::pU X re im j):=by kernel_rfl
theorem To (X re im:Nat→Int) (j:Nat):aH prog (qG prog) f40.ntmps (cF fun _=>none) 40 (cA (cA (cB (cB mP)))) (.slot 10 (.im (iI j)) :: .slot 11 (.im (cV (0,0)))::pU X re im j) (MK X re im j (0,0) 0)=some ([],.nrm,MK X re im j (0,0) 0):=by kernel_rfl
theorem Tr (X re im:Nat→Int) (j k m fb:Nat) (z:Int) (S P S':Nat×Nat):aH prog { qG prog with x:=xA (aE [(44,m)]) (fun _=>none) (fun _=>none) (aE [(35,iV z),(38,.float .f64 fb),(39,cV (fb,0)),(45,cV (NB m)),(46,cV P),(47,cV S')]) } f40.ntmps (cF (aE [(33,.bool true),(42,iI (j*k)),(43,iI m),(48,iI (k+1))])) 60 Au (MK X re im j S k) (MK X re im j S' (k+1)) =
  some ([aC .lss .i64 (Int.ofNat k) 4=some (.bool true),k<4,cellAt (x4 X) k=some (iV z),∀w:World,(convert 3 81 (iV z)).run prog w=.ok (.float .f64 fb) w,∀w:World,(Builtin.complex_ #[] 0 #[.float .f64 fb,.float .f64 0]).run prog w=.ok (cV (fb,0)) w,aC .mul .i64 (Int.ofNat j) (Int.ofNat k)=some (iI (j*k)),aC .rem .i64 (Int.ofNat (j*k)) 4=some (iI m),Int.ofNat m=Int.ofNat m,m<4,cellAt Xs (0+m*1)=some (cV (NB m)),dY .mul 79 (.tmp 39) (.tmp 45) (cV (fb,0)) (cV (NB m)) (cV P),dY .add 79 (.tmp 36) (.tmp 46) (cV S) (cV P) (cV S'),aC .add .i64 (Int.ofNat k) 1=some (iI (k+1))],.nrm,MK X re im j S' (k+1)):=by kernel_rfl
theorem Ts (X re im:Nat→Int) (j:Nat) (S:Nat×Nat) (k:Nat):aH prog (qG prog) f40.ntmps (cF (aE [(33,.bool false)])) 60 Au (MK X re im j S k) (MK X re im j S k)=some ([aC .lss .i64 (Int.ofNat k) 4=some (.bool false)],.ex 4,MK X re im j S k):=by kernel_rfl
theorem Tn (X re im re' im':Nat→Int) (j:Nat) (S:Nat×Nat) (k:Nat) (a b:Int):aH prog { qG prog with x:=xA (aE [(57,j),(58,j)]) (fun _=>none) (aE [(57,x4 re'),(58,x4 im')]) (aE [(52,.float .f64 S.1),(53,iV a),(55,.float .f64 S.2),(56,iV b)]) } f40.ntmps (cF fun _=>none) 60 (cB (cB (cB mP))) (MK X re im j S k) (pU X re' im' j) =
  some ([∀w:World,(Builtin.real_ #[] 0 #[cV S]).run prog w=.ok (.float .f64 S.1) w,∀w:World,(convert 81 3 (.float .f64 S.1)).run prog w=.ok (iV a) w,∀w:World,(Builtin.imag_ #[] 0 #[cV S]).run prog w=.ok (.float .f64 S.2) w,∀w:World,(convert 81 3 (.float .f64 S.2)).run prog w=.ok (iV b) w,Int.ofNat j=Int.ofNat j,j<4,put (x4 re) (0+j*1) [.c (iV a)]=some (x4 re'),Int.ofNat j=Int.ofNat j,j<4,put (x4 im) (0+j*1) [.c (iV b)]=some (x4 im')],.nrm,pU X re' im' j):=by kernel_rfl
theorem Tm (X re im:Nat→Int) (j:Nat):aH prog (qG prog) f40.ntmps (cF (aE [(59,iI (j+1))])) 60 (cB (cB (cB kI))) (pU X re im j) (pU X re im (j+1))=some ([aC .add .i64 (Int.ofNat j) 1=some (iI (j+1))],.nrm,pU X re im (j+1)):=by kernel_rfl
theorem Zu (X re im:Nat→Int) (j:Nat):aH prog (qG prog) f40.ntmps (cF fun _=>none) 40 (cA (cB kI)) (.slot 29 (.im (.bool false))::pU X re im j) (pU X re im j)=some ([],.ex 2,pU X re im j):=by kernel_rfl
theorem Tl (X re im:Nat→Int) (j:Nat):aH prog (qG prog) f40.ntmps (cF fun _=>none) 40 (cA (cB kI)) (.slot 29 (.im (.bool true))::pU X re im j) (pU X re im j)=some ([],.nrm,pU X re im j):=by kernel_rfl
theorem Zt (X re im:Nat→Int) (j:Nat):aH prog (qG prog) f40.ntmps (cF fun _=>none) 40 (cB AW) (pU X re im j) (Ec re im 0)=some ([],.rt,Ec re im 0):=by kernel_rfl
def BL (m:Nat):Int:=if m=0 then 1 else if m=2 then -1 else 0
def CG (m:Nat):Int:=if m=1 then -1 else if m=3 then 1 else 0
def qB (c:Nat→Int) (X:Nat→Int) (j:Nat):Nat→Int
 | 0=>0
 | k+1=>qB c X j k+X k*c (j*k%4)
theorem flR:∀m,FL (BL m) (NB m).1:=fun m=>by
 have h1:FL 1 4607182418800017408:=FL.ofInt (z:=1) (by decide);have h2:FL (-1) 13830554455654793216:=FL.ofInt (z:=-1) (by decide);have h3:FL 0 0:=FL.ofInt (z:=0) (by decide);unfold BL NB
 by_cases e0:m=0
 ·rw[if_pos e0,if_pos e0]; exact h1
 ·rw[if_neg e0,if_neg e0]
  by_cases e1:m=1
  ·rw[if_pos e1,if_neg (by omega)]; exact h3
  ·rw[if_neg e1]
   by_cases e2:m=2
   ·rw[if_pos e2,if_pos e2]; exact h2
   ·rw[if_neg e2,if_neg e2]; exact h3
theorem flI:∀m,m<4→FL (CG m) (NB m).2:=fun m hm=>by
 have h1:FL 1 4607182418800017408:=FL.ofInt (z:=1) (by decide);have h2:FL (-1) 13830554455654793216:=FL.ofInt (z:=-1) (by decide);have h3:FL 0 0:=FL.ofInt (z:=0) (by decide)
 match m,hm with
 | 0,_=>exact h3
 | 1,_=>exact h2
 | 2,_=>exact h3
 | 3,_=>exact h1
theorem TO (m:Nat) (z:Int) (h:z.natAbs≤1099511627776):(z*BL m).natAbs≤1099511627776:=by
 unfold BL;split
 ·rw[Int.mul_one]; exact h
 ·split
  ·rw[Int.mul_neg,Int.mul_one,Int.natAbs_neg]; exact h
  ·rw[Int.mul_zero]; decide
theorem TP (m:Nat) (z:Int) (h:z.natAbs≤1099511627776):(z*CG m).natAbs≤1099511627776:=by
 unfold CG;split
 ·rw[Int.mul_neg,Int.mul_one,Int.natAbs_neg]; exact h
 ·split
  ·rw[Int.mul_one]; exact h
  ·rw[Int.mul_zero]; decide
theorem yR {c:Nat→Int} {X:Nat→Int} {j:Nat} (hc:∀m z,z.natAbs≤1099511627776→(z*c m).natAbs≤1099511627776) (hX:∀k,k<4→(X k).natAbs≤1099511627776):∀k,k≤4→(qB c X j k).natAbs≤k*1099511627776
 | 0,_=>by show (0:Int).natAbs≤0*_; simp
 | k+1,h=>by
  have h1:=yR hc hX (j:=j) k (by omega);have h2:=hc (j*k%4) (X k) (hX k (by omega));show (qB c X j k+X k*c (j*k%4)).natAbs≤_;omega
def wK (X:Nat→Int):Prop:=∀k,k<4 → -1099511627776≤X k∧X k≤1099511627776
instance (X:Nat→Int):Decidable (wK X):=Nat.decidableBallLT 4 fun k _ => -1099511627776≤X k∧X k≤1099511627776
theorem RG {a b:Int}:aC .lss .i64 a b=some (.bool (decide (a<b))):=rfl
theorem Du {a b:Int}:aC .gtr .i64 a b=some (.bool (decide (a>b))):=rfl
theorem sO {i:Nat} (h:i<4):aC .lss .i64 (Int.ofNat i) 4=some (.bool true):=bK (n:=4) h
theorem EJ {i:Nat} (h:4≤i):aC .lss .i64 (Int.ofNat i) 4=some (.bool false):=bU (n:=4) h
theorem Hq {i:Nat}:aC .rem .i64 (Int.ofNat i) 4=some (iI (i%4)):=by
 show (if (4:Int)=0 then none else some (Value.int .i64 ((Int.ofNat i).tmod 4)))=_;rw[if_neg (by decide)];rfl
theorem Zy {z:Int} (w:World):(convert 3 81 (iV z)).run prog w=.ok (.float .f64 (floatOfInt .f64 z)) w:=by
 exact run_convert_int_float w 3 81 .i64 .f64 z (by kernel_rfl) (by kernel_rfl)
theorem Ul {z:Int} {b:Nat} (h:FL z b) (hz:z.natAbs<2^53) (w:World):(convert 81 3 (.float .f64 b)).run prog w=.ok (iV z) w :=
 run_convert_float_int w 81 3 .f64 .i64 b z (by kernel_rfl) (by kernel_rfl) (h.toInt hz)
theorem VV (t:Nat) (x y:Operand) {a b c:Nat×Nat} (h:cMulBits a.1 a.2 b.1 b.2=some c):dY .mul t x y (cV a) (cV b) (cV c):=fun w=>by
 have:=run_complex_mul (P:=prog) w t a.1 a.2 b.1 b.2 c.1 c.2 h;simp[eqGuard,cV,this]
theorem VW (t:Nat) (x y:Operand) {a b c:Nat×Nat} (h:cSumBits .add .f64 a.1 a.2 b.1 b.2=some c):dY .add t x y (cV a) (cV b) (cV c):=fun w=>by
 have:=run_complex_sum (P:=prog) w .add (Or.inl rfl) t .f64 a.1 a.2 b.1 b.2 c.1 c.2 h;simp[eqGuard,cV,this]
theorem Ki {w0:World} {X re im:Nat→Int} {j:Nat} {Q:Exit→Act→World→Prop} (hj:j<4) (hX:∀k,k<4→(X k).natAbs≤1099511627776) {a:Act} {w:World} (hA:Holds f40.ntmps w0.heap.size w0 (MK X re im j (0,0) 0) a w)
  (hQ:∀S a w,FL (qB BL X j 4) S.1→FL (qB CG X j 4) S.2→Holds f40.ntmps w0.heap.size w0 (MK X re im j S 4) a w→Q (.exit 4) a w):(Code.loop Au).wp prog Q a w:=by
 have hG:bO prog (qG prog) w0.heap.size w0:=(bE _).w _ _;have hT:∀n d:Nat,TabOkW prog dB w0.heap.size w0:=fun _ _=>aY.w _ _
 refine jO (fun k a w=>∃S:Nat×Nat,FL (qB BL X j k) S.1∧FL (qB CG X j k) S.2∧Holds f40.ntmps w0.heap.size w0 (MK X re im j S k) a w) 4 (fun k hk a w hI R hR => ?_) (fun a w hI R => ?_) ⟨(0,0),FL.ofInt (z:=0) (by decide),FL.ofInt (z:=0) (by decide),hA⟩
 ·obtain⟨S,f1,f2,hA⟩:=hI;have hz:=hX k hk;have hm:j*k%4<4:=Nat.mod_lt _ (by omega);have b1:=TO (j*k%4) (X k) hz;have b2:=TP (j*k%4) (X k) hz;have s1:=yR (c:=BL) TO hX (j:=j) (k+1) (by omega);have s2:=yR (c:=CG) TP hX (j:=j) (k+1) (by omega);obtain⟨x,y,q1,g1,g2⟩:=FL.cmul (FL.ofInt (z:=X k) (by omega)) (FL.ofInt (z:=0) (by decide)) (flR (j*k%4)) (flI (j*k%4) hm) (by omega) (by omega);obtain⟨x',y',q2,g3,g4⟩:=FL.csum f1 f2 g1 g2 (by show (qB BL X j (k+1)).natAbs<_; omega) (by show (qB CG X j (k+1)).natAbs<_; omega);have hjk:j*k≤3*3:=Nat.mul_le_mul (by omega) (by omega);exact aA aG hT (FZ _ _ _ _ _ _) (Tr X re im j k (j*k%4) (floatOfInt .f64 (X k)) (X k) S (x,y) (x',y')) ⟨sO hk,hk,GA hk,fun w=>Zy w,fun w=>rfl,GV (by omega),Hq,rfl,hm,Na hm,VV _ _ _ q1,VW _ _ _ q2,cX (k:=1) (by omega),trivial⟩ hA fun a w hA=>hR a w ⟨(x',y'),g3,g4,hA⟩
 ·obtain⟨S,f1,f2,hA⟩:=hI;exact aA aG hT hG (Ts X re im j S 4) ⟨EJ (Nat.le_refl _),trivial⟩ hA fun a w hA=>hQ S a w f1 f2 hA
def SG (c:Nat→Int) (X:Nat→Int) (j:Nat):Nat→Int
 | i=>if i<j then qB c X i 4 else 0
theorem IQ {c X:Nat→Int} {j:Nat} (hj:j<4):put (x4 (SG c X j)) (0+j*1) [.c (iV (qB c X j 4))]=some (x4 (SG c X (j+1))):=by
 rw[Eu hj];have e:∀i,(if i=j then qB c X j 4 else SG c X j i)=SG c X (j+1) i:=fun i=>by
  unfold SG
  by_cases h:i=j
  ·rw[if_pos h,if_pos (by omega),h]
  ·rw[if_neg h]
   by_cases h2:i<j
   ·rw[if_pos h2,if_pos (by omega)]
   ·rw[if_neg h2,if_neg (by omega)]
 rw[show (fun i=>if i=j then qB c X j 4 else SG c X j i)=SG c X (j+1)from funext e]
theorem tH (X:Nat→Int) (w0:World) :
  (wK X→bI prog 40 (.many [.fl (x4 fun j=>qB BL X j 4),.fl (x4 fun j=>qB CG X j 4),.im (iV 0)]) [.agg (aB (x4 X)).toArray] w0) ∧
  (¬wK X→bI prog 40 (.many [.fl (x4 z4),.fl (x4 z4),.im (iV 4)]) [.agg (aB (x4 X)).toArray] w0):=by
 have hG:bO prog (qG prog) w0.heap.size w0:=(bE _).w _ _;have hT:∀n d:Nat,TabOkW prog dB w0.heap.size w0:=fun _ _=>aY.w _ _
 have first:∀R:Ending→World→Prop,(∀a w,Holds f40.ntmps w0.heap.size w0 (IR X 0) a w→(Code.loop AU).wp prog (fun e a w=>match e with | .exit 0=>(Code.seq (cA Aw) (.seq (cA Av) (.seq (.seq (cA (cA AW)) (.block 2 (.loop kI))) (cB AW)))).wp prog (bodyPost prog f40 R) a w | .ret=>bodyPost prog f40 R .ret a w|_=>False) a w)→Calls prog 40 #[.agg (aB (x4 X)).toArray] w0 R:=fun R hR=>by
  refine bP func40 (cs:=[.v (.fl (x4 X))]) (args:=[.agg (aB (x4 X)).toArray]) (c:=tF) rfl ⟨rfl,trivial⟩ (Nat.le_of_ble_eq_true (by kernel_rfl)) fun a w1 hA => ?_
  rw[As];refine wp_seq (aA aG hT hG (Tj X) trivial hA fun a w1 hA => ?_);refine wp_seq (wp_seq (aA aG hT hG (Ti X) trivial hA fun a w1 hA => ?_));refine wp_block ?_;refine Code.wp_mono (fun e a w h => ?_) (hR a w1 hA);cases e with
  | exit id =>
   cases id with
   | zero=>exact h
   | succ k=>exact h.elim
  | ret=>exact h
  | _=>exact h.elim
 have step:∀i,i<4→(-1099511627776≤X i∧X i≤1099511627776)→Ok prog w0.heap.size w0 f40.ntmps AU (IR X i) .nrm (IR X (i+1)):=fun i hi hr =>
  ⟨_,_,_,_,mL _ _ _,hT,Tk X i (X i),sO hi,hi,GA hi,by rw[RG,decide_eq_false (by omega)],by rw[Du,decide_eq_false (by omega)],cX (k:=1) (by omega),trivial⟩
 refine⟨fun h=>first _ fun a w hA => ?_,fun h=>first _ fun a w hA => ?_⟩
 ·refine cH aG (fun i=>IR X i) 4 (fun i hi=>step i hi (h i hi)) (.ex 0) (by simp) (Ay X) ⟨_,_,_,_,hG,hT,Tt X 4,EJ (Nat.le_refl _),trivial⟩ hA fun a w hA => ?_
  show (Code.seq _ _).wp _ _ _ _;refine wp_seq (aA aG hT hG (Th X) trivial hA fun a w hA => ?_);refine wp_seq (aA aG hT hG (Tg X) trivial hA fun a w hA => ?_);refine wp_seq (wp_seq (aA aG hT hG (Tf X z4 z4) trivial hA fun a w hA => ?_));refine wp_block ?_;have hX:∀k,k<4→(X k).natAbs≤1099511627776:=fun k hk=>by have:=h k hk; omega
  refine jO (fun j a w=>Holds f40.ntmps w0.heap.size w0 (pU X (SG BL X j) (SG CG X j) j) a w) 4 (fun j hj a w hA R hR => ?_) (fun a w hA R => ?_) (by exact hA)
  ·rw[SF];refine wp_seq (aA aG hT hG (Tu X _ _ j true) ⟨sO hj,trivial⟩ hA fun a w hA => ?_);refine wp_seq (aA aG hT hG (Tl X _ _ j) trivial hA fun a w hA => ?_);refine wp_seq (wp_block (wp_seq (aA aG hT hG (Tq X _ _ j) trivial hA fun a w hA => ?_)));refine wp_seq (aA aG hT hG (Tp X _ _ j) trivial hA fun a w hA => ?_);refine wp_seq (wp_seq (aA aG hT hG (To X _ _ j) trivial hA fun a w hA => ?_));refine wp_block (Ki hj hX hA fun S a w f1 f2 hA => ?_);have s1:=yR (c:=BL) TO hX (j:=j) 4 (by omega);have s2:=yR (c:=CG) TP hX (j:=j) 4 (by omega);show (cB (cB (cB mP))).wp _ _ _ _;refine aA aG hT (FZ _ _ _ _ _ _) (Tn X _ _ (SG BL X (j+1)) (SG CG X (j+1)) j S 4 (qB BL X j 4) (qB CG X j 4)) ⟨fun w=>rfl,fun w=>Ul f1 (by omega) w,fun w=>rfl,fun w=>Ul f2 (by omega) w,rfl,hj,IQ hj,rfl,hj,IQ hj,trivial⟩ hA fun a w hA => ?_
   show (cB (cB (cB kI))).wp _ _ _ _;exact aA aG hT hG (Tm X _ _ j) ⟨cX (k:=1) (by omega),trivial⟩ hA fun a w hA=>hR a w hA
  ·rw[SF];refine wp_seq (aA aG hT hG (Tu X _ _ 4 false) ⟨EJ (Nat.le_refl _),trivial⟩ hA fun a w hA => ?_);refine wp_seq (aA aG hT hG (Zu X _ _ 4) trivial hA fun a w hA => ?_);show (cB AW).wp _ _ _ _;exact aA aG hT hG (Zt X _ _ 4) trivial hA fun a w hA=>bH (l:=[.fl (x4 fun j=>qB BL X j 4),.fl (x4 fun j=>qB CG X j 4),.im (iV 0)]) (r:=.many [.fl (x4 fun j=>qB BL X j 4),.fl (x4 fun j=>qB CG X j 4),.im (iV 0)]) (by kernel_rfl) (by kernel_rfl) hA
 ·obtain⟨j,hj,h1,h2⟩:=eU (p:=fun k => -1099511627776≤X k∧X k≤1099511627776) h;have hbad:Ok prog w0.heap.size w0 f40.ntmps AU (IR X j) .rt (Ec z4 z4 4):=by
   by_cases q:X j < -1099511627776
   ·exact⟨_,_,_,_,mL _ _ _,hT,Tw X j (X j),sO hj,hj,GA hj,by rw[RG,decide_eq_true q],trivial⟩
   ·exact⟨_,_,_,_,mL _ _ _,hT,Tv X j (X j),sO hj,hj,GA hj,by rw[RG,decide_eq_false q],by rw[Du,decide_eq_true (by omega)],trivial⟩
  refine cH aG (fun i=>IR X i) j (fun i hi=>step i (by omega) (h1 i hi)) .rt (by simp) (Ec z4 z4 4) hbad hA fun a w hA => ?_
  exact bH (l:=[.fl (x4 z4),.fl (x4 z4),.im (iV 4)]) (r:=.many [.fl (x4 z4),.fl (x4 z4),.im (iV 4)]) (by kernel_rfl) (by kernel_rfl) hA
def qN (z m:Int):Bool:=decide (0≤z)&&decide (z≤m)
theorem WW (z m:Int):fH prog (qG prog) (cF (aE [(6,.bool false)])) f81 40 [.v (.im (iV z)),.v (.im (iV m))]=some ([aC .leq .i64 0 z=some (.bool false)],.one (.im (.bool false))):=by kernel_rfl
theorem WV (z m:Int) (b:Bool):fH prog (qG prog) (cF (aE [(6,.bool true),(10,.bool b)])) f81 40 [.v (.im (iV z)),.v (.im (iV m))]=some ([aC .leq .i64 0 z=some (.bool true),aC .leq .i64 z m=some (.bool b)],.one (.im (.bool b))):=by kernel_rfl
theorem TD (z m:Int) (args:List Value) (w:World) (ha:cO w [.v (.im (iV z)),.v (.im (iV m))] args):bI prog 81 (.one (.im (.bool (qN z m)))) args w:=by
 unfold qN
 by_cases h:0≤z
 ·rw[decide_eq_true h,Bool.true_and];exact nD aG (fun _ _=>aY) (bE _) func81 (WV z m _) ⟨by show some (Value.bool (decide ((0:Int)≤z)))=_; rw[decide_eq_true h],rfl,trivial⟩ ha
 ·rw[decide_eq_false h,Bool.false_and];exact nD aG (fun _ _=>aY) (bE _) func81 (WW z m) ⟨by show some (Value.bool (decide ((0:Int)≤z)))=_; rw[decide_eq_false h],trivial⟩ ha
def Zr:iP
 | [.v (.im (.int .i64 z)),.v (.im (.int .i64 m))]=>some ([],.one (.im (.bool (qN z m))))
 | _=>none
theorem Jx:∀cs pre r,Zr cs=some (pre,r)→aR pre→∀(args:List Value) (w:World),cO w cs args→bI prog 81 r args w:=by
 intro cs pre r hg hp args w ha;unfold Zr at hg;split at hg
 ·cases hg; exact TD _ _ args w ha
 ·cases hg
def oR (log:Nat):Nat:=Wv 5 ((RM-1)/2^log)
def Jn:iP
 | [.v (.im (.int .i64 2))]=>some ([],.one (.fl [.q RM]))
 | _=>none
theorem Aa:∀cs pre r,Jn cs=some (pre,r)→aR pre→∀(args:List Value) (w:World),cO w cs args→bI prog 89 r args w:=by
 intro cs pre r hg hp args w ha;unfold Jn at hg;split at hg
 ·cases hg
  match args,ha with
  | [u],ha =>
   have h1:u=.int .i64 2:=ha.1;subst h1;refine (uN 2 _ nZ w).mono ?_
   rintro e w' ⟨rfl,hb⟩
   exact⟨by kernel_rfl,hb⟩
  | [],ha=>exact ha.elim
  | _::_::_,ha=>exact ha.2.elim
 ·cases hg
def Je:iP
 | [.v (.fl l),.v (.fl m)]=>match lH l,lH m with
  | some x,some y=>some ([x<bQ,y≤x],.many [.fl [.q (x-y)],.im (.int .u64 0)])
  | _,_=>none
 | _=>none
theorem ZV:∀cs pre r,Je cs=some (pre,r)→aR pre→∀(args:List Value) (w:World),cO w cs args→bI prog 88 r args w:=by
 intro cs pre r hg hp args w ha;unfold Je at hg;split at hg
 ·rename_i l m;split at hg
  ·rename_i x y hx hy;cases hg
   match args,ha with
   | [v,u],ha =>
    have h1:v=.agg (aB l).toArray:=ha.1;have h2:u=.agg (aB m).toArray:=ha.2.1;rw[cG l _ hx]at h1;rw[cG m _ hy]at h2;subst h1; subst h2;have hxl:x<bQ:=hp.1;have hyx:y≤x:=hp.2.1;refine (uP _ _ _ _ _ _ _ _ (eI x) (eI y) w).mono ?_
    rintro e w' ⟨s0,s1,s2,s3,c,rfl,hs,hc,hv,hb⟩
    rw[fW hxl,fW (Nat.lt_of_le_of_lt hyx hxl)]at hv;have hlt:=dT hs;obtain⟨rfl,hv2⟩:c=0∧aD s0 s1 s2 s3=x-y:=by
     rcases (show c=0∨c=1 by omega)with h|h
     ·subst h; exact⟨rfl,by omega⟩
     ·subst h; omega
    obtain⟨rfl,rfl,rfl,rfl⟩:=lS hs (show x-y<bQ by omega) hv2;exact⟨rfl,hb⟩
   | [],ha=>exact ha.elim
   | [_],ha=>exact ha.2.elim
   | _::_::_::_,ha=>exact ha.2.2.elim
  ·cases hg
 ·cases hg
def Jb:iP
 | [.v (.fl l),.v (.im (.int .i64 (.ofNat k)))]=>match lH l with
  | some n=>some ([n<bQ,k<9223372036854775808],.one (.fl [.q (n/2^k)]))
  | none=>none
 | _=>none
theorem ZT:∀cs pre r,Jb cs=some (pre,r)→aR pre→∀(args:List Value) (w:World),cO w cs args→bI prog 91 r args w:=by
 intro cs pre r hg hp args w ha;unfold Jb at hg;split at hg
 ·rename_i l k;split at hg
  ·rename_i n hn;cases hg
   match args,ha with
   | [v,u],ha =>
    have h1:v=.agg (aB l).toArray:=ha.1;have h2:u=.int .i64 (Int.ofNat k):=ha.2.1;rw[cG l _ hn]at h1;subst h1; subst h2;have hk:k<9223372036854775808:=hp.2.1;have h:=JS _ _ _ _ (Int.ofNat k) (eI n) (by simp) (by simp; omega) w;rw[fW hp.1]at h;refine h.mono ?_
    rintro e w' ⟨s0,s1,s2,s3,rfl,hs,hv,hb⟩
    obtain⟨rfl,rfl,rfl,rfl⟩:=lS (x:=n/2^k) hs (Nat.lt_of_le_of_lt (Nat.div_le_self _ _) hp.1) hv;exact⟨rfl,hb⟩
   | [],ha=>exact ha.elim
   | [_],ha=>exact ha.2.elim
   | _::_::_::_,ha=>exact ha.2.2.elim
  ·cases hg
 ·cases hg
def Lo:Tab:=(((dB.add 81 Zr).add 89 Jn).add 88 Je).add 91 Jb
theorem Di:TabOk prog Lo:=(((aY.add func81 (by kernel_rfl) (by kernel_rfl) Jx).add func89 (by kernel_rfl) (by kernel_rfl) Aa).add func88 (by kernel_rfl) (by kernel_rfl) ZV).add func91 (by kernel_rfl) (by kernel_rfl) ZT
theorem Fm (log:Nat):xK prog Lo (qG prog) (fun _=>true) f61 40 [.v (.im (iI log))]=some ([RM<bQ,1≤RM,5<18446744073709551616,RM-1<bQ,log<9223372036854775808,5<RM,(RM-1)/2^log<bQ],.one (.fl [.q (oR log)])):=by kernel_rfl
theorem ON {log:Nat} (h:log<9223372036854775808) (args:List Value) (w:World) (ha:cO w [.v (.im (iI log))] args):bI prog 61 (.one (.fl [.q (oR log)])) args w :=
 fO aG Di (bE _) func61 (Fm log) ⟨by decide,by decide,by omega,by decide,h,by decide,Nat.lt_of_le_of_lt (Nat.div_le_self _ _) (by decide),trivial⟩ ha
def Zo:iP
 | [.v (.im (.int .i64 (.ofNat log)))]=>some ([log<9223372036854775808],.one (.fl [.q (oR log)]))
 | _=>none
theorem Jh:∀cs pre r,Zo cs=some (pre,r)→aR pre→∀(args:List Value) (w:World),cO w cs args→bI prog 61 r args w:=by
 intro cs pre r hg hp args w ha;unfold Zo at hg;split at hg
 ·cases hg; exact ON hp.1 args w ha
 ·cases hg
def yC:Tab:=Lo.add 61 Zo
theorem pR:TabOk prog yC:=Di.add func61 (by kernel_rfl) (by kernel_rfl) Jh
def JA (N:Nat) (f:Nat→Nat) (z:Int) (x:Nat):Int:=if fB N f x≠0 then fB N f x else if qN z 16=false then 71 else if x=0 then 22 else 0
def dR:Code:=(f57.body).getD .skip
theorem Cb:dR=.seq (cA dR) (.seq (.seq (.region 1 (aK (cA (cA (cB dR)))) false) (cB (cA (cB dR)))) (cB (cB dR))):=by kernel_rfl
def JB (v:Value) (z:Int) (x:Nat):List Fact:=[.slot 0 (.im v),.slot 1 (.im (iV z)),.slot 5 (.pt 5 0),.row 5 true [.q x]]
def Vf (v:Value) (z:Int) (x:Nat):List Fact:=.slot 8 (.im v) :: .slot 10 (.sl 10 0 1 1) :: .row 10 true [.q x]::JB v z x
def El (v:Value) (z:Int) (x b:Nat):List Fact:=.slot 11 (.sl 11 0 2 2) :: .row 11 true [.c v,.c (aS b 0 1 1)] :: .row 10 true [.q x] :: .at 10 b::JB v z x
def XE:Cfg:=⟨fun _=>yC,fun _=>true,fun _=>none⟩
def Oi (h:Bool) (num:Nat→Option Value) (_:Nat):Cfg:=⟨fun _=>yC,fun _=>h,num⟩
theorem Ve (v:Value) (z:Int) (x:Nat):aH prog (qG prog) f57.ntmps (cF fun _=>none) 40 (cA dR) (dX 0 [.v (.im v),.v (.im (iV z)),.v (.fl [.q x])]) (JB v z x)=some ([],.nrm,JB v z x):=by kernel_rfl
theorem Vd (p:Option Addr) (N m:Nat) (z:Int) (x:Nat):cP prog (qG prog) f57.ntmps bL ((aK (cA (cA (cB dR)))).extract 0 3) (JB (.slice p N m) z x) (Vf (.slice p N m) z x)=some ([],Vf (.slice p N m) z x):=by kernel_rfl
theorem Vc (p:Option Addr) (N m:Nat) (z:Int) (x b:Nat):cP prog (qG prog) f57.ntmps bL ((aK (cA (cA (cB dR)))).extract 3 4) (.slot 10 (.im (aS b 0 1 1)) :: .at 10 b::Vf (.slice p N m) z x) (El (.slice p N m) z x b)=some ([],El (.slice p N m) z x b):=by kernel_rfl
theorem Vb (v:Value) (z:Int) (x b:Nat) (e:Int):cP prog (qG prog) f57.ntmps bL ((aK (cA (cA (cB dR)))).extract 5 6) (.slot 12 (.im (.int .i64 e))::El v z x b) (.slot 7 (.im (.int .i64 e))::JB v z x)=some ([],.slot 7 (.im (.int .i64 e))::JB v z x):=by kernel_rfl
theorem Lb (v:Value) (z:Int) (x:Nat) (e:Int):aH prog (qG prog) f57.ntmps (cF (aE [(14,.bool true)])) 40 (cB (cA (cB dR))) (.slot 7 (.im (.int .i64 e))::JB v z x) [.slot 6 (.im (.int .i64 e))]=some ([aC .neq .i64 e 0=some (.bool true)],.rt,[.slot 6 (.im (.int .i64 e))]):=by kernel_rfl
theorem Ca (v:Value) (z:Int) (x:Nat):aH prog (qG prog) f57.ntmps (cF fun _=>none) 40 (cB (cA (cB dR))) (.slot 7 (.im (.int .i64 0))::JB v z x) (JB v z x)=some ([],.nrm,JB v z x):=by kernel_rfl
theorem aAd (v:Value) (z:Int) (x:Nat):aH prog (qG prog) f57.ntmps (Oi true (aE [(18,.bool true)])) 40 (cB (cB dR)) (JB v z x) [.slot 6 (.im (.int .i64 71))]=some ([Value.bool (!qN z 16)=.bool true],.rt,[.slot 6 (.im (.int .i64 71))]):=by kernel_rfl
theorem aAb (v:Value) (z:Int) (x:Nat):aH prog (qG prog) f57.ntmps (Oi true (aE [(18,.bool false)])) 40 (cB (cB dR)) (JB v z x) [.slot 6 (.im (.int .i64 22))]=some ([Value.bool (!qN z 16)=.bool false,aB [.q x]=aB [.f ⟨0,dP⟩]],.rt,[.slot 6 (.im (.int .i64 22))]):=by kernel_rfl
theorem aAc (v:Value) (z:Int) (x:Nat):aH prog (qG prog) f57.ntmps (Oi false (aE [(18,.bool false)])) 40 (cB (cB dR)) (JB v z x) [.slot 6 (.im (.int .i64 0))]=some ([Value.bool (!qN z 16)=.bool false,aB [.q x]≠aB [.f ⟨0,dP⟩]],.rt,[.slot 6 (.im (.int .i64 0))]):=by kernel_rfl
theorem TK {w0:World} {v:Value} {N x:Nat} {f:Nat→Nat} {z:Int} (hv:LV w0 v N f) (hN:N≤4611686018427387904) (hx:x<bQ):bI prog 57 (.one (.im (.int .i64 (JA N f z x)))) [v,iV z,.agg (aB [At.q x]).toArray] w0:=by
 have hG:bO prog (qG prog) w0.heap.size w0:=(bE _).w _ _;have hT:∀n d:Nat,TabOkW prog dB w0.heap.size w0:=fun _ _=>aY.w _ _
 have hR:∀n d:Nat,TabOkW prog yC w0.heap.size w0:=fun _ _=>pR.w _ _
 obtain⟨p0,m0,rfl,hm0,h256,hmem⟩:=id hv;refine bP func57 (cs:=[.v (.im (.slice p0 N m0)),.v (.im (iV z)),.v (.fl [.q x])]) (args:=[.slice p0 N m0,iV z,.agg (aB [At.q x]).toArray]) (c:=dR) rfl ⟨rfl,rfl,rfl,trivial⟩ (Nat.le_of_ble_eq_true (by kernel_rfl)) fun a w1 hA => ?_
 rw[Cb];refine wp_seq (aA aG hT hG (Ve _ z x) trivial hA fun a w1 hA => ?_);refine wp_seq (wp_seq (bV (l:=List.range' 0 ((aK (cA (cA (cB dR)))).extract 0 3).size++(List.range' 3 ((aK (cA (cA (cB dR)))).extract 3 4).size++(4::(List.range' 5 ((aK (cA (cA (cB dR)))).extract 5 6).size++[])))) (by kernel_rfl) ?_));refine aI (c:=bL) (hT 0) hG (Vd p0 N m0 z x) trivial (by kernel_rfl) hA fun a w1 hA => ?_
 obtain⟨b,hA⟩:=hA.at (k:=10) (l:=[.q x]) (by simp[Vf]);have hA:=hA.im (s:=10) (k:=10) (o:=0) (n:=1) (m:=1) (b:=b) (by simp[Vf]) (by simp);refine aI (c:=bL) (hT 0) hG (Vc p0 N m0 z x b) trivial (by kernel_rfl) hA fun a w1 hA => ?_
 obtain⟨b2,hB⟩:=hA.at (k:=11) (l:=[.c (.slice p0 N m0),.c (aS b 0 1 1)]) (by simp[El]);have h11:=(hB.im (s:=11) (k:=11) (o:=0) (n:=2) (m:=2) (b:=b2) (by simp[El]) (by simp)).slot (s:=11) (v:=aS b2 0 2 2) (by simp);have o1:oldOf w1 b 0 [.q x]:=hA.old (k:=10) (by simp[El]) (by simp[El]);have o2:oldOf w1 b2 0 [.c (.slice p0 N m0),.c (aS b 0 1 1)]:=hB.old (k:=11) (by simp[El]) (by simp);obtain⟨o,ho,hoo,hod,hog⟩:∃o,(aK (cA (cA (cB dR))))[4]?=some o∧(∃ts,o.op=.call ⟨.value (.func 28),#[.tmp 11],ts⟩)∧o.dst=some 12∧o.guard=none:=⟨_,rfl,⟨_,rfl⟩,rfl,rfl⟩
 obtain⟨ts,hoo⟩:=hoo;refine eD ho hog (mU hoo (vs:=[aS b2 0 2 2]) (by simp[Act.eval,h11]) (fun args=>bF func28 (by kernel_rfl) (by kernel_rfl) args _) (tS (hv.on hA.below) hN hx o1 o2) fun w2 hb => ?_);rw[hod];have hA:=hA.put hb (d:=12) (Nat.le_of_ble_eq_true (by kernel_rfl)) (.im (.int .i64 (fB N f x))) (nT (by kernel_rfl));refine aI (c:=bL) (hT 0) hG (Vb _ z x b _) trivial (by kernel_rfl) hA fun a w1 hA => ?_
 show (cB (cA (cB dR))).wp _ _ _ _;unfold JA
 by_cases he:fB N f x=0
 ·rw[if_neg (fun q=>q he)];rw[he]at hA;refine aA aG hT hG (Ca _ z x) trivial hA fun a w1 hA => ?_
  show (cB (cB dR)).wp _ _ _ _
  by_cases hd:qN z 16=false
  ·rw[if_pos hd];exact aA aG hR hG (aAd _ z x) ⟨by rw[hd]; rfl,trivial⟩ hA fun a w' hA=>bH (l:=[.im (.int .i64 71)]) (r:=.one (.im (.int .i64 71))) (by kernel_rfl) (by kernel_rfl) hA
  ·rw[if_neg hd];have hd2:qN z 16=true:=by simpa using hd
   by_cases hz:x=0
   ·rw[if_pos hz];exact aA aG hR hG (aAb _ z x) ⟨by rw[hd2]; rfl,(lZ hx).2 hz,trivial⟩ hA fun a w' hA=>bH (l:=[.im (.int .i64 22)]) (r:=.one (.im (.int .i64 22))) (by kernel_rfl) (by kernel_rfl) hA
   ·rw[if_neg hz];exact aA aG (fun _ _=>pR.w _ _) hG (aAc _ z x) ⟨by rw[hd2]; rfl,fun h=>hz ((lZ hx).1 h),trivial⟩ hA fun a w' hA=>bH (l:=[.im (.int .i64 0)]) (r:=.one (.im (.int .i64 0))) (by kernel_rfl) (by kernel_rfl) hA
 ·rw[if_pos he];exact aA aG hT hG (Lb _ z x _) ⟨pB he,trivial⟩ hA fun a w' hA=>bH (l:=[.im (.int .i64 (fB N f x))]) (r:=.one (.im (.int .i64 (fB N f x)))) (by kernel_rfl) (by kernel_rfl) hA
def An (v:Value) (N:Nat) (f:Nat→Nat):iP
 | [.v (.im u),.v (.im (.int .i64 z)),.v (.fl l)]=>match lH l with
  | some x=>some ([u=v,x<bQ],.one (.im (.int .i64 (JA N f z x))))
  | none=>none
 | _=>none
theorem Am {w:World} {v:Value} {N:Nat} {f:Nat→Nat} (hv:LV w v N f) (hN:N≤4611686018427387904):∀cs pre r,An v N f cs=some (pre,r)→aR pre→∀(args:List Value),cO w cs args→bI prog 57 r args w:=by
 intro cs pre r hg hp args ha;unfold An at hg;split at hg
 ·rename_i u z l;split at hg
  ·rename_i x hx;cases hg
   match args,ha with
   | [a1,a2,a3],ha =>
    have h1:a1=u:=ha.1;have h2:a2=iV z:=ha.2.1;have h3:a3=.agg (aB l).toArray:=ha.2.2.1;rw[cG l x hx]at h3;have h4:=hp.1;subst h1; subst h2; subst h3; subst h4;exact TK hv hN hp.2.1
   | [],ha=>exact ha.elim
   | [_],ha=>exact ha.2.elim
   | [_,_],ha=>exact ha.2.2.elim
   | _::_::_::_::_,ha=>exact ha.2.2.2.elim
  ·cases hg
 ·cases hg
def Iq (v:Value) (N:Nat) (f:Nat→Nat):List CA→Option (List Prop×FR)
 | [.v (.im u),.v (.fl l),.v (.fl m)]=>match lH l,lH m with
  | some x,some y=>some ([u=v,x<RM,y<RM],⟨aP (el (oH f x y)) 0 N,N,N,[]⟩)
  | _,_=>none
 | _=>none
theorem ZJ {w:World} {v:Value} {N:Nat} {f:Nat→Nat} (hv:LV w v N f) (hN:N≤131072) (hf:bD N f):∀cs pre r,Iq v N f cs=some (pre,r)→aR pre→∀(args:List Value),cO w cs args→Calls prog 59 args.toArray w (fun e w'=>r.ok w e w'):=by
 intro cs pre r hg hp args ha;unfold Iq at hg;split at hg
 ·rename_i u l m;split at hg
  ·rename_i x y hx hy;cases hg
   match args,ha with
   | [a1,a2,a3],ha =>
    have h1:a1=u:=ha.1;have h2:a2=.agg (aB l).toArray:=ha.2.1;have h3:a3=.agg (aB m).toArray:=ha.2.2.1;rw[cG l x hx]at h2;rw[cG m y hy]at h3;have h4:=hp.1;subst h1; subst h2; subst h3; subst h4;exact yH hv hN hf hp.2.1 hp.2.2.1
   | [],ha=>exact ha.elim
   | [_],ha=>exact ha.2.elim
   | [_,_],ha=>exact ha.2.2.elim
   | _::_::_::_::_,ha=>exact ha.2.2.2.elim
  ·cases hg
 ·cases hg
def Iy (N:Nat) (f:Nat→Nat):List CA→Option (List Prop×FR)
 | [.s l n m,.v (.im (.int .i64 (.ofNat log))),.v (.fl r)]=>match lH r with
  | some x=>some ([aB l=aB (aP (el f) 0 N),n=N,N≤m,bD N f,log≤16,x<RM],⟨aP (el (uM (oG N f log) (2^log) (gN 1 x) log)) 0 (2^log),2^log,2^log,[]⟩)
  | none=>none
 | _=>none
theorem ZQ {N:Nat} {f:Nat→Nat}:∀cs pre r,Iy N f cs=some (pre,r)→aR pre→∀(args:List Value) (w:World),cO w cs args→Calls prog 58 args.toArray w (fun e w'=>r.ok w e w'):=by
 intro cs pre r hg hp args w ha;unfold Iy at hg;split at hg
 ·rename_i l n m log r0;split at hg
  ·rename_i x hx;cases hg
   match args,ha with
   | [a1,a2,a3],ha =>
    have h2:a2=iI log:=ha.2.1;have h3:a3=.agg (aB r0).toArray:=ha.2.2.1;rw[cG r0 x hx]at h3;subst h2; subst h3;exact yN (LV.ofS ha.1 hp.1 hp.2.1 hp.2.2.1 fun j hj=>dW (hp.2.2.2.1 j hj)) hp.2.2.2.1 hp.2.2.2.2.1 hp.2.2.2.2.2.1
   | [],ha=>exact ha.elim
   | [_],ha=>exact ha.2.elim
   | [_,_],ha=>exact ha.2.2.elim
   | _::_::_::_::_,ha=>exact ha.2.2.2.elim
  ·cases hg
 ·cases hg
theorem LV.take {w:World} {p:Option Addr} {N m T:Nat} {f:Nat→Nat} (h:LV w (.slice p N m) N f) (hT:T≤N):LV w (.slice p T m) T f:=by
 obtain⟨p',m',e,h2,h3,h4⟩:=h;cases e;refine⟨p,m,rfl,Nat.le_trans hT h2,fun j hj=>h3 j (by omega),fun h0 => ?_⟩;obtain⟨b,o,e,hb,hr⟩:=h4 (by omega);refine⟨b,o,e,hb,fun j x hj=>hr j x ?_⟩;have key:∀(i n s:Nat),i≤n→aP (el f) s n=aP (el f) s i++aP (el f) (s+i) (n-i):=fun i=>by
  induction i with
  | zero=>intro n s _; rfl
  | succ i ih =>
   intro n s h;obtain⟨n,rfl⟩:∃k,n=k+1:=⟨n-1,by omega⟩
   show el f s++aP (el f) (s+1) n=(el f s++aP (el f) (s+1) i)++_;rw[ih n (s+1) (by omega),List.append_assoc,show s+1+i=s+(i+1) by omega,show n+1-(i+1)=n-i by omega]
 rw[key T N 0 hT,aN,List.getElem?_append_left (List.getElem?_eq_some_iff.1 hj).1];exact hj
def dU:Code:=(f38.body).getD .skip
theorem VG:dU=.seq (cA dU) (.seq (cA (cB dU)) (.seq (cA (cB (cB dU))) (.seq (cA (cB (cB (cB dU)))) (cB (cB (cB (cB dU))))))):=by kernel_rfl
def BZ (v:Value) (z:Int) (x:Nat):List Fact:=[.slot 0 (.im v),.slot 1 (.im (iV z)),.slot 5 (.pt 5 0),.row 5 true [.q x]]
theorem Mz (v:Value) (z:Int) (x:Nat):aH prog (qG prog) f38.ntmps (cF fun _=>none) 40 (cA dU) (dX 0 [.v (.im v),.v (.im (iV z)),.v (.fl [.q x])]) (BZ v z x)=some ([],.nrm,BZ v z x):=by kernel_rfl
def Xr (v:Value) (N:Nat) (f:Nat→Nat) (num:Nat→Option Value) (_:Nat):Cfg:=⟨fun _=>(yC.add 57 (An v N f)).add 34 (EU v (aF f N)),fun _=>true,num⟩
theorem Fa (v:Value) (N:Nat) (f:Nat→Nat) (z:Int) (x:Nat):aH prog (qG prog) f38.ntmps (Xr v N f (aE [(14,.bool true)])) 40 (cA (cB dU)) (BZ v z x) [.slot 6 (.im (.slice none 0 0)),.slot 7 (.im (.int .i64 (JA N f z x)))]=some ([v=v,x<bQ,aC .neq .i64 (JA N f z x) 0=some (.bool true)],.rt,[.slot 6 (.im (.slice none 0 0)),.slot 7 (.im (.int .i64 (JA N f z x)))]):=by kernel_rfl
theorem VF (v:Value) (N:Nat) (f:Nat→Nat) (z:Int) (x:Nat):aH prog (qG prog) f38.ntmps (Xr v N f (aE [(14,.bool false)])) 40 (cA (cB dU)) (BZ v z x) (BZ v z x)=some ([v=v,x<bQ,aC .neq .i64 (JA N f z x) 0=some (.bool false)],.nrm,BZ v z x):=by kernel_rfl
theorem My (p:Option Addr) (N m:Nat) (f:Nat→Nat) (z:Int) (x:Nat):aH prog (qG prog) f38.ntmps (Xr (.slice p N m) N f fun _=>none) 40 (cA (cB (cB dU))) (BZ (.slice p N m) z x) (BZ (.slice p (aF f N) m) z x)=some ([Value.slice p N m=.slice p N m,aF f N≤m],.nrm,BZ (.slice p (aF f N) m) z x):=by kernel_rfl
theorem Ez (p:Option Addr) (T m log x:Nat):aH prog { qG prog with x:=xG (aE [(23,iI (2^log))]) } f38.ntmps (cF (aE [(24,.bool true)])) 40 (cA (cB (cB (cB dU)))) (BZ (.slice p T m) (Int.ofNat log) x) [.slot 6 (.im (.slice none 0 0)),.slot 7 (.im (.int .i64 72))]=some ([dY .shl 3 (.const (iI 1)) (.tmp 22) (iI 1) (iI log) (iI (2^log)),aC .gtr .i64 (Int.ofNat T) (Int.ofNat (2^log))=some (.bool true)],.rt,[.slot 6 (.im (.slice none 0 0)),.slot 7 (.im (.int .i64 72))]):=by kernel_rfl
theorem Ey (p:Option Addr) (T m log x:Nat):aH prog { qG prog with x:=xG (aE [(23,iI (2^log))]) } f38.ntmps (cF (aE [(24,.bool false)])) 40 (cA (cB (cB (cB dU)))) (BZ (.slice p T m) (Int.ofNat log) x) (BZ (.slice p T m) (Int.ofNat log) x)=some ([dY .shl 3 (.const (iI 1)) (.tmp 22) (iI 1) (iI log) (iI (2^log)),aC .gtr .i64 (Int.ofNat T) (Int.ofNat (2^log))=some (.bool false)],.nrm,BZ (.slice p T m) (Int.ofNat log) x):=by kernel_rfl
def aAo (v:Value) (N:Nat) (f:Nat→Nat) (T:Nat) (g:Nat→Nat):Tab2:=(lY.add 59 (Iq v N f)).add 58 (Iy T g)
theorem Xq (v:Value) (T log x:Nat) (f:Nat→Nat):aH prog { qG prog with x:=FY (aAo v T f T (oH f 1 x)) } f38.ntmps (Oi true fun _=>none) 60 (cB (cB (cB (cB dU)))) (BZ v (Int.ofNat log) x) [.slot 6 (.sl 32 0 (2^log) (2^log)),.row 32 true (aP (el (uM (oG T (oH f 1 x) log) (2^log) (gN 1 (oR log)) log)) 0 (2^log)),.slot 7 (.im (.int .i64 0))] =
  some ([v=v,1<RM,x<RM,log<9223372036854775808,aB (aP (el (oH f 1 x)) 0 T)=aB (aP (el (oH f 1 x)) 0 T),T=T,T≤T,bD T (oH f 1 x),log≤16,oR log<RM],.rt,[.slot 6 (.sl 32 0 (2^log) (2^log)),.row 32 true (aP (el (uM (oG T (oH f 1 x) log) (2^log) (gN 1 (oR log)) log)) 0 (2^log)),.slot 7 (.im (.int .i64 0))]):=by kernel_rfl
theorem Lc {N:Nat} {f:Nat→Nat} {z:Int} {x:Nat} (h:JA N f z x=0):N≤65536∧bD N f∧x<RM∧x≠0∧∃log:Nat,log≤16∧z=Int.ofNat log:=by
 unfold JA at h
 by_cases h1:fB N f x=0
 ·rw[if_neg (fun q=>q h1)]at h;obtain⟨q1,q2,q3⟩:=pJ h1
  by_cases h2:qN z 16=false
  ·rw[if_pos h2]at h; cases h
  ·rw[if_neg h2]at h;have h3:qN z 16=true:=by simpa using h2
   unfold qN at h3;rw[Bool.and_eq_true,decide_eq_true_eq,decide_eq_true_eq]at h3;refine⟨q1,q2,q3,fun e => ?_,z.toNat,by omega,by show z=((z.toNat:Nat):Int); omega⟩;rw[if_pos e]at h; cases h
 ·rw[if_pos h1]at h; exact absurd h h1
def Lt (N:Nat) (f:Nat→Nat) (z:Int) (x:Nat):Int:=if JA N f z x≠0 then JA N f z x else if aF f N≤2^z.toNat then 0 else 72
def JL (N:Nat) (f:Nat→Nat) (log x:Nat):Nat→Nat:=uM (oG (aF f N) (oH f 1 x) log) (2^log) (gN 1 (oR log)) log
theorem MY {w0:World} {v:Value} {N x:Nat} {f:Nat→Nat} {z:Int} (hv:LV w0 v N f) (hN:N≤2305843009213693952) (hx:x<bQ) :
  (Lt N f z x≠0→bI prog 38 (.many [.im (.slice none 0 0),.im (.int .i64 (Lt N f z x))]) [v,iV z,.agg (aB [At.q x]).toArray] w0) ∧
  (Lt N f z x=0→Calls prog 38 #[v,iV z,.agg (aB [At.q x]).toArray] w0 (fun e w'=>FR.ok ⟨aP (el (JL N f z.toNat x)) 0 (2^z.toNat),2^z.toNat,2^z.toNat,[.im (.int .i64 0)]⟩ w0 e w')):=by
 have hG:bO prog (qG prog) w0.heap.size w0:=(bE _).w _ _;have hT:∀n d:Nat,TabOkW prog dB w0.heap.size w0:=fun _ _=>aY.w _ _
 obtain⟨p,m,rfl,hm,h256,hmem⟩:=id hv;have hV:∀n d:Nat,TabOkW prog ((yC.add 57 (An (.slice p N m) N f)).add 34 (EU (.slice p N m) (aF f N))) w0.heap.size w0:=fun _ _=>TabOkW.add (TabOkW.add (pR.w _ _) func57 (by kernel_rfl) (by kernel_rfl) fun w hw=>Am (hv.on hw) (by omega)) func34 (by kernel_rfl) (by kernel_rfl) fun w hw=>qS (hv.on hw) hN
 have first:∀R:Ending→World→Prop,(∀a w,Holds f38.ntmps w0.heap.size w0 (BZ (.slice p N m) z x) a w→(Code.seq (cA (cB dU)) (.seq (cA (cB (cB dU))) (.seq (cA (cB (cB (cB dU)))) (cB (cB (cB (cB dU))))))).wp prog (bodyPost prog f38 R) a w)→Calls prog 38 #[.slice p N m,iV z,.agg (aB [At.q x]).toArray] w0 R:=fun R hR=>by
  refine bP func38 (cs:=[.v (.im (.slice p N m)),.v (.im (iV z)),.v (.fl [.q x])]) (args:=[.slice p N m,iV z,.agg (aB [At.q x]).toArray]) (c:=dU) rfl ⟨rfl,rfl,rfl,trivial⟩ (Nat.le_of_ble_eq_true (by kernel_rfl)) fun a w1 hA => ?_
  rw[VG];exact wp_seq (aA aG hT hG (Mz _ z x) trivial hA fun a w1 hA=>hR a w1 hA)
 unfold Lt
 by_cases he:JA N f z x=0
 ·rw[if_neg (fun q=>q he)];obtain⟨q1,q2,q3,q4,log,q5,rfl⟩:=Lc he;rw[show (Int.ofNat log).toNat=log from rfl];have hle:=cI f N;have hp2:2^log≤65536:=Nat.pow_le_pow_right (n:=2) (by omega) q5;have second:∀R:Ending→World→Prop,(∀a w,Holds f38.ntmps w0.heap.size w0 (BZ (.slice p (aF f N) m) (Int.ofNat log) x) a w→(Code.seq (cA (cB (cB (cB dU)))) (cB (cB (cB (cB dU))))).wp prog (bodyPost prog f38 R) a w)→Calls prog 38 #[.slice p N m,iV (Int.ofNat log),.agg (aB [At.q x]).toArray] w0 R:=fun R hR=>first R fun a w hA=>by
   refine wp_seq (aA aG hV hG (VF _ N f _ x) ⟨rfl,hx,by rw[he]; rfl,trivial⟩ hA fun a w hA => ?_);exact wp_seq (aA aG hV hG (My p N m f _ x) ⟨rfl,by omega,trivial⟩ hA fun a w hA=>hR a w hA)
  by_cases hL:aF f N≤2^log
  ·rw[if_pos hL];refine⟨fun h=>absurd rfl h,fun _=>second _ fun a w hA => ?_⟩;refine wp_seq (aA aG hT (mL _ _ _) (Ey p (aF f N) m log x) ⟨nN (by omega),by rw[sK,decide_eq_false (by omega)],trivial⟩ hA fun a w hA => ?_);have hlv:=hv.take hle;have hfT:bD (aF f N) f:=fun j hj=>q2 j (by omega)
   exact aA aG (fun _ _=>pR.w _ _) (fS fun w' hw=>((FrAt.none _ _).add func59 (by kernel_rfl) (by kernel_rfl) (ZJ (hlv.on hw) (by omega) hfT)).add func58 (by kernel_rfl) (by kernel_rfl) fun cs pre r h1 h2 args ha=>ZQ cs pre r h1 h2 args w' ha) (Xq _ (aF f N) log x f) ⟨rfl,by decide,q3,by omega,rfl,rfl,Nat.le_refl _,fun j hj=>eB _ _,q5,oS _ _,trivial⟩ hA fun a w hA=>dE (r:=⟨aP (el (JL N f log x)) 0 (2^log),2^log,2^log,[.im (.int .i64 0)]⟩) (by kernel_rfl) hA
  ·rw[if_neg hL];refine⟨fun _=>second _ fun a w hA => ?_,fun h=>by cases h⟩;exact wp_seq (aA aG hT (mL _ _ _) (Ez p (aF f N) m log x) ⟨nN (by omega),by rw[sK,decide_eq_true (by omega)],trivial⟩ hA fun a w hA=>bH (l:=[.im (.slice none 0 0),.im (.int .i64 72)]) (r:=.many [.im (.slice none 0 0),.im (.int .i64 72)]) (by kernel_rfl) (by kernel_rfl) hA)
 ·rw[if_pos he];refine⟨fun _=>first _ fun a w hA => ?_,fun h=>absurd h he⟩;exact wp_seq (aA aG hV hG (Fa _ N f z x) ⟨rfl,hx,pB he,trivial⟩ hA fun a w hA=>bH (l:=[.im (.slice none 0 0),.im (.int .i64 (JA N f z x))]) (r:=.many [.im (.slice none 0 0),.im (.int .i64 (JA N f z x))]) (by kernel_rfl) (by kernel_rfl) hA)
end Go.Proofs.YtjjnbgoepbiojaaGreat.Ex
namespace Go.Proofs.YtjjnbgoepbiojaaGreat
open Go.Proofs.Tryz
open Go.RowKit
def yI (a0 a1 a2 a3 a4 a5 a6 a7:Nat):Nat:=a0+4294967296*(a1+4294967296*(a2+4294967296*(a3+4294967296*(a4+4294967296*(a5+4294967296*(a6+4294967296*a7))))))
def Ly (a0 a1 a2 a3 a4 a5 a6 a7:Nat):Prop:=a0<4294967296∧a1<4294967296∧a2<4294967296∧a3<4294967296∧a4<4294967296∧a5<4294967296∧a6<4294967296∧a7<4294967296
theorem iZ {a:Nat} (ha:a<18446744073709551616):∃l h:Nat,bits .and .u64 (a:Int) 4294967295=(l:Int)∧(a:Int)/4294967296=(h:Int)∧l<4294967296∧h<4294967296∧Hid (l+4294967296*h=a):=by
 obtain⟨h,l,e1,e2,h1,h2,e⟩:=Bl ha;exact⟨l,h,e2,e1,h2,h1,Lib.hid (by omega)⟩
def FV (A:Nat) (w:World) (e:Ending) (w':World):Prop :=
 ∃h0 h1 h2 h3 h4 h5 h6 h7:Nat,e=.returned (.agg #[.int .u64 h0,.int .u64 h1,.int .u64 h2,.int .u64 h3,.int .u64 h4,.int .u64 h5,.int .u64 h6,.int .u64 h7])∧Ly h0 h1 h2 h3 h4 h5 h6 h7∧Hid (yI h0 h1 h2 h3 h4 h5 h6 h7=A)∧Below w.heap.size w w'
set_option maxHeartbeats 1000000 in
theorem kD (a0 a1 a2 a3:Nat) (ha:cK a0 a1 a2 a3) (w:World) :
  Calls prog 72 #[.agg #[.int .u64 a0,.int .u64 a1,.int .u64 a2,.int .u64 a3]] w (FV (aD a0 a1 a2 a3) w):=by
 obtain⟨h0,h1,d0,d1,b0,b1,e0⟩:=iZ ha.1;obtain⟨h2,h3,d2,d3,b2,b3,e1⟩:=iZ ha.2.1;obtain⟨h4,h5,d4,d5,b4,b5,e2⟩:=iZ ha.2.2.1;obtain⟨h6,h7,d6,d7,b6,b7,e3⟩:=iZ ha.2.2.2
 go_enter func72,ntmps72
 go_wp2_with fail;refine wp_loop_rounds 5 ?_;rw[rounds_succ];go_wp2_with fail;rw[rounds_succ];go_wp2_with fail;rw[rounds_succ];go_wp2_with fail;rw[rounds_succ];go_wp2_with fail;rw[rounds_succ];go_wp2_with fail;refine bodyPost_ret (v:=.agg #[.int .u64 h0,.int .u64 h1,.int .u64 h2,.int .u64 h3,.int .u64 h4,.int .u64 h5,.int .u64 h6,.int .u64 h7]) (by simp[results,results72,go_sem]) rfl ?_;refine⟨h0,h1,h2,h3,h4,h5,h6,h7,rfl,⟨b0,b1,b2,b3,b4,b5,b6,b7⟩,?_,?_⟩
 ·have:=e0.out; have:=e1.out; have:=e2.out; have:=e3.out;exact Lib.hid (by unfold aD yI; omega)
 repeat (first|exact Below.refl _ _|refine Below.drew ?_|refine Below.alloc ?_ (by first|(simp; done)|(simp; omega)) _)
theorem Bi {l h:Nat} (hl:l<4294967296) (hh:h<4294967296):∃u s:Nat,(h:Int)*4294967296=(u:Int)∧bits .or .u64 (l:Int) (u:Int)=(s:Int)∧u<18446744073709551616∧s<18446744073709551616∧Hid (s=l+4294967296*h):=by
 obtain⟨s,e,hs,f⟩:=nE (k:=32) (lo:=l) (up:=h*4294967296) (by omega) (by omega) (Lib.hid (by omega)) (Lib.hid ⟨h,by omega⟩);have:=f.out;exact⟨h*4294967296,s,by omega,e,by omega,hs,Lib.hid (by omega)⟩
section
variable {P:Program} {ops:Array Oper} {Q:Exit→Act→World→Prop} {md:Region.Mode}
def En (md:Region.Mode) (ops:Array Oper) (n:Nat):Bool :=
 (List.range n).all fun i=>match ops[i]? with
  | some o=>o.after.all fun e => !Region.binds md e||decide (e.on<i)
  | none=>false
def sA (md:Region.Mode) (ops:Array Oper) (got:Nat→Bool) (i:Nat):Bool :=
 match ops[i]? with
  | some o=>o.after.all fun e => !Region.binds md e||got e.on
  | none=>false
def fZ (listed:Array Bool):Nat→Nat
 | 0=>0
 | n+1=>fZ listed n+if listed.getD n false=true then 0 else 1
theorem iQ (listed:Array Bool) (n:Nat):fZ listed (n+1)=fZ listed n+if listed.getD n false=true then 0 else 1:=rfl
theorem rI {listed:Array Bool} {i:Nat} (hi:i<listed.size) (h:listed.getD i false=false):∀n,fZ (listed.setIfInBounds i true) n+(if i<n then 1 else 0)=fZ listed n
 | 0=>by simp[fZ]
 | n+1=>by
  have ih:=rI hi h n;rw[iQ,iQ]
  by_cases e:i=n
  ·subst e;have h1:(listed.setIfInBounds i true).getD i false=true:=by simp[hi]
   rw[h1,h];simp at ih ⊢;omega
  ·rw[getD_set_ne false e]
   by_cases h2:i<n
   ·rw[if_pos h2]at ih; rw[if_pos (show i<n+1 by omega)]; omega
   ·rw[if_neg h2]at ih; rw[if_neg (show ¬i<n+1 by omega)]; omega
theorem kS {listed:Array Bool}:∀{n:Nat},fZ listed n=0→∀j,j<n→listed.getD j false=true
 | 0,_,j,hj=>by omega
 | n+1,h,j,hj=>by
  rw[iQ]at h
  by_cases e:listed.getD n false=true
  ·rw[if_pos e]at h
   rcases Nat.lt_or_ge j n with h1|h1
   ·exact kS (by omega) j h1
   ·obtain rfl:j=n:=by omega
    exact e
  ·rw[if_neg e]at h; omega
theorem kT {listed:Array Bool}:∀{n:Nat},0<fZ listed n→∃j,j<n∧listed.getD j false=false∧∀k,k<j→listed.getD k false=true
 | 0,h=>by unfold fZ at h; omega
 | n+1,h=>by
  rcases Nat.eq_zero_or_pos (fZ listed n)with h0|h0
  ·unfold fZ at h;rw[h0]at h;refine⟨n,by omega,?_,kS h0⟩;cases e:listed.getD n false with
   | true=>rw[e]at h; simp at h
   | false=>rfl
  ·obtain⟨j,hj,h1,h2⟩:=kT h0;exact⟨j,by omega,h1,h2⟩
def jP (n m:Nat):Array Bool:=Array.replicate n true++Array.replicate (m-n) false
theorem nK {n:Nat} {Inv:(Nat→Bool)→Act→World→Prop} {l:List Oper} (hl:ops=l.toArray) (hn:n<ops.size)
  (hs:Region.sinkB md ops n=true) (hc:Region.chainB md ops n=true) (hb:En md ops n=true) (hq:Region.seqB md ops (ops.size-n) n (jP n ops.size)=true)
  (step:∀(got:Nat→Bool) b u i,i<n→got i=false→sA md ops got i=true→Inv got b u→wpOp P ops Q i (Inv (fun j=>j==i||got j)) b u)
  (tail:∀got b u,(∀j,j<n→got j=true)→Inv got b u→wpList P ops Q (l.drop n) b u) :
  ∀(m:Nat) (listed:Array Bool) (b:Act) (u:World),HeadInv md ops n listed→fZ listed n=m→Inv (fun j=>listed.getD j false) b u→wpAny P md ops Q (m+(ops.size-n)) listed b u
 | 0,listed,b,u,inv,hm,h=>by
  have hall:=kS hm;have he:listed=jP n ops.size:=by
   refine Array.ext (by simp[jP,inv.size]; omega) fun j h1 h2 => ?_
   rcases Nat.lt_or_ge j n with hj|hj
   ·have:=hall j hj;simp[h1]at this;rw[this];simp[jP,hj]
   ·have:=inv.tail j hj (by rw[←inv.size]; exact h1);simp[h1]at this;rw[this];simp[jP,hj]
  subst he;have hlen:(l.drop n).length=ops.size-n:=by subst hl; simp
  rw[Nat.zero_add,←hlen];exact wpAny_of_seq (l.drop n) n _ b u (fun j=>by subst hl; simp[List.getElem?_drop]) (by rw[hlen]; exact hq) (tail _ b u hall h)
 | m+1,listed,b,u,inv,hm,h=>by
  rw[show m+1+(ops.size-n)=m+(ops.size-n)+1 by omega];refine⟨fun h0 => ?_,fun i hi => ?_⟩
  ·obtain⟨j,hj,h1,h2⟩:=kT (n:=n) (listed:=listed) (by omega);have hjr:j∈Region.ready md ops listed:=by
    have hbj:=List.all_eq_true.1 hb j (List.mem_range.2 hj);cases ho:ops[j]? with
    | none=>rw[ho]at hbj; cases hbj
    | some o =>
     rw[ho]at hbj;refine mem_ready.2 ⟨getD_in (by rw[inv.size]; omega) h1,o,ho,fun e he hbi=>h2 _ ?_⟩;have:=(Array.all_eq_true_iff_forall_mem.1 hbj) e he;simp[hbi]at this;exact this
   rw[h0]at hjr; cases hjr
  ·obtain⟨hun,o,ho,hall⟩:=mem_ready.1 hi;have hin:i<n:=by
    rcases Nat.lt_or_ge i n with h'|h'
    ·exact h'
    ·obtain⟨j,hj,h1,h2⟩:=kT (n:=n) (listed:=listed) (by omega);exact absurd hi (tail_waits hs hc hn inv _ j rfl hj (getD_in (by rw[inv.size]; omega) h1) i h')
   have his:i<listed.size:=by rw[inv.size]; omega
   have hun':=getD_both hun;refine wpOp_mono (fun b' u' h' => ?_) (step _ b u i hin hun' (by
    unfold sA;rw[ho];refine Array.all_eq_true_iff_forall_mem.2 fun e he => ?_
    cases hbi:Region.binds md e with
    | false=>rfl
    | true=>simpa[hbi]using hall e he hbi) h)
   refine nK hl hn hs hc hb hq step tail m _ b' u' (inv.set hi hin) ?_ ?_
   ·have:=rI his hun' n;rw[if_pos hin]at this; omega
   ·have hf:(fun j=>(listed.setIfInBounds i true).getD j false)=fun j=>j==i||listed.getD j false:=by
     funext j
     by_cases e:j=i
     ·subst e; simp[his]
     ·rw[getD_set_ne false (Ne.symm e)]; simp[e]
    rw[hf]; exact h'
theorem rJ (k:Nat):∀n,fZ (Array.replicate k false) n=n
 | 0=>rfl
 | n+1=>by rw[iQ,rJ k n,getD_replicate_false]; simp
theorem zN (n:Nat) (Inv:(Nat→Bool)→Act→World→Prop) {id:Nat} {a:Act} {w:World} {l:List Oper} (hm:P.follows .mixedOrders=true) (hn:n<l.length)
  (hs:Region.sinkB .any l.toArray n=true) (hc:Region.chainB .any l.toArray n=true) (hb:En .any l.toArray n=true) (hq:Region.seqB .any l.toArray (l.toArray.size-n) n (jP n l.toArray.size)=true)
  (start:Inv (fun _=>false) a w.drew)
  (step:∀(got:Nat→Bool) b u i,i<n→got i=false→sA .any l.toArray got i=true→Inv got b u→wpOp P l.toArray Q i (Inv (fun j=>j==i||got j)) b u)
  (tail:∀got b u,(∀j,j<n→got j=true)→Inv got b u→wpList P l.toArray Q (l.drop n) b u):(Code.region id l.toArray true).wp P Q a w:=by
 have hn':n<l.toArray.size:=by simpa using hn
 have inv0:HeadInv .any l.toArray n (Array.replicate l.toArray.size false) :=
  ⟨by simp,fun j oj _ hl=>(by rw[getD_replicate_false]at hl; cases hl),fun t _ ht=>getD_in (by simpa using ht) (getD_replicate_false _ _)⟩
 refine wp_region_any hm ?_;have hf:(fun j=>(Array.replicate l.toArray.size false).getD j false)=fun _:Nat=>false:=by funext j; exact getD_replicate_false _ _
 have H:=nK (md:=.any) rfl hn' hs hc hb hq step tail n _ a w.drew inv0 (rJ _ n) (by rw[hf]; exact start);rw[show n+(l.toArray.size-n)=l.toArray.size by omega]at H;exact H
end
structure QW (w wr:World) (A B P:Nat→Nat):Prop where
 below:Below w.heap.size w wr
 size:w.heap.size+1+1+1<wr.heap.size
 rowA:RowIs wr w.heap.size 4 A
 rowB:RowIs wr (w.heap.size+1) 4 B
 rowR:RowIs wr (w.heap.size+1+1) 4 (fun _=>0)
 rowP:RowIs wr (w.heap.size+1+1+1) 4 P
theorem QW.set {w wr:World} {A B P:Nat→Nat} (h:QW w wr A B P) {k d:Nat} (hk:k<4):QW w (wr.setCell ⟨w.heap.size+1+1+1,k,none⟩ (.int .u64 (d:Nat))) A B (cN P k d) :=
 ⟨h.below.setCell (p:=⟨w.heap.size+1+1+1,k,none⟩) (by simp; omega) _,by rw[World.size_setCell]; exact h.size,h.rowA.other (by omega) _,h.rowB.other (by omega) _,h.rowR.other (by omega) _,h.rowP.set hk⟩
theorem QW.drewN {w wr:World} {A B P:Nat→Nat} (h:QW w wr A B P) (n:Nat):QW w (wr.drewN n) A B P:=⟨h.below.trans (aV _ _ _),h.size,h.rowA,h.rowB,h.rowR,h.rowP⟩
theorem QW.start (w:World) (a0 a1 a2 a3 b0 b1 b2 b3:Nat) (t:TypeId):QW w ((((w.alloc (.cells #[.int .u64 a0,.int .u64 a1,.int .u64 a2,.int .u64 a3] t)).alloc (.cells #[.int .u64 b0,.int .u64 b1,.int .u64 b2,.int .u64 b3] t)).alloc (.cells #[.int .u64 0,.int .u64 0,.int .u64 0,.int .u64 0] t)).alloc (.cells #[.int .u64 0,.int .u64 0,.int .u64 0,.int .u64 0] t)) (eL [a0,a1,a2,a3]) (eL [b0,b1,b2,b3]) (fun _=>0):=by
 refine⟨?_,by simp,?_,?_,?_,?_⟩
 ·repeat (first|exact Below.refl _ _|refine Below.alloc ?_ (by first|(simp; done)|(simp; omega)) _)
 ·exact RowIs.mk4 (by simp[go_sem]) (by simp[go_sem]) (by simp[go_sem]) (by simp[go_sem]) (fun k=>by simp[go_sem])
 ·exact RowIs.mk4 (by simp[go_sem]) (by simp[go_sem]) (by simp[go_sem]) (by simp[go_sem]) (fun k=>by simp[go_sem])
 ·intro k hk
  match k,hk with
  | 0,_|1,_|2,_|3,_=>exact⟨by simp[go_sem],by simp[go_sem]⟩
 ·intro k hk
  match k,hk with
  | 0,_|1,_|2,_|3,_=>exact⟨by simp[go_sem],by simp[go_sem]⟩
theorem oZ {A B P:Nat→Nat} {k c t d:Nat} (h:cZ 18446744073709551616 P k+c*18446744073709551616^k=cZ 18446744073709551616 A k+cZ 18446744073709551616 B k) (e:t+18446744073709551616*d=A k+B k+c):cZ 18446744073709551616 (cN P k t) (k+1)+d*18446744073709551616^(k+1)=cZ 18446744073709551616 A (k+1)+cZ 18446744073709551616 B (k+1):=by
 rw[bR,bR,bR,dZ 18446744073709551616 P k t k (Nat.le_refl _),Nat.pow_succ];have hu:cN P k t k=t:=by unfold cN; rw[if_pos rfl]
 rw[hu];have e':t*18446744073709551616^k+d*(18446744073709551616^k*18446744073709551616)=A k*18446744073709551616^k+B k*18446744073709551616^k+c*18446744073709551616^k:=by
  rw[←Nat.add_mul,←Nat.add_mul,←e,Nat.add_mul];congr 1;rw[Nat.mul_comm (18446744073709551616^k) 18446744073709551616,←Nat.mul_assoc,Nat.mul_comm d 18446744073709551616]
 omega
theorem kB {A B P:Nat→Nat} {k c t d:Nat} (h:cZ 18446744073709551616 P k+cZ 18446744073709551616 B k=cZ 18446744073709551616 A k+c*18446744073709551616^k) (e:t+B k+c=A k+18446744073709551616*d):cZ 18446744073709551616 (cN P k t) (k+1)+cZ 18446744073709551616 B (k+1)=cZ 18446744073709551616 A (k+1)+d*18446744073709551616^(k+1):=by
 rw[bR,bR,bR,dZ 18446744073709551616 P k t k (Nat.le_refl _),Nat.pow_succ];have hu:cN P k t k=t:=by unfold cN; rw[if_pos rfl]
 rw[hu];have e':t*18446744073709551616^k+B k*18446744073709551616^k+c*18446744073709551616^k=A k*18446744073709551616^k+d*(18446744073709551616^k*18446744073709551616):=by
  rw[←Nat.add_mul,←Nat.add_mul,e,Nat.add_mul];congr 1;rw[Nat.mul_comm (18446744073709551616^k) 18446744073709551616,←Nat.mul_assoc,Nat.mul_comm d 18446744073709551616]
 omega
theorem VK (l:List Nat) (a0 a1 a2 a3:Nat) (h:l=[a0,a1,a2,a3]):cZ 18446744073709551616 (eL l) 4=aD a0 a1 a2 a3:=by subst h; rw[←kR]; rfl
theorem pX {B:Nat} {w w':World} {b:Nat} (h:Below B w w') (hb:B≤b) (d0 d1 d2 d3:Value):Below B w ((((w'.setCell ⟨b,0,none⟩ d0).setCell ⟨b,1,none⟩ d1).setCell ⟨b,2,none⟩ d2).setCell ⟨b,3,none⟩ d3) :=
 (((h.setCell (p:=⟨b,0,none⟩) hb _).setCell (p:=⟨b,1,none⟩) hb _).setCell (p:=⟨b,2,none⟩) hb _).setCell (p:=⟨b,3,none⟩) hb _
set_option maxHeartbeats 2000000 in
theorem gH (a0 a1 a2 a3 b0 b1 b2 b3:Nat) (ha:cK a0 a1 a2 a3) (hb:cK b0 b1 b2 b3) (w:World) :
  Calls prog 45 #[.agg #[.int .u64 a0,.int .u64 a1,.int .u64 a2,.int .u64 a3],.agg #[.int .u64 b0,.int .u64 b1,.int .u64 b2,.int .u64 b3]] w (Cw (aD a0 a1 a2 a3) (aD b0 b1 b2 b3) w):=by
 have hAl:=lT ha;have hBl:=lT hb;have HTA:=Lib.hid (VK [a0,a1,a2,a3] a0 a1 a2 a3 rfl);have HTB:=Lib.hid (VK [b0,b1,b2,b3] b0 b1 b2 b3 rfl);have HQ:=Lib.hid (QW.start w a0 a1 a2 a3 b0 b1 b2 b3 66);generalize eL [a0,a1,a2,a3]=A at *;generalize eL [b0,b1,b2,b3]=B at *;have HAl:=Lib.hid hAl; have HBl:=Lib.hid hBl;clear hAl hBl
 go_enter func45,ntmps45
 go_wp2_with fail
 go_loopw [7,8] (fun cv i wr=>∃(k c:Nat) (P:Nat→Nat),k≤4∧c≤1∧i=.int .i64 k∧cv=.int .u64 c∧QW w wr A B P∧Hid ((∀j,P j<18446744073709551616)∧cZ 18446744073709551616 P k+c*18446744073709551616^k=cZ 18446744073709551616 A k+cZ 18446744073709551616 B k)) (fun _ i _=>4-(intOf i).toNat)
 case atStart=>exact⟨0,0,fun _=>0,by omega,by omega,rfl,rfl,HQ.out,Lib.hid ⟨fun _=>by show 0<_; omega,by simp[cZ]⟩⟩
 case round =>
  obtain⟨k,c,P,hk,hc,rfl,rfl,m,mo⟩:=hrel
  by_cases hlt:k<4
  ·have ca:=m.rowA.cell hlt;have cb:=m.rowB.cell hlt;have cp:=m.rowP.cell hlt;have fp:=m.rowP.free hlt;have bA:=HAl.out k;have bB:=HBl.out k;have M:=Lib.hid m;clear m;obtain⟨s,es,bs,hs⟩:∃s:Nat,IntKind.u64.wrap ((A k:Int)+(B k:Int))=(s:Int)∧s<18446744073709551616∧Hid (s=(A k+B k)%18446744073709551616):=⟨(A k+B k)%18446744073709551616,by rw[←Int.natCast_add]; exact jT _,by omega,Lib.hid rfl⟩
   obtain⟨t,et,bt,ht⟩:∃t:Nat,IntKind.u64.wrap ((s:Int)+(c:Int))=(t:Int)∧t<18446744073709551616∧Hid (t=(s+c)%18446744073709551616):=⟨(s+c)%18446744073709551616,by rw[←Int.natCast_add]; exact jT _,by omega,Lib.hid rfl⟩
   by_cases h1:s<A k
   ·have t1:decide (s<A k)=true:=decide_eq_true (by omega);have hn:¬t<s:=by have:=hs.out; have:=ht.out; omega
    have t2:decide (t<s)=false:=decide_eq_false (by omega);have HE:=Lib.hid (show t+18446744073709551616*1=A k+B k+c by have:=hs.out; have:=ht.out; omega);clear h1 hn hs ht;go_wp2_with fail
    go_quiet (fail)
    go_wp2_with fail
    go_roundw
    case rel=>exact⟨k+1,1,cN P k t,by omega,by omega,by go_num,rfl,(M.out.drewN _).set hlt,Lib.hid ⟨fun j=>by unfold cN; split; exact bt; exact mo.out.1 j,oZ mo.out.2 HE.out⟩⟩
    case measure=>simp[intOf]; omega
   ·have t1:decide (s<A k)=false:=decide_eq_false (by omega)
    by_cases h2:t<s
    ·have t2:decide (t<s)=true:=decide_eq_true (by omega);have HE:=Lib.hid (show t+18446744073709551616*1=A k+B k+c by have:=hs.out; have:=ht.out; omega);clear h1 h2 hs ht;go_wp2_with fail
     go_quiet (fail)
     go_wp2_with fail
     go_roundw
     case rel=>exact⟨k+1,1,cN P k t,by omega,by omega,by go_num,rfl,(M.out.drewN _).set hlt,Lib.hid ⟨fun j=>by unfold cN; split; exact bt; exact mo.out.1 j,oZ mo.out.2 HE.out⟩⟩
     case measure=>simp[intOf]; omega
    ·have t2:decide (t<s)=false:=decide_eq_false (by omega);have HE:=Lib.hid (show t+18446744073709551616*0=A k+B k+c by have:=hs.out; have:=ht.out; omega);clear h1 h2 hs ht;go_wp2_with fail
     go_quiet (fail)
     go_wp2_with fail
     go_roundw
     case rel=>exact⟨k+1,0,cN P k t,by omega,by omega,by go_num,rfl,(M.out.drewN _).set hlt,Lib.hid ⟨fun j=>by unfold cN; split; exact bt; exact mo.out.1 j,oZ mo.out.2 HE.out⟩⟩
     case measure=>simp[intOf]; omega
  ·obtain rfl:k=4:=by omega
   have c0:=m.rowP.cell (show 0<4 by omega); have c1:=m.rowP.cell (show 1<4 by omega); have c2:=m.rowP.cell (show 2<4 by omega); have c3:=m.rowP.cell (show 3<4 by omega);have r0:=m.rowR.cell (show 0<4 by omega); have r1:=m.rowR.cell (show 1<4 by omega); have r2:=m.rowR.cell (show 2<4 by omega); have r3:=m.rowR.cell (show 3<4 by omega);have s0:=m.rowR.free (show 0<4 by omega); have s1:=m.rowR.free (show 1<4 by omega); have s2:=m.rowR.free (show 2<4 by omega); have s3:=m.rowR.free (show 3<4 by omega);have hz:=m.size;have HB:=Lib.hid m.below;clear m;go_wp2_with fail;refine bodyPost_ret (v:=.tuple #[.agg #[.int .u64 (P 0:Nat),.int .u64 (P 1:Nat),.int .u64 (P 2:Nat),.int .u64 (P 3:Nat)],.int .u64 (c:Nat)]) (by simp[results,results45,go_sem, *]) rfl ?_;refine⟨P 0,P 1,P 2,P 3,c,rfl,⟨mo.out.1 0,mo.out.1 1,mo.out.1 2,mo.out.1 3⟩,hc,?_,pX HB.out (by omega) _ _ _ _⟩;have h:=mo.out.2;rw[HTA.out,HTB.out,←kR P,show (18446744073709551616:Nat)^4=115792089237316195423570985008687907853269984665640564039457584007913129639936 by rfl]at h;omega
set_option maxHeartbeats 2000000 in
theorem fT (a0 a1 a2 a3 b0 b1 b2 b3:Nat) (ha:cK a0 a1 a2 a3) (hb:cK b0 b1 b2 b3) (w:World) :
  Calls prog 68 #[.agg #[.int .u64 a0,.int .u64 a1,.int .u64 a2,.int .u64 a3],.agg #[.int .u64 b0,.int .u64 b1,.int .u64 b2,.int .u64 b3]] w (JK (aD a0 a1 a2 a3) (aD b0 b1 b2 b3) w):=by
 have hAl:=lT ha;have hBl:=lT hb;have HTA:=Lib.hid (VK [a0,a1,a2,a3] a0 a1 a2 a3 rfl);have HTB:=Lib.hid (VK [b0,b1,b2,b3] b0 b1 b2 b3 rfl);have HQ:=Lib.hid (QW.start w a0 a1 a2 a3 b0 b1 b2 b3 66);generalize eL [a0,a1,a2,a3]=A at *;generalize eL [b0,b1,b2,b3]=B at *;have HAl:=Lib.hid hAl; have HBl:=Lib.hid hBl;clear hAl hBl
 go_enter func68,ntmps68
 go_wp2_with fail
 go_loopw [7,8] (fun cv i wr=>∃(k c:Nat) (P:Nat→Nat),k≤4∧c≤1∧i=.int .i64 k∧cv=.int .u64 c∧QW w wr A B P∧Hid ((∀j,P j<18446744073709551616)∧cZ 18446744073709551616 P k+cZ 18446744073709551616 B k=cZ 18446744073709551616 A k+c*18446744073709551616^k)) (fun _ i _=>4-(intOf i).toNat)
 case atStart=>exact⟨0,0,fun _=>0,by omega,by omega,rfl,rfl,HQ.out,Lib.hid ⟨fun _=>by show 0<_; omega,by simp[cZ]⟩⟩
 case round =>
  obtain⟨k,c,P,hk,hc,rfl,rfl,m,mo⟩:=hrel
  by_cases hlt:k<4
  ·have ca:=m.rowA.cell hlt;have cb:=m.rowB.cell hlt;have cp:=m.rowP.cell hlt;have fp:=m.rowP.free hlt;have bA:=HAl.out k;have bB:=HBl.out k;have M:=Lib.hid m;clear m;obtain⟨s,es,bs,hs⟩:∃s:Nat,IntKind.u64.wrap ((A k:Int)-(B k:Int))=(s:Int)∧s<18446744073709551616∧Hid (s=(A k+18446744073709551616-B k)%18446744073709551616):=⟨(A k+18446744073709551616-B k)%18446744073709551616,by rw[IntKind.wrap_u64]; omega,by omega,Lib.hid rfl⟩
   obtain⟨t,et,bt,ht⟩:∃t:Nat,IntKind.u64.wrap ((s:Int)-(c:Int))=(t:Int)∧t<18446744073709551616∧Hid (t=(s+18446744073709551616-c)%18446744073709551616):=⟨(s+18446744073709551616-c)%18446744073709551616,by rw[IntKind.wrap_u64]; omega,by omega,Lib.hid rfl⟩
   have hs':=hs.out;have ht':=ht.out;clear hs ht
   by_cases h1:A k<B k
   ·have t1:decide (A k<B k)=true:=decide_eq_true h1;have HE:=Lib.hid (show t+B k+c=A k+18446744073709551616*1 by omega);clear h1 hs' ht';go_wp2_with fail
    go_quiet (fail)
    go_wp2_with fail
    go_region
    go_wp2_with fail
    go_roundw
    case rel=>exact⟨k+1,1,cN P k t,by omega,by omega,by go_num,rfl,(M.out.drewN _).set hlt,Lib.hid ⟨fun j=>by unfold cN; split; exact bt; exact mo.out.1 j,kB mo.out.2 HE.out⟩⟩
    case measure=>simp[intOf]; omega
   ·have t1:decide (A k<B k)=false:=decide_eq_false h1
    by_cases h2:A k=B k
    ·have t2:((A k:Int)==(B k:Int))=true:=by simp; omega
     rcases (show c=0∨c=1 by omega)with rfl|rfl
     ·obtain rfl:s=t:=by omega
      clear et;have HE:=Lib.hid (show s+B k+0=A k+18446744073709551616*0 by omega);clear h1 h2 hs' ht';go_wp2_with fail
      go_quiet (fail)
      go_wp2_with fail
      go_region
      go_wp2_with fail
      go_roundw
      case rel=>exact⟨k+1,0,cN P k s,by omega,by omega,by go_num,rfl,(M.out.drewN _).set hlt,Lib.hid ⟨fun j=>by unfold cN; split; exact bs; exact mo.out.1 j,kB mo.out.2 HE.out⟩⟩
      case measure=>simp[intOf]; omega
     ·have et2:IntKind.u64.wrap ((s:Int)-1)=(t:Int):=et;clear et;have HE:=Lib.hid (show t+B k+1=A k+18446744073709551616*1 by omega);clear h1 h2 hs' ht';go_wp2_with fail
      go_quiet (fail)
      go_wp2_with fail
      go_region
      go_wp2_with fail
      go_roundw
      case rel=>exact⟨k+1,1,cN P k t,by omega,by omega,by go_num,rfl,(M.out.drewN _).set hlt,Lib.hid ⟨fun j=>by unfold cN; split; exact bt; exact mo.out.1 j,kB mo.out.2 HE.out⟩⟩
      case measure=>simp[intOf]; omega
    ·have t2:((A k:Int)==(B k:Int))=false:=by simp; omega
     have HE:=Lib.hid (show t+B k+c=A k+18446744073709551616*0 by omega);clear h1 h2 hs' ht';go_wp2_with fail
     go_quiet (fail)
     go_wp2_with fail
     go_region
     go_wp2_with fail
     go_roundw
     case rel=>exact⟨k+1,0,cN P k t,by omega,by omega,by go_num,rfl,(M.out.drewN _).set hlt,Lib.hid ⟨fun j=>by unfold cN; split; exact bt; exact mo.out.1 j,kB mo.out.2 HE.out⟩⟩
     case measure=>simp[intOf]; omega
  ·obtain rfl:k=4:=by omega
   have c0:=m.rowP.cell (show 0<4 by omega); have c1:=m.rowP.cell (show 1<4 by omega); have c2:=m.rowP.cell (show 2<4 by omega); have c3:=m.rowP.cell (show 3<4 by omega);have r0:=m.rowR.cell (show 0<4 by omega); have r1:=m.rowR.cell (show 1<4 by omega); have r2:=m.rowR.cell (show 2<4 by omega); have r3:=m.rowR.cell (show 3<4 by omega);have s0:=m.rowR.free (show 0<4 by omega); have s1:=m.rowR.free (show 1<4 by omega); have s2:=m.rowR.free (show 2<4 by omega); have s3:=m.rowR.free (show 3<4 by omega);have hz:=m.size;have HB:=Lib.hid m.below;clear m;go_wp2_with fail;refine bodyPost_ret (v:=.tuple #[.agg #[.int .u64 (P 0:Nat),.int .u64 (P 1:Nat),.int .u64 (P 2:Nat),.int .u64 (P 3:Nat)],.int .u64 (c:Nat)]) (by simp[results,results68,go_sem, *]) rfl ?_;refine⟨P 0,P 1,P 2,P 3,c,rfl,⟨mo.out.1 0,mo.out.1 1,mo.out.1 2,mo.out.1 3⟩,hc,?_,pX HB.out (by omega) _ _ _ _⟩;have h:=mo.out.2;rw[HTA.out,HTB.out,←kR P,show (18446744073709551616:Nat)^4=115792089237316195423570985008687907853269984665640564039457584007913129639936 by rfl]at h;omega
end Go.Proofs.YtjjnbgoepbiojaaGreat
