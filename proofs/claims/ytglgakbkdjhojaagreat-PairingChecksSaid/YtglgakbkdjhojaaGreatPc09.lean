/- Pc09 -/
import Derived.Test.YtglgakbkdjhojaaGreatPc08
import Derived.Test.YtglgakbkdjhojaaGreatPc02
import Derived.Test.YtglgakbkdjhojaaGreatProg
set_option maxRecDepth 100000
set_option linter.unusedVariables false
set_option linter.unusedSimpArgs false
noncomputable section
namespace Go.Proofs.YtglgakbkdjhojaaGreat.Ex
open Go.Proofs.Tryz
open Go.RowKit
def Jy (x:Nat):Nat:=fw x 0*2%18446744073709551616
def mA (x p:Nat):Nat:=(if p=0 then Jy x else fw (wv x/2^(p*4-1)) 0)%32
def mB (x p:Nat):Int:=((mA x p+1)/2:Nat)-(if 16≤mA x p then 16 else 0:Int)
def fI (d:Bool):Tab:=((UE d).add 260 aJz).add 254 aRc
theorem jG (d:Bool):TabOk prog (fI d):=((QS d).ad func260 aCz).ad func254 aOn
def dR (b o n m:Nat):List At:=[.c (kB b o n m),.c (iI 4)]
def atX (old:Nat→Nat→List At→Prop) (x i w:Nat):Ext :=
 { idx:=assoc [(13,i)],ld:=assoc [(14,[At.q x])],st:=fun _=>none,gen:=assoc [(17,uI (Jy x)),(32,uI 32),(34,uI w),(37,iI (w+1)),(42,uI (w/16)),(47,iI 16)],mks:=fun _=>none,ky:=fun _=>none,old:=old,T2:=Fr0 }
def atN (p w:Nat) (c0 c1:Bool) (v:Int):Nat→Option Value:=assoc [(19,.bool c0),(24,iI (p*4)),(25,iI (p*4-1)),(36,uI (w+1)),(38,iI ((w+1)/2)),(43,.bool c1),(48,.int .i64 v)]
def nV (op:BinOp) (t:Nat) (x y:Operand) (v u r:Value):Prop:=∀w:World,(do eqGuard op t x y v u; binOp op t v u:Sem Value).run prog w=.ok r w
theorem Te (old:Nat→Nat→List At→Prop) (b o n m i p x w:Nat) (v:Int):aT prog (qX prog (atX old x i w)) (fun _=>⟨fun s=>fI true,fun s=>true,atN p w true true v⟩) f234 80 [.v (.fl (dR b o n m)),.v (.im (iI i)),.v (.im (iI p))]=some ([Int.ofNat i=Int.ofNat i,i<n,old b (o+i*4) [At.q x],cO [At.q x]=4,nV .shl 22 (.tmp 16) (.const (.int .u64 1)) (.int .u64 (fw x 0:Nat)) (.int .u64 1) (uI (Jy x)),aI .gtr .i64 (Int.ofNat p) 0=some (.bool true),aI .mul .i64 (Int.ofNat p) (Int.ofNat 4)=some (iI (p*4)),aI .sub .i64 (Int.ofNat (p*4)) 1=some (iI (p*4-1)),p*4-1<9223372036854775808,nV .shl 22 (.const (.int .u64 1)) (.tmp 31) (.int .u64 1) (.int .i64 (IntKind.i64.wrap (Int.ofNat 4+1))) (uI 32),nV .and 22 (.tmp 28) (.tmp 33) (.int .u64 (fw (wv x/2^(p*4-1)) 0:Nat)) (.int .u64 (IntKind.u64.wrap (Int.ofNat 32-1))) (uI w),aI .add .u64 (Int.ofNat w) 1=some (uI (w+1)),∀W:World,(convert 22 3 (uI (w+1))).run prog W=.ok (iI (w+1)) W,aI .quo .i64 (Int.ofNat (w+1)) 2=some (iI ((w+1)/2)),nV .shr 22 (.tmp 39) (.tmp 41) (uI w) (iI 4) (uI (w/16)),aI .eql .u64 (Int.ofNat (w/16)) 1=some (.bool true),nV .shl 3 (.const (.int .i64 1)) (.tmp 46) (.int .i64 1) (iI 4) (iI 16),aI .sub .i64 (Int.ofNat ((w+1)/2)) (Int.ofNat 16)=some (.int .i64 v)],.one (.im (.int .i64 v))):=by kernel_rfl
theorem Tf (old:Nat→Nat→List At→Prop) (b o n m i p x w:Nat) (v:Int):aT prog (qX prog (atX old x i w)) (fun _=>⟨fun s=>fI true,fun s=>true,atN p w true false v⟩) f234 80 [.v (.fl (dR b o n m)),.v (.im (iI i)),.v (.im (iI p))]=some ([Int.ofNat i=Int.ofNat i,i<n,old b (o+i*4) [At.q x],cO [At.q x]=4,nV .shl 22 (.tmp 16) (.const (.int .u64 1)) (.int .u64 (fw x 0:Nat)) (.int .u64 1) (uI (Jy x)),aI .gtr .i64 (Int.ofNat p) 0=some (.bool true),aI .mul .i64 (Int.ofNat p) (Int.ofNat 4)=some (iI (p*4)),aI .sub .i64 (Int.ofNat (p*4)) 1=some (iI (p*4-1)),p*4-1<9223372036854775808,nV .shl 22 (.const (.int .u64 1)) (.tmp 31) (.int .u64 1) (.int .i64 (IntKind.i64.wrap (Int.ofNat 4+1))) (uI 32),nV .and 22 (.tmp 28) (.tmp 33) (.int .u64 (fw (wv x/2^(p*4-1)) 0:Nat)) (.int .u64 (IntKind.u64.wrap (Int.ofNat 32-1))) (uI w),aI .add .u64 (Int.ofNat w) 1=some (uI (w+1)),∀W:World,(convert 22 3 (uI (w+1))).run prog W=.ok (iI (w+1)) W,aI .quo .i64 (Int.ofNat (w+1)) 2=some (iI ((w+1)/2)),nV .shr 22 (.tmp 39) (.tmp 41) (uI w) (iI 4) (uI (w/16)),aI .eql .u64 (Int.ofNat (w/16)) 1=some (.bool false)],.one (.im (iI ((w+1)/2)))):=by kernel_rfl
theorem Tg (old:Nat→Nat→List At→Prop) (b o n m i p x w:Nat) (v:Int):aT prog (qX prog (atX old x i w)) (fun _=>⟨fun s=>fI true,fun s=>true,atN p w false true v⟩) f234 80 [.v (.fl (dR b o n m)),.v (.im (iI i)),.v (.im (iI p))]=some ([Int.ofNat i=Int.ofNat i,i<n,old b (o+i*4) [At.q x],cO [At.q x]=4,nV .shl 22 (.tmp 16) (.const (.int .u64 1)) (.int .u64 (fw x 0:Nat)) (.int .u64 1) (uI (Jy x)),aI .gtr .i64 (Int.ofNat p) 0=some (.bool false),nV .shl 22 (.const (.int .u64 1)) (.tmp 31) (.int .u64 1) (.int .i64 (IntKind.i64.wrap (Int.ofNat 4+1))) (uI 32),nV .and 22 (.tmp 28) (.tmp 33) (.int .u64 (Jy x:Nat)) (.int .u64 (IntKind.u64.wrap (Int.ofNat 32-1))) (uI w),aI .add .u64 (Int.ofNat w) 1=some (uI (w+1)),∀W:World,(convert 22 3 (uI (w+1))).run prog W=.ok (iI (w+1)) W,aI .quo .i64 (Int.ofNat (w+1)) 2=some (iI ((w+1)/2)),nV .shr 22 (.tmp 39) (.tmp 41) (uI w) (iI 4) (uI (w/16)),aI .eql .u64 (Int.ofNat (w/16)) 1=some (.bool true),nV .shl 3 (.const (.int .i64 1)) (.tmp 46) (.int .i64 1) (iI 4) (iI 16),aI .sub .i64 (Int.ofNat ((w+1)/2)) (Int.ofNat 16)=some (.int .i64 v)],.one (.im (.int .i64 v))):=by kernel_rfl
theorem Th (old:Nat→Nat→List At→Prop) (b o n m i p x w:Nat) (v:Int):aT prog (qX prog (atX old x i w)) (fun _=>⟨fun s=>fI true,fun s=>true,atN p w false false v⟩) f234 80 [.v (.fl (dR b o n m)),.v (.im (iI i)),.v (.im (iI p))]=some ([Int.ofNat i=Int.ofNat i,i<n,old b (o+i*4) [At.q x],cO [At.q x]=4,nV .shl 22 (.tmp 16) (.const (.int .u64 1)) (.int .u64 (fw x 0:Nat)) (.int .u64 1) (uI (Jy x)),aI .gtr .i64 (Int.ofNat p) 0=some (.bool false),nV .shl 22 (.const (.int .u64 1)) (.tmp 31) (.int .u64 1) (.int .i64 (IntKind.i64.wrap (Int.ofNat 4+1))) (uI 32),nV .and 22 (.tmp 28) (.tmp 33) (.int .u64 (Jy x:Nat)) (.int .u64 (IntKind.u64.wrap (Int.ofNat 32-1))) (uI w),aI .add .u64 (Int.ofNat w) 1=some (uI (w+1)),∀W:World,(convert 22 3 (uI (w+1))).run prog W=.ok (iI (w+1)) W,aI .quo .i64 (Int.ofNat (w+1)) 2=some (iI ((w+1)/2)),nV .shr 22 (.tmp 39) (.tmp 41) (uI w) (iI 4) (uI (w/16)),aI .eql .u64 (Int.ofNat (w/16)) 1=some (.bool false)],.one (.im (iI ((w+1)/2)))):=by kernel_rfl
theorem Ka (x:Nat):nV .shl 22 (.tmp 16) (.const (.int .u64 1)) (.int .u64 (fw x 0:Nat)) (.int .u64 1) (uI (Jy x)):=fun w=>by
 have h:=(dE x).1;simp[eqGuard,binOp,go_sem,IntKind.wrap,IntKind.signed,uI,Jy]
theorem PI:nV .shl 22 (.const (.int .u64 1)) (.tmp 31) (.int .u64 1) (.int .i64 (IntKind.i64.wrap (Int.ofNat 4+1))) (uI 32):=fun w=>by
 have e:IntKind.i64.wrap (Int.ofNat 4+1)=5:=by decide
 rw[e];simp[eqGuard,binOp,go_sem,IntKind.wrap,uI]
theorem Yt:nV .shl 3 (.const (.int .i64 1)) (.tmp 46) (.int .i64 1) (iI 4) (iI 16):=fun w=>by
 simp[eqGuard,binOp,go_sem,IntKind.wrap,iI]
theorem aLc (x:Nat) (h:x<18446744073709551616):nV .and 22 (.tmp 28) (.tmp 33) (.int .u64 (x:Nat)) (.int .u64 (IntKind.u64.wrap (Int.ofNat 32-1))) (uI (x%32)):=fun w=>by
 have e:IntKind.u64.wrap (Int.ofNat 32-1)=((31:Nat):Int):=by decide
 rw[e];have h2:=bits_and_u64_nat x 31 h (by omega);have h3:x &&& 31=x%32:=Nat.and_two_pow_sub_one_eq_mod x 5;rw[h3]at h2;simp[eqGuard,binOp,go_sem,uI];exact h2
theorem aOs (x:Nat) (h:x<64) (W:World):(convert 22 3 (uI x)).run prog W=.ok (iI x) W:=by
 have e:IntKind.i64.wrap (x:Int)=x:=yN (by omega);have e2:(x:Int)%18446744073709551616=x:=by omega
 simp[convert,go_sem,uI,iI,e]
theorem aUU (x:Nat) (h:x<32):nV .shr 22 (.tmp 39) (.tmp 41) (uI x) (iI 4) (uI (x/16)):=fun w=>by
 simp[eqGuard,binOp,go_sem,uI,iI]
theorem Oc (x p:Nat):mA x p<32:=Nat.mod_lt _ (by omega)
theorem aVX (n:Nat) (h:n<100):aI .add .u64 (Int.ofNat n) 1=some (uI (n+1)):=by
 show some (Value.int .u64 (IntKind.u64.wrap ((n:Int)+1)))=_;have e:IntKind.u64.wrap ((n:Int)+1)=((n+1:Nat):Int):=by
  unfold IntKind.wrap;simp[IntKind.signed,IntKind.bits];omega
 rw[e]; rfl
theorem QV (k:IntKind) (n:Nat):aI .eql k (Int.ofNat n) 1=some (.bool (decide (n=1))):=by
 show some (Value.bool ((n:Int)==1))=_
 by_cases h:n=1
 ·subst h; rfl
 ·rw[decide_eq_false h,beq_eq_false_iff_ne.2 (by omega)]
theorem aET {w0:World} (b o n m i p x:Nat) (hx:oldOf w0 b (o+i*4) [.q x]) (hi:i<n) (hp:p<1152921504606846976):Calls prog 234 #[.agg (aA (dR b o n m)).toArray,iI i,iI p] w0 (fun e w'=>e=.returned (.int .i64 (mB x p))∧Below w0.heap.size w0 w'):=by
 have hq:∀w,cS prog (qX prog (atX (oldOf w0) x i w)) w0.heap.size w0:=fun w=>oC (jR _) fun _ _ _ h=>h
 have hT:∀n d:Nat,TabOkW prog (fI true) w0.heap.size w0:=fun _ _=>(jG true).w _ _
 have ha:bQ w0 [.v (.fl (dR b o n m)),.v (.im (iI i)),.v (.im (iI p))] [.agg (aA (dR b o n m)).toArray,iI i,iI p]:=⟨rfl,rfl,rfl,trivial⟩;have hw:=Oc x p;have hfw:=(dE (wv x/2^(p*4-1))).1;have hs:Jy x<18446744073709551616:=Nat.mod_lt _ (by omega);have o1:=aVX (mA x p) (by omega);have o2:=aOs (mA x p+1) (by omega);have o3:aI .quo .i64 (Int.ofNat (mA x p+1)) 2=some (iI ((mA x p+1)/2)):=aLK (k:=2) (by omega) (by omega);have o4:=aUU (mA x p) hw;have hv:16≤mA x p→aI .sub .i64 (Int.ofNat ((mA x p+1)/2)) (Int.ofNat 16)=some (.int .i64 (mB x p)):=fun h=>by
  show some (Value.int .i64 (IntKind.i64.wrap ((((mA x p+1)/2:Nat):Int)-16)))=_;unfold mB;rw[if_pos h,IntKind.wrap_i64];congr 2;omega
 have hn:¬ 16≤mA x p→mB x p=Int.ofNat ((mA x p+1)/2):=fun h=>by
  unfold mB;rw[if_neg h]; simp
 by_cases hp0:p=0
 ·have hd:mA x p=Jy x%32:=by unfold mA; rw[if_pos hp0]
  have o5:=aLc (Jy x) hs;rw[←hd]at o5;have g0:aI .gtr .i64 (Int.ofNat p) 0=some (.bool false):=by rw[hp0]; rfl
  by_cases h16:16≤mA x p
  ·exact bE aF hT (hq _) func234 (Tg (oldOf w0) b o n m i p x (mA x p) (mB x p)) ⟨rfl,hi,hx,rfl,Ka x,g0,PI,o5,o1,o2,o3,o4,by rw[QV,decide_eq_true (by omega)],Yt,hv h16,trivial⟩ ha
  ·rw[hn h16];exact bE aF hT (hq _) func234 (Th (oldOf w0) b o n m i p x (mA x p) 0) ⟨rfl,hi,hx,rfl,Ka x,g0,PI,o5,o1,o2,o3,o4,by rw[QV,decide_eq_false (by omega)],trivial⟩ ha
 ·have hd:mA x p=fw (wv x/2^(p*4-1)) 0%32:=by unfold mA; rw[if_neg hp0]
  have o5:=aLc _ hfw;rw[←hd]at o5;have g0:aI .gtr .i64 (Int.ofNat p) 0=some (.bool true):=by
   have:=CB (i:=p) (n:=0);rw[decide_eq_true (by omega)]at this;exact this
  have g1:aI .mul .i64 (Int.ofNat p) (Int.ofNat 4)=some (iI (p*4)):=aVY (by omega);have g2:aI .sub .i64 (Int.ofNat (p*4)) 1=some (iI (p*4-1)):=vI (k:=1) (by omega) (by omega)
  by_cases h16:16≤mA x p
  ·exact bE aF hT (hq _) func234 (Te (oldOf w0) b o n m i p x (mA x p) (mB x p)) ⟨rfl,hi,hx,rfl,Ka x,g0,g1,g2,by omega,PI,o5,o1,o2,o3,o4,by rw[QV,decide_eq_true (by omega)],Yt,hv h16,trivial⟩ ha
  ·rw[hn h16];exact bE aF hT (hq _) func234 (Tf (oldOf w0) b o n m i p x (mA x p) 0) ⟨rfl,hi,hx,rfl,Ka x,g0,g1,g2,by omega,PI,o5,o1,o2,o3,o4,by rw[QV,decide_eq_false (by omega)],trivial⟩ ha
def gAt (b o n m:Nat) (x:Nat→Nat):jV
 | [.v (.fl [.c (.slice (some ⟨b',o',.none⟩) n' m'),.c (.int .i64 (.ofNat 4))]),.v (.im (.int .i64 (.ofNat i))),.v (.im (.int .i64 (.ofNat p)))] =>
  some ([b'=b,o'=o,n'=n,m'=m,i<n,p<1152921504606846976],.one (.im (.int .i64 (mB (x i) p))))
 | _=>none
theorem aDs {w:World} {b o n m:Nat} {x:Nat→Nat} (hx:∀i,i<n→oldOf w b (o+i*4) [.q (x i)]):∀cs pre r,gAt b o n m x cs=some (pre,r)→aZ pre→∀(args:List Value),bQ w cs args→Good prog 234 r args w:=by
 intro cs pre r hg hp args ha;unfold gAt at hg;split at hg
 ·rename_i b' o' n' m' i p;cases hg;obtain⟨rfl,rfl,rfl,rfl,hi,hpp,_⟩:=hp
  match args,ha with
  | [u,v,t],ha =>
   have h1:u=.agg (aA (dR b' o' n' m')).toArray:=ha.1;have h2:v=iI i:=ha.2.1;have h3:t=iI p:=ha.2.2.1;subst h1; subst h2; subst h3;exact aET b' o' n' m' i p (x i) (hx i hi) hi hpp
  | [],ha=>exact ha.elim
  | [_],ha=>exact ha.2.elim
  | [_,_],ha=>exact ha.2.2.elim
  | _::_::_::_::_,ha=>exact ha.2.2.2.elim
 ·cases hg
def UR (old:Nat→Nat→List At→Prop):Ext:={ idx:=fun _=>none,ld:=fun _=>none,st:=fun _=>none,gen:=fun _=>none,mks:=fun _=>none,ky:=fun _=>none,old:=old,T2:=Fr0 }
theorem sG {x:Ext} {w:World} (h:x.old=oldOf w) (h2:x.T2=Fr0):cS prog (qX prog x) w.heap.size w:=oC (h2▸jR _) fun _ _ _ q=>h▸q
def mV (x:Nat→Nat):Nat→Nat
 | 0=>0
 | i+1=>if yL (x i)>mV x i then yL (x i)else mV x i
theorem RA (x:Nat→Nat):∀i,mV x i≤256
 | 0=>Nat.zero_le _
 | i+1=>by
  have:=RA x i;have:=aIW (x i);unfold mV;split<;>omega
theorem Gi (x:Nat→Nat):∀n i,i<n→yL (x i)≤mV x n
 | n+1,i,h=>by
  unfold mV
  by_cases e:i=n
  ·subst e; split<;>omega
  ·have:=Gi x n i (by omega);split<;>omega
def plX (old:Nat→Nat→List At→Prop) (x i:Nat):Ext:={ UR old with idx:=assoc [(11,i)],ld:=assoc [(12,[At.q x])] }
def plF (b o n m i mx:Nat):List Fact:=[.slot 1 (.pt 1 0),.row 1 true (dR b o n m),.slot 3 (.im (iI mx)),.slot 7 (.im (kB b o n m)),.slot 8 (.im (iI n)),.slot 9 (.im (iI i))]
def Bz (num:Nat→Option Value) (_:Nat):Cfg:=⟨fun _=>fI true,fun _=>true,num⟩
def lX:Code:=(f253.body).getD .skip
def Fp:Code:=qD (qD (cB (cA (cB (cB lX)))))
theorem aHZ:lX=.seq (cA lX) (.seq (cA (cB lX)) (.seq (.seq (cA (cA (cB (cB lX)))) (.block 0 (.loop Fp))) (cB (cB (cB lX))))):=by kernel_rfl
def plA (b o n m:Nat):List Fact:=[.slot 1 (.pt 1 0),.row 1 true (dR b o n m)]
def plB (b o n m:Nat):List Fact:=[.slot 1 (.pt 1 0),.row 1 true (dR b o n m),.slot 3 (.im (iI 0))]
theorem aVC (b o n m:Nat):aX prog (qG prog) f253.ntmps (Bz fun _=>none) 40 (cA lX) (lS 0 [.v (.fl (dR b o n m))]) (plA b o n m)=some ([],.nrm,plA b o n m):=by kernel_rfl
theorem aVB (b o n m:Nat):aX prog (qG prog) f253.ntmps (Bz fun _=>none) 40 (cA (cB lX)) (plA b o n m) (plB b o n m)=some ([],.nrm,plB b o n m):=by kernel_rfl
theorem aVA (b o n m:Nat):aX prog (qG prog) f253.ntmps (Bz fun _=>none) 40 (cA (cA (cB (cB lX)))) (plB b o n m) (plF b o n m 0 0)=some ([],.nrm,plF b o n m 0 0):=by kernel_rfl
theorem aVD (old:Nat→Nat→List At→Prop) (b o n m i mx mx' x:Nat):aX prog (qX prog (plX old x i)) f253.ntmps (Bz (assoc [(10,.bool true),(16,iI mx'),(17,iI (i+1))])) 40 Fp (plF b o n m i mx) (plF b o n m (i+1) mx')=some ([aI .lss .i64 (Int.ofNat i) (Int.ofNat n)=some (.bool true),Int.ofNat i=Int.ofNat i,i<n,old b (o+i*4) [.q x],cO [At.q x]=4,Value.int .i64 (if (Int.ofNat (yL x))>(Int.ofNat mx)then Int.ofNat (yL x)else Int.ofNat mx)=iI mx',aI .add .i64 (Int.ofNat i) 1=some (iI (i+1))],.nrm,plF b o n m (i+1) mx'):=by kernel_rfl
theorem aOO (b o n m i mx:Nat):aX prog (qG prog) f253.ntmps (Bz (assoc [(10,.bool false)])) 40 Fp (plF b o n m i mx) (plF b o n m i mx)=some ([aI .lss .i64 (Int.ofNat i) (Int.ofNat n)=some (.bool false)],.ex 0,plF b o n m i mx):=by kernel_rfl
theorem aHY (b o n m i mx:Nat):aX prog (qG prog) f253.ntmps (Bz (assoc [(21,iI (mx/4)),(22,iI (mx/4+1))])) 40 (cB (cB (cB lX))) (plF b o n m i mx) [.slot 2 (.im (iI (mx/4+1)))]=some ([aI .quo .i64 (Int.ofNat mx) (Int.ofNat 4)=some (iI (mx/4)),aI .add .i64 (Int.ofNat (mx/4)) 1=some (iI (mx/4+1))],.rt,[.slot 2 (.im (iI (mx/4+1)))]):=by kernel_rfl
theorem xZ {w0:World} (b o n m:Nat) (x:Nat→Nat) (hx:∀i,i<n→oldOf w0 b (o+i*4) [.q (x i)]) (hn:n<4611686018427387904):Calls prog 253 #[.agg (aA (dR b o n m)).toArray] w0 (fun e w'=>e=.returned (iI (mV x n/4+1))∧Below w0.heap.size w0 w'):=by
 have hG:cS prog (qG prog) w0.heap.size w0:=(aK _).w _ _;have hT:∀n d:Nat,TabOkW prog (fI true) w0.heap.size w0:=fun _ _=>(jG true).w _ _
 refine dU func253 (c:=lX) rfl (args:=[.agg (aA (dR b o n m)).toArray]) (cs:=[.v (.fl (dR b o n m))]) ⟨rfl,trivial⟩ (Nat.le_of_ble_eq_true (by kernel_rfl)) fun a w' hA => ?_
 rw[aHZ];refine wp_seq (aD aF hT hG (aVC b o n m) trivial hA fun a w' hA => ?_);refine wp_seq (aD aF hT hG (aVB b o n m) trivial hA fun a w' hA => ?_);refine wp_seq (wp_seq (aD aF hT hG (aVA b o n m) trivial hA fun a w' hA => ?_));refine wp_block ?_;refine kH aF (fun i=>plF b o n m i (mV x i)) n (fun i hi => ?_) (.ex 0) (by simp) (plF b o n m n (mV x n)) ?_ hA fun a w' hA => ?_
 ·refine⟨_,_,_,_,sG (x:=plX (oldOf w0) (x i) i) rfl rfl,hT,aVD (oldOf w0) b o n m i (mV x i) (mV x (i+1)) (x i),bY hi,rfl,hi,hx i hi,rfl,?_,lI (k:=1) (by omega),trivial⟩;show Value.int .i64 (if ((yL (x i):Nat):Int)>((mV x i:Nat):Int)then ((yL (x i):Nat):Int)else ((mV x i:Nat):Int))=.int .i64 ((mV x (i+1):Nat):Int);rw[mV]
  by_cases h:yL (x i)>mV x i
  ·rw[if_pos h,if_pos (by omega)]
  ·rw[if_neg h,if_neg (by omega)]
 ·exact⟨_,_,_,_,hG,hT,aOO b o n m n _,eO (Nat.le_refl _),trivial⟩
 ·have:=RA x n;show (cB (cB (cB lX))).wp _ _ _ _;exact aD aF hT hG (aHY b o n m n _) ⟨aLK (by omega) (by omega),lI (k:=1) (by omega),trivial⟩ hA fun a w' hA=>eV (l:=[.im (iI (mV x n/4+1))]) (r:=.one (.im (iI (mV x n/4+1)))) (by kernel_rfl) (by kernel_rfl) hA
def LL (p:J1):Nat→J1
 | 0=>(F1.zero,F1.zero,F1.zero)
 | k+1=>eD F1 (LL p k) p
def Qb (p:J1):Int→J1
 | .ofNat 0=>(F1.zero,F1.zero,F1.zero)
 | .ofNat (k+1)=>LL p (k+1)
 | .negSucc k=>tD F1 (LL p (k+1))
def Qd (old:Nat→Nat→List At→Prop) (k:Nat) (h:Int) (q:J1):Ext:={ UR old with idx:=assoc [(12,k),(22,k)],ld:=assoc [(13,bJ q),(23,bJ q)],gen:=assoc [(19,.int .i64 h)] }
theorem Rc (old:Nat→Nat→List At→Prop) (b off k:Nat) (g h:Int) (q:J1):aT prog (qX prog (Qd old k h q)) (fun _=>⟨fun s=>fI true,fun s=>true,assoc [(7,.bool true),(10,iI k)]⟩) f233 80 [.v (.im (iG b off)),.v (.im (.int .i64 g))]=some ([aI .gtr .i64 g 0=some (.bool true),aI .sub .i64 g 1=some (iI k),Int.ofNat k=Int.ofNat k,k<8,old b (off+k*12) (bJ q),cO (bJ q)=12],.one (.fl (bJ q))):=by kernel_rfl
theorem Re (old:Nat→Nat→List At→Prop) (b off k:Nat) (g h:Int) (q:J1):aT prog (qX prog (Qd old k h q)) (fun _=>⟨fun s=>fI true,fun s=>true,assoc [(7,.bool false),(16,.bool true),(20,iI k)]⟩) f233 80 [.v (.im (iG b off)),.v (.im (.int .i64 g))]=some ([aI .gtr .i64 g 0=some (.bool false),aI .lss .i64 g 0=some (.bool true),(∀W:World,(Op.unary .neg (.int .i64 g)).run prog W=.ok (.int .i64 h) W),aI .sub .i64 h 1=some (iI k),Int.ofNat k=Int.ofNat k,k<8,old b (off+k*12) (bJ q),cO (bJ q)=12],.one (.fl (bJ (tD F1 q)))):=by kernel_rfl
theorem Rb (old:Nat→Nat→List At→Prop) (b off k:Nat) (g h:Int) (q:J1):aT prog (qX prog (Qd old k h q)) (fun _=>⟨fun s=>fI true,fun s=>true,assoc [(7,.bool false),(16,.bool false)]⟩) f233 80 [.v (.im (iG b off)),.v (.im (.int .i64 g))]=some ([aI .gtr .i64 g 0=some (.bool false),aI .lss .i64 g 0=some (.bool false)],.one (.fl (bJ (F1.zero,F1.zero,F1.zero)))):=by kernel_rfl
theorem Cl {w0:World} (b off:Nat) (g:Int) (p:J1) (hp:∀k,k<8→oldOf w0 b (off+k*12) (bJ (LL p (k+1)))) (h1 : -8≤g) (h2:g≤8):Calls prog 233 #[iG b off,.int .i64 g] w0 (fun e w'=>e=.returned (.agg (aA (bJ (Qb p g))).toArray)∧Below w0.heap.size w0 w'):=by
 have hT:∀n d:Nat,TabOkW prog (fI true) w0.heap.size w0:=fun _ _=>(jG true).w _ _
 have ha:bQ w0 [.v (.im (iG b off)),.v (.im (.int .i64 g))] [iG b off,.int .i64 g]:=⟨rfl,rfl,trivial⟩
 match g,h1,h2,ha with
 | .ofNat 0,_,_,ha=>exact bE aF hT (sG (x:=Qd (oldOf w0) 0 0 (F1.zero,F1.zero,F1.zero)) rfl rfl) func233 (Rb (oldOf w0) b off 0 _ 0 (F1.zero,F1.zero,F1.zero)) ⟨rfl,rfl,trivial⟩ ha
 | .ofNat (k+1),_,h2,ha =>
  have hk:k<8:=by have h2':((k+1:Nat):Int)≤8:=h2; omega
  exact bE aF hT (sG (x:=Qd (oldOf w0) k 0 (LL p (k+1))) rfl rfl) func233 (Rc (oldOf w0) b off k _ 0 (LL p (k+1))) ⟨by rw[show (0:Int)=Int.ofNat 0 from rfl,CB,decide_eq_true (by omega)],vI (k:=1) (by omega) (by omega),rfl,hk,hp k hk,rfl,trivial⟩ ha
 | .negSucc k,h1,_,ha =>
  have hk:k<8:=by have h1' : -8 ≤ -((k:Int)+1):=h1; omega
  refine bE aF hT (sG (x:=Qd (oldOf w0) k (Int.ofNat (k+1)) (LL p (k+1))) rfl rfl) func233 (Re (oldOf w0) b off k _ (Int.ofNat (k+1)) (LL p (k+1))) ⟨?_,?_,?_,vI (k:=1) (by omega) (by omega),rfl,hk,hp k hk,rfl,trivial⟩ ha
  ·show some (Value.bool (decide (Int.negSucc k>0)))=_;rw[decide_eq_false (by omega)]
  ·show some (Value.bool (decide (Int.negSucc k<0)))=_;rw[decide_eq_true (by omega)]
  ·intro W;have e:IntKind.i64.wrap (0-Int.negSucc k)=Int.ofNat (k+1):=by rw[IntKind.wrap_i64]; show _=((k+1:Nat):Int); omega
   show (Op.intArith .sub .i64 0 (Int.negSucc k)).run prog W=_;simp only[Op.intArith,Sem.run_pure,e]
def aDj (bT i:Nat) (p:J1):jV
 | [.v (.im (.pointer (some ⟨b',off,.none⟩))),.v (.im (.int .i64 g))]=>some ([b'=bT,off=i*96,-8≤g,g≤8],.one (.fl (bJ (Qb p g))))
 | _=>none
theorem aDi {w:World} {bT i:Nat} {p:J1} (hp:∀k,k<8→oldOf w bT (i*96+k*12) (bJ (LL p (k+1)))):∀cs pre r,aDj bT i p cs=some (pre,r)→aZ pre→∀(args:List Value),bQ w cs args→Good prog 233 r args w:=by
 intro cs pre r hg hq args ha;unfold aDj at hg;split at hg
 ·rename_i b' off g;cases hg;obtain⟨rfl,rfl,h1,h2,_⟩:=hq
  match args,ha with
  | [u,v],ha =>
   have e1:u=iG b' (i*96):=ha.1;have e2:v=.int .i64 g:=ha.2.1;subst e1; subst e2;exact Cl b' _ g p hp h1 h2
  | [],ha=>exact ha.elim
  | [_],ha=>exact ha.2.elim
  | _::_::_::_,ha=>exact ha.2.2.elim
 ·cases hg
def NW (pt:Nat→J1) (x:Nat→Nat) (p:Nat):Nat→J1
 | 0=>(F1.zero,F1.zero,F1.zero)
 | i+1=>eD F1 (NW pt x p i) (Qb (pt i) (mB (x i) p))
def aKj (old:Nat→Nat→List At→Prop) (bT N b o n m i:Nat):Ext:={ UR old with idx:=assoc [(15,i)],ld:=assoc [(16,dR b o n m)],gen:=assoc [(7,kB bT 0 N N),(13,kB bT 0 N N)] }
def JJ (pl bt bd N i:Nat) (c:J1):List Fact:=[.slot 0 (.im (iI pl)),.slot 1 (.im (iG bt 0)),.slot 2 (.im (iG bd 0)),.slot 4 (.pt 4 0),.row 4 true (bJ (F1.zero,F1.zero,F1.zero)),.slot 5 (.pt 5 0),.row 5 true (bJ c),.slot 8 (.im (iI N)),.slot 9 (.im (iI i))]
def bAE (bT b o n m:Nat) (x:Nat→Nat) (i:Nat) (p:J1):Tab:=((fI true).add 234 (gAt b o n m x)).add 233 (aDj bT i p)
def iE:Code:=(f232.body).getD .skip
def SV:Code:=qD (qD (cB (cA (cB (cB iE)))))
theorem aEq:iE=.seq (cA iE) (.seq (cA (cB iE)) (.seq (.seq (cA (cA (cB (cB iE)))) (.block 0 (.loop SV))) (cB (cB (cB iE))))):=by kernel_rfl
def aSn (pl bt bd:Nat):List Fact:=[.slot 0 (.im (iI pl)),.slot 1 (.im (iG bt 0)),.slot 2 (.im (iG bd 0)),.slot 4 (.pt 4 0),.row 4 true (bJ (F1.zero,F1.zero,F1.zero))]
def aSl (pl bt bd:Nat):List Fact:=[.slot 0 (.im (iI pl)),.slot 1 (.im (iG bt 0)),.slot 2 (.im (iG bd 0)),.slot 4 (.pt 4 0),.row 4 true (bJ (F1.zero,F1.zero,F1.zero)),.slot 5 (.pt 5 0),.row 5 true (bJ (F1.zero,F1.zero,F1.zero))]
theorem aSu (pl bt bd:Nat):aX prog (qG prog) f232.ntmps (Bz fun _=>none) 40 (cA iE) (lS 0 [.v (.im (iI pl)),.v (.im (iG bt 0)),.v (.im (iG bd 0))]) (aSn pl bt bd)=some ([],.nrm,aSn pl bt bd):=by kernel_rfl
theorem aSt (pl bt bd:Nat):aX prog (qG prog) f232.ntmps (Bz fun _=>none) 40 (cA (cB iE)) (aSn pl bt bd) (aSl pl bt bd)=some ([],.nrm,aSl pl bt bd):=by kernel_rfl
theorem aSs (old:Nat→Nat→List At→Prop) (pl bt bd bT N b o n m:Nat):aX prog (qX prog (aKj old bT N b o n m 0)) f232.ntmps (Bz fun _=>none) 40 (cA (cA (cB (cB iE)))) (aSl pl bt bd) (JJ pl bt bd N 0 (F1.zero,F1.zero,F1.zero))=some ([old bt 0 [.c (kB bT 0 N N)]],.nrm,JJ pl bt bd N 0 (F1.zero,F1.zero,F1.zero)):=by kernel_rfl
theorem aSv (old:Nat→Nat→List At→Prop) (pl bt bd bT N b o n m i:Nat) (x:Nat→Nat) (p c:J1):aX prog (qX prog (aKj old bT N b o n m i)) f232.ntmps (fun _=>⟨fun _=>bAE bT b o n m x i p,fun _=>true,assoc [(10,.bool true),(22,iI (i+1))]⟩) 40 SV (JJ pl bt bd N i c) (JJ pl bt bd N (i+1) (eD F1 c (Qb p (mB (x i) pl))))=some ([aI .lss .i64 (Int.ofNat i) (Int.ofNat N)=some (.bool true),old bt 0 [.c (kB bT 0 N N)],Int.ofNat i=Int.ofNat i,i<N,old bd 0 (dR b o n m),cO (dR b o n m)=2,b=b,o=o,n=n,m=m,i<n,pl<1152921504606846976,bT=bT,0+i*96=i*96,-8≤mB (x i) pl,mB (x i) pl≤8,aI .add .i64 (Int.ofNat i) 1=some (iI (i+1))],.nrm,JJ pl bt bd N (i+1) (eD F1 c (Qb p (mB (x i) pl)))):=by kernel_rfl
theorem aKl (pl bt bd N i:Nat) (c:J1):aX prog (qG prog) f232.ntmps (Bz (assoc [(10,.bool false)])) 40 SV (JJ pl bt bd N i c) (JJ pl bt bd N i c)=some ([aI .lss .i64 (Int.ofNat i) (Int.ofNat N)=some (.bool false)],.ex 0,JJ pl bt bd N i c):=by kernel_rfl
theorem aEp (pl bt bd N i:Nat) (c:J1):aX prog (qG prog) f232.ntmps (Bz fun _=>none) 40 (cB (cB (cB iE))) (JJ pl bt bd N i c) [.slot 4 (.pt 4 0),.row 4 true (bJ c)]=some ([],.rt,[.slot 4 (.pt 4 0),.row 4 true (bJ c)]):=by kernel_rfl
theorem EK (x p:Nat) : -8≤mB x p∧mB x p≤8:=by
 have:=Oc x p;unfold mB;split<;>omega
structure ClMem1 (w:World) (bt bd bT N b o n m:Nat) (x:Nat→Nat) (pt:Nat→J1):Prop where
 t:oldOf w bt 0 [.c (kB bT 0 N N)]
 d:oldOf w bd 0 (dR b o n m)
 x:∀i,i<n→oldOf w b (o+i*4) [.q (x i)]
 p:∀i,i<N→∀k,k<8→oldOf w bT (i*96+k*12) (bJ (LL (pt i) (k+1)))
theorem oldOf.on {base:Nat} {w w':World} (hb:Below w.heap.size w w') {b o:Nat} {l:List At} (h:oldOf w b o l):oldOf w' b o l:=⟨Nat.lt_of_lt_of_le h.1 hb.size,iQ hb h.1 h.2⟩
theorem ClMem1.on {w w':World} (hb:Below w.heap.size w w') {bt bd bT N b o n m:Nat} {x:Nat→Nat} {pt:Nat→J1} (h:ClMem1 w bt bd bT N b o n m x pt):ClMem1 w' bt bd bT N b o n m x pt :=
 ⟨h.t.on hb (base:=0),h.d.on hb (base:=0),fun i hi=>(h.x i hi).on hb (base:=0),fun i hi k hk=>(h.p i hi k hk).on hb (base:=0)⟩
theorem Vw {w0:World} {bt bd bT N b o n m:Nat} {x:Nat→Nat} {pt:Nat→J1} (h:ClMem1 w0 bt bd bT N b o n m x pt) (hN:N≤n) (hn:n<4611686018427387904) {pl:Nat} (hpl:pl<1152921504606846976):Calls prog 232 #[iI pl,iG bt 0,iG bd 0] w0 (fun e w'=>e=.returned (.agg (aA (bJ (NW pt x pl N))).toArray)∧Below w0.heap.size w0 w'):=by
 have hG:cS prog (qG prog) w0.heap.size w0:=(aK _).w _ _;have hT:∀n d:Nat,TabOkW prog (fI true) w0.heap.size w0:=fun _ _=>(jG true).w _ _
 refine dU func232 (c:=iE) rfl (args:=[iI pl,iG bt 0,iG bd 0]) (cs:=[.v (.im (iI pl)),.v (.im (iG bt 0)),.v (.im (iG bd 0))]) ⟨rfl,rfl,rfl,trivial⟩ (Nat.le_of_ble_eq_true (by kernel_rfl)) fun a w' hA => ?_
 rw[aEq];refine wp_seq (aD aF hT hG (aSu pl bt bd) trivial hA fun a w' hA => ?_);refine wp_seq (aD aF hT hG (aSt pl bt bd) trivial hA fun a w' hA => ?_);refine wp_seq (wp_seq (aD aF hT (sG (x:=aKj (oldOf w0) bT N b o n m 0) rfl rfl) (aSs (oldOf w0) pl bt bd bT N b o n m) ⟨h.t,trivial⟩ hA fun a w' hA => ?_));refine wp_block ?_;refine kH aF (fun i=>JJ pl bt bd N i (NW pt x pl i)) N (fun i hi => ?_) (.ex 0) (by simp) (JJ pl bt bd N N (NW pt x pl N)) ?_ hA fun a w' hA => ?_
 ·refine⟨_,_,_,_,sG (x:=aKj (oldOf w0) bT N b o n m i) rfl rfl,fun _ _ => ?_,aSv (oldOf w0) pl bt bd bT N b o n m i x (pt i) (NW pt x pl i),bY hi,h.t,rfl,hi,h.d,rfl,rfl,rfl,rfl,rfl,by omega,hpl,rfl,by omega,(EK _ _).1,(EK _ _).2,lI (k:=1) (by omega),trivial⟩;refine TabOkW.add (TabOkW.add ((jG true).w _ _) func234 (by kernel_rfl) (by kernel_rfl) fun w hw => ?_) func233 (by kernel_rfl) (by kernel_rfl) fun w hw => ?_
  ·exact aDs fun j hj=>(h.x j hj).on hw (base:=0)
  ·exact aDi fun k hk=>(h.p i hi k hk).on hw (base:=0)
 ·exact⟨_,_,_,_,hG,hT,aKl pl bt bd N N _,eO (Nat.le_refl _),trivial⟩
 ·show (cB (cB (cB iE))).wp _ _ _ _;exact aD aF hT hG (aEp pl bt bd N N _) trivial hA fun a w' hA=>eV (l:=[.fl (bJ (NW pt x pl N))]) (r:=.one (.fl (bJ (NW pt x pl N)))) (by kernel_rfl) (by kernel_rfl) hA
def Uh (D:Nat→J1) (PL:Nat):Nat→J1
 | 0=>(F1.zero,F1.zero,F1.zero)
 | i+1=>eD F1 (cK F1 (cK F1 (cK F1 (cK F1 (Uh D PL i))))) (D (PL-1-i))
def JH (bt bd:Nat):Value:=.func (.func 232) #[] #[iG bt 0,iG bd 0]
def GP (bt bd b o n m PL i:Nat) (c:J1):List Fact:=[.slot 1 (.im (JH bt bd)),.slot 2 (.pt 2 0),.row 2 true (dR b o n m),.slot 4 (.pt 4 0),.row 4 true (bJ (F1.zero,F1.zero,F1.zero)),.slot 5 (.pt 5 0),.row 5 true (bJ c),.slot 6 (.im (iI PL)),.slot 10 (.im (iI PL)),.slot 11 (.im (iI i))]
def aWK (bt bd:Nat) (D:Nat→J1):jV
 | [.v (.im (.int .i64 (.ofNat p))),.v (.im (.pointer (some ⟨b1,0,.none⟩))),.v (.im (.pointer (some ⟨b2,0,.none⟩)))]=>some ([b1=bt,b2=bd,p<1152921504606846976],.one (.fl (bJ (D p))))
 | _=>none
def gPl (b o n m PL:Nat):jV
 | [.v (.fl [.c (.slice (some ⟨b',o',.none⟩) n' m'),.c (.int .i64 (.ofNat 4))])]=>some ([b'=b,o'=o,n'=n,m'=m],.one (.im (iI PL)))
 | _=>none
def aZB (bt bd b o n m PL:Nat) (D:Nat→J1):Tab:=((fI true).add 253 (gPl b o n m PL)).add 232 (aWK bt bd D)
def gB:Code:=(f231.body).getD .skip
def QL:Code:=qD (qD (cB (cA (cB (cB (cB gB))))))
theorem aBm:gB=.seq (cA gB) (.seq (cA (cB gB)) (.seq (cA (cB (cB gB))) (.seq (.seq (cA (cA (cB (cB (cB gB))))) (.block 0 (.loop QL))) (cB (cB (cB (cB gB))))))):=by kernel_rfl
def YV (bt bd b o n m PL:Nat) (D:Nat→J1) (num:Nat→Option Value) (_:Nat):Cfg:=⟨fun _=>aZB bt bd b o n m PL D,fun _=>true,num⟩
def aOZ (bt bd b o n m:Nat):List Fact:=[.slot 1 (.im (JH bt bd)),.slot 2 (.pt 2 0),.row 2 true (dR b o n m),.slot 4 (.pt 4 0),.row 4 true (bJ (F1.zero,F1.zero,F1.zero))]
def aOX (bt bd b o n m:Nat):List Fact:=[.slot 1 (.im (JH bt bd)),.slot 2 (.pt 2 0),.row 2 true (dR b o n m),.slot 4 (.pt 4 0),.row 4 true (bJ (F1.zero,F1.zero,F1.zero)),.slot 5 (.pt 5 0),.row 5 true (bJ (F1.zero,F1.zero,F1.zero))]
def aBi (bt bd b o n m PL:Nat):List Fact:=[.slot 1 (.im (JH bt bd)),.slot 2 (.pt 2 0),.row 2 true (dR b o n m),.slot 4 (.pt 4 0),.row 4 true (bJ (F1.zero,F1.zero,F1.zero)),.slot 5 (.pt 5 0),.row 5 true (bJ (F1.zero,F1.zero,F1.zero)),.slot 6 (.im (iI PL))]
theorem aPi (bt bd b o n m PL:Nat) (D:Nat→J1):aX prog (qG prog) f231.ntmps (YV bt bd b o n m PL D fun _=>none) 40 (cA gB) (lS 0 [.v (.fl (dR b o n m)),.v (.im (JH bt bd))]) (aOZ bt bd b o n m)=some ([],.nrm,aOZ bt bd b o n m):=by kernel_rfl
theorem aPh (bt bd b o n m PL:Nat) (D:Nat→J1):aX prog (qG prog) f231.ntmps (YV bt bd b o n m PL D fun _=>none) 40 (cA (cB gB)) (aOZ bt bd b o n m) (aOX bt bd b o n m)=some ([],.nrm,aOX bt bd b o n m):=by kernel_rfl
theorem aPg (bt bd b o n m PL:Nat) (D:Nat→J1):aX prog (qG prog) f231.ntmps (YV bt bd b o n m PL D fun _=>none) 40 (cA (cB (cB gB))) (aOX bt bd b o n m) (aBi bt bd b o n m PL)=some ([b=b,o=o,n=n,m=m],.nrm,aBi bt bd b o n m PL):=by kernel_rfl
theorem aPf (bt bd b o n m PL:Nat) (D:Nat→J1):aX prog (qG prog) f231.ntmps (YV bt bd b o n m PL D fun _=>none) 40 (cA (cA (cB (cB (cB gB))))) (aBi bt bd b o n m PL) (GP bt bd b o n m PL 0 (F1.zero,F1.zero,F1.zero))=some ([],.nrm,GP bt bd b o n m PL 0 (F1.zero,F1.zero,F1.zero)):=by kernel_rfl
theorem aPj (bt bd b o n m PL i:Nat) (D:Nat→J1) (c:J1):aX prog (qG prog) f231.ntmps (YV bt bd b o n m PL D (assoc [(12,.bool true),(24,iI (PL-1)),(26,iI (PL-1-i)),(29,iI (i+1))])) 60 QL (GP bt bd b o n m PL i c) (GP bt bd b o n m PL (i+1) (eD F1 (cK F1 (cK F1 (cK F1 (cK F1 c)))) (D (PL-1-i))))=some ([aI .lss .i64 (Int.ofNat i) (Int.ofNat PL)=some (.bool true),aI .sub .i64 (Int.ofNat PL) 1=some (iI (PL-1)),aI .sub .i64 (Int.ofNat (PL-1)) (Int.ofNat i)=some (iI (PL-1-i)),bt=bt,bd=bd,PL-1-i<1152921504606846976,aI .add .i64 (Int.ofNat i) 1=some (iI (i+1))],.nrm,GP bt bd b o n m PL (i+1) (eD F1 (cK F1 (cK F1 (cK F1 (cK F1 c)))) (D (PL-1-i)))):=by kernel_rfl
theorem aId (bt bd b o n m PL i:Nat) (D:Nat→J1) (c:J1):aX prog (qG prog) f231.ntmps (YV bt bd b o n m PL D (assoc [(12,.bool false)])) 40 QL (GP bt bd b o n m PL i c) (GP bt bd b o n m PL i c)=some ([aI .lss .i64 (Int.ofNat i) (Int.ofNat PL)=some (.bool false)],.ex 0,GP bt bd b o n m PL i c):=by kernel_rfl
theorem aBl (bt bd b o n m PL i:Nat) (D:Nat→J1) (c:J1):aX prog (qG prog) f231.ntmps (YV bt bd b o n m PL D fun _=>none) 40 (cB (cB (cB (cB gB)))) (GP bt bd b o n m PL i c) [.slot 4 (.pt 4 0),.row 4 true (bJ c)]=some ([],.rt,[.slot 4 (.pt 4 0),.row 4 true (bJ c)]):=by kernel_rfl
theorem Ug {w0:World} {bt bd bT N b o n m:Nat} {x:Nat→Nat} {pt:Nat→J1} (h:ClMem1 w0 bt bd bT N b o n m x pt) (hN:N≤n) (hn:n<4611686018427387904):Calls prog 231 #[.agg (aA (dR b o n m)).toArray,JH bt bd] w0 (fun e w'=>e=.returned (.agg (aA (bJ (Uh (fun p=>NW pt x p N) (mV x n/4+1) (mV x n/4+1)))).toArray)∧Below w0.heap.size w0 w'):=by
 have hG:cS prog (qG prog) w0.heap.size w0:=(aK _).w _ _;have hL:=RA x n;generalize hPL:mV x n/4+1=PL;have hPL':PL<1000:=by omega
 have hT:∀num,∀n' d:Nat,TabOkW prog ((YV bt bd b o n m PL (fun p=>NW pt x p N) num n').T d) w0.heap.size w0:=fun num _ _=>by
  refine TabOkW.add (TabOkW.add ((jG true).w _ _) func253 (by kernel_rfl) (by kernel_rfl) fun w hw cs pre r hg hq args ha => ?_) func232 (by kernel_rfl) (by kernel_rfl) fun w hw cs pre r hg hq args ha => ?_
  ·unfold gPl at hg;split at hg
   ·cases hg;obtain⟨rfl,rfl,rfl,rfl,_⟩:=hq;rw[CQ ha,←hPL];exact xZ _ _ _ _ x (fun j hj=>(h.x j hj).on hw (base:=0)) hn
   ·cases hg
  ·unfold aWK at hg;split at hg
   ·rename_i p b1 b2;cases hg;obtain⟨rfl,rfl,hp,_⟩:=hq
    match args,ha with
    | [u,v,t],ha =>
     have e1:u=iI p:=ha.1;have e2:v=iG b1 0:=ha.2.1;have e3:t=iG b2 0:=ha.2.2.1;subst e1; subst e2; subst e3;exact Vw (h.on hw) hN hn hp
    | [],ha=>exact ha.elim
    | [_],ha=>exact ha.2.elim
    | [_,_],ha=>exact ha.2.2.elim
    | _::_::_::_::_,ha=>exact ha.2.2.2.elim
   ·cases hg
 refine dU func231 (c:=gB) rfl (args:=[.agg (aA (dR b o n m)).toArray,JH bt bd]) (cs:=[.v (.fl (dR b o n m)),.v (.im (JH bt bd))]) ⟨rfl,rfl,trivial⟩ (Nat.le_of_ble_eq_true (by kernel_rfl)) fun a w' hA => ?_
 rw[aBm];refine wp_seq (aD aF (hT _) hG (aPi bt bd b o n m PL _) trivial hA fun a w' hA => ?_);refine wp_seq (aD aF (hT _) hG (aPh bt bd b o n m PL _) trivial hA fun a w' hA => ?_);refine wp_seq (aD aF (hT _) hG (aPg bt bd b o n m PL _) ⟨rfl,rfl,rfl,rfl,trivial⟩ hA fun a w' hA => ?_);refine wp_seq (wp_seq (aD aF (hT _) hG (aPf bt bd b o n m PL _) trivial hA fun a w' hA => ?_));refine wp_block ?_;refine kH aF (fun i=>GP bt bd b o n m PL i (Uh (fun p=>NW pt x p N) PL i)) PL (fun i hi => ?_) (.ex 0) (by simp) (GP bt bd b o n m PL PL (Uh (fun p=>NW pt x p N) PL PL)) ?_ hA fun a w' hA => ?_
 ·exact⟨_,_,_,_,hG,hT _,aPj bt bd b o n m PL i _ (Uh (fun p=>NW pt x p N) PL i),bY hi,vI (k:=1) (by omega) (by omega),vI (by omega) (by omega),rfl,rfl,by omega,lI (k:=1) (by omega),trivial⟩
 ·exact⟨_,_,_,_,hG,hT _,aId bt bd b o n m PL PL _ _,eO (Nat.le_refl _),trivial⟩
 ·show (cB (cB (cB (cB gB)))).wp _ _ _ _;exact aD aF (hT _) hG (aBl bt bd b o n m PL PL _ _) trivial hA fun a w' hA=>eV (l:=[.fl (bJ (Uh (fun p=>NW pt x p N) PL PL))]) (r:=.one (.fl (bJ (Uh (fun p=>NW pt x p N) PL PL)))) (by kernel_rfl) (by kernel_rfl) hA
def LK (p:J2):Nat→J2
 | 0=>(F2.zero,F2.zero,F2.zero)
 | k+1=>eD F2 (LK p k) p
def Qa (p:J2):Int→J2
 | .ofNat 0=>(F2.zero,F2.zero,F2.zero)
 | .ofNat (k+1)=>LK p (k+1)
 | .negSucc k=>tD F2 (LK p (k+1))
def Qc (old:Nat→Nat→List At→Prop) (k:Nat) (h:Int) (q:J2):Ext:={ UR old with idx:=assoc [(12,k),(22,k)],ld:=assoc [(13,bI q),(23,bI q)],gen:=assoc [(19,.int .i64 h)] }
theorem Qy (old:Nat→Nat→List At→Prop) (b off k:Nat) (g h:Int) (q:J2):aT prog (qX prog (Qc old k h q)) (fun _=>⟨fun s=>fI true,fun s=>true,assoc [(7,.bool true),(10,iI k)]⟩) f242 80 [.v (.im (iG b off)),.v (.im (.int .i64 g))]=some ([aI .gtr .i64 g 0=some (.bool true),aI .sub .i64 g 1=some (iI k),Int.ofNat k=Int.ofNat k,k<8,old b (off+k*24) (bI q),cO (bI q)=24],.one (.fl (bI q))):=by kernel_rfl
theorem Qz (old:Nat→Nat→List At→Prop) (b off k:Nat) (g h:Int) (q:J2):aT prog (qX prog (Qc old k h q)) (fun _=>⟨fun s=>fI true,fun s=>true,assoc [(7,.bool false),(16,.bool true),(20,iI k)]⟩) f242 80 [.v (.im (iG b off)),.v (.im (.int .i64 g))]=some ([aI .gtr .i64 g 0=some (.bool false),aI .lss .i64 g 0=some (.bool true),(∀W:World,(Op.unary .neg (.int .i64 g)).run prog W=.ok (.int .i64 h) W),aI .sub .i64 h 1=some (iI k),Int.ofNat k=Int.ofNat k,k<8,old b (off+k*24) (bI q),cO (bI q)=24],.one (.fl (bI (tD F2 q)))):=by kernel_rfl
theorem Qx (old:Nat→Nat→List At→Prop) (b off k:Nat) (g h:Int) (q:J2):aT prog (qX prog (Qc old k h q)) (fun _=>⟨fun s=>fI true,fun s=>true,assoc [(7,.bool false),(16,.bool false)]⟩) f242 80 [.v (.im (iG b off)),.v (.im (.int .i64 g))]=some ([aI .gtr .i64 g 0=some (.bool false),aI .lss .i64 g 0=some (.bool false)],.one (.fl (bI (F2.zero,F2.zero,F2.zero)))):=by kernel_rfl
theorem Ck {w0:World} (b off:Nat) (g:Int) (p:J2) (hp:∀k,k<8→oldOf w0 b (off+k*24) (bI (LK p (k+1)))) (h1 : -8≤g) (h2:g≤8):Calls prog 242 #[iG b off,.int .i64 g] w0 (fun e w'=>e=.returned (.agg (aA (bI (Qa p g))).toArray)∧Below w0.heap.size w0 w'):=by
 have hT:∀n d:Nat,TabOkW prog (fI true) w0.heap.size w0:=fun _ _=>(jG true).w _ _
 have ha:bQ w0 [.v (.im (iG b off)),.v (.im (.int .i64 g))] [iG b off,.int .i64 g]:=⟨rfl,rfl,trivial⟩
 match g,h1,h2,ha with
 | .ofNat 0,_,_,ha=>exact bE aF hT (sG (x:=Qc (oldOf w0) 0 0 (F2.zero,F2.zero,F2.zero)) rfl rfl) func242 (Qx (oldOf w0) b off 0 _ 0 (F2.zero,F2.zero,F2.zero)) ⟨rfl,rfl,trivial⟩ ha
 | .ofNat (k+1),_,h2,ha =>
  have hk:k<8:=by have h2':((k+1:Nat):Int)≤8:=h2; omega
  exact bE aF hT (sG (x:=Qc (oldOf w0) k 0 (LK p (k+1))) rfl rfl) func242 (Qy (oldOf w0) b off k _ 0 (LK p (k+1))) ⟨by rw[show (0:Int)=Int.ofNat 0 from rfl,CB,decide_eq_true (by omega)],vI (k:=1) (by omega) (by omega),rfl,hk,hp k hk,rfl,trivial⟩ ha
 | .negSucc k,h1,_,ha =>
  have hk:k<8:=by have h1' : -8 ≤ -((k:Int)+1):=h1; omega
  refine bE aF hT (sG (x:=Qc (oldOf w0) k (Int.ofNat (k+1)) (LK p (k+1))) rfl rfl) func242 (Qz (oldOf w0) b off k _ (Int.ofNat (k+1)) (LK p (k+1))) ⟨?_,?_,?_,vI (k:=1) (by omega) (by omega),rfl,hk,hp k hk,rfl,trivial⟩ ha
  ·show some (Value.bool (decide (Int.negSucc k>0)))=_;rw[decide_eq_false (by omega)]
  ·show some (Value.bool (decide (Int.negSucc k<0)))=_;rw[decide_eq_true (by omega)]
  ·intro W;have e:IntKind.i64.wrap (0-Int.negSucc k)=Int.ofNat (k+1):=by rw[IntKind.wrap_i64]; show _=((k+1:Nat):Int); omega
   show (Op.intArith .sub .i64 0 (Int.negSucc k)).run prog W=_;simp only[Op.intArith,Sem.run_pure,e]
def aDh (bT i:Nat) (p:J2):jV
 | [.v (.im (.pointer (some ⟨b',off,.none⟩))),.v (.im (.int .i64 g))]=>some ([b'=bT,off=i*192,-8≤g,g≤8],.one (.fl (bI (Qa p g))))
 | _=>none
theorem aDg {w:World} {bT i:Nat} {p:J2} (hp:∀k,k<8→oldOf w bT (i*192+k*24) (bI (LK p (k+1)))):∀cs pre r,aDh bT i p cs=some (pre,r)→aZ pre→∀(args:List Value),bQ w cs args→Good prog 242 r args w:=by
 intro cs pre r hg hq args ha;unfold aDh at hg;split at hg
 ·rename_i b' off g;cases hg;obtain⟨rfl,rfl,h1,h2,_⟩:=hq
  match args,ha with
  | [u,v],ha =>
   have e1:u=iG b' (i*192):=ha.1;have e2:v=.int .i64 g:=ha.2.1;subst e1; subst e2;exact Ck b' _ g p hp h1 h2
  | [],ha=>exact ha.elim
  | [_],ha=>exact ha.2.elim
  | _::_::_::_,ha=>exact ha.2.2.elim
 ·cases hg
def NV (pt:Nat→J2) (x:Nat→Nat) (p:Nat):Nat→J2
 | 0=>(F2.zero,F2.zero,F2.zero)
 | i+1=>eD F2 (NV pt x p i) (Qa (pt i) (mB (x i) p))
def aKi (old:Nat→Nat→List At→Prop) (bT N b o n m i:Nat):Ext:={ UR old with idx:=assoc [(15,i)],ld:=assoc [(16,dR b o n m)],gen:=assoc [(7,kB bT 0 N N),(13,kB bT 0 N N)] }
def JI (pl bt bd N i:Nat) (c:J2):List Fact:=[.slot 0 (.im (iI pl)),.slot 1 (.im (iG bt 0)),.slot 2 (.im (iG bd 0)),.slot 4 (.pt 4 0),.row 4 true (bI (F2.zero,F2.zero,F2.zero)),.slot 5 (.pt 5 0),.row 5 true (bI c),.slot 8 (.im (iI N)),.slot 9 (.im (iI i))]
def bAD (bT b o n m:Nat) (x:Nat→Nat) (i:Nat) (p:J2):Tab:=((fI true).add 234 (gAt b o n m x)).add 242 (aDh bT i p)
def iD:Code:=(f241.body).getD .skip
def SU:Code:=qD (qD (cB (cA (cB (cB iD)))))
theorem aEo:iD=.seq (cA iD) (.seq (cA (cB iD)) (.seq (.seq (cA (cA (cB (cB iD)))) (.block 0 (.loop SU))) (cB (cB (cB iD))))):=by kernel_rfl
def aSm (pl bt bd:Nat):List Fact:=[.slot 0 (.im (iI pl)),.slot 1 (.im (iG bt 0)),.slot 2 (.im (iG bd 0)),.slot 4 (.pt 4 0),.row 4 true (bI (F2.zero,F2.zero,F2.zero))]
def aSk (pl bt bd:Nat):List Fact:=[.slot 0 (.im (iI pl)),.slot 1 (.im (iG bt 0)),.slot 2 (.im (iG bd 0)),.slot 4 (.pt 4 0),.row 4 true (bI (F2.zero,F2.zero,F2.zero)),.slot 5 (.pt 5 0),.row 5 true (bI (F2.zero,F2.zero,F2.zero))]
theorem aSq (pl bt bd:Nat):aX prog (qG prog) f241.ntmps (Bz fun _=>none) 40 (cA iD) (lS 0 [.v (.im (iI pl)),.v (.im (iG bt 0)),.v (.im (iG bd 0))]) (aSm pl bt bd)=some ([],.nrm,aSm pl bt bd):=by kernel_rfl
theorem aSp (pl bt bd:Nat):aX prog (qG prog) f241.ntmps (Bz fun _=>none) 40 (cA (cB iD)) (aSm pl bt bd) (aSk pl bt bd)=some ([],.nrm,aSk pl bt bd):=by kernel_rfl
theorem aSo (old:Nat→Nat→List At→Prop) (pl bt bd bT N b o n m:Nat):aX prog (qX prog (aKi old bT N b o n m 0)) f241.ntmps (Bz fun _=>none) 40 (cA (cA (cB (cB iD)))) (aSk pl bt bd) (JI pl bt bd N 0 (F2.zero,F2.zero,F2.zero))=some ([old bt 0 [.c (kB bT 0 N N)]],.nrm,JI pl bt bd N 0 (F2.zero,F2.zero,F2.zero)):=by kernel_rfl
theorem aSr (old:Nat→Nat→List At→Prop) (pl bt bd bT N b o n m i:Nat) (x:Nat→Nat) (p c:J2):aX prog (qX prog (aKi old bT N b o n m i)) f241.ntmps (fun _=>⟨fun _=>bAD bT b o n m x i p,fun _=>true,assoc [(10,.bool true),(22,iI (i+1))]⟩) 40 SU (JI pl bt bd N i c) (JI pl bt bd N (i+1) (eD F2 c (Qa p (mB (x i) pl))))=some ([aI .lss .i64 (Int.ofNat i) (Int.ofNat N)=some (.bool true),old bt 0 [.c (kB bT 0 N N)],Int.ofNat i=Int.ofNat i,i<N,old bd 0 (dR b o n m),cO (dR b o n m)=2,b=b,o=o,n=n,m=m,i<n,pl<1152921504606846976,bT=bT,0+i*192=i*192,-8≤mB (x i) pl,mB (x i) pl≤8,aI .add .i64 (Int.ofNat i) 1=some (iI (i+1))],.nrm,JI pl bt bd N (i+1) (eD F2 c (Qa p (mB (x i) pl)))):=by kernel_rfl
theorem aKk (pl bt bd N i:Nat) (c:J2):aX prog (qG prog) f241.ntmps (Bz (assoc [(10,.bool false)])) 40 SU (JI pl bt bd N i c) (JI pl bt bd N i c)=some ([aI .lss .i64 (Int.ofNat i) (Int.ofNat N)=some (.bool false)],.ex 0,JI pl bt bd N i c):=by kernel_rfl
theorem aEn (pl bt bd N i:Nat) (c:J2):aX prog (qG prog) f241.ntmps (Bz fun _=>none) 40 (cB (cB (cB iD))) (JI pl bt bd N i c) [.slot 4 (.pt 4 0),.row 4 true (bI c)]=some ([],.rt,[.slot 4 (.pt 4 0),.row 4 true (bI c)]):=by kernel_rfl
structure ClMem2 (w:World) (bt bd bT N b o n m:Nat) (x:Nat→Nat) (pt:Nat→J2):Prop where
 t:oldOf w bt 0 [.c (kB bT 0 N N)]
 d:oldOf w bd 0 (dR b o n m)
 x:∀i,i<n→oldOf w b (o+i*4) [.q (x i)]
 p:∀i,i<N→∀k,k<8→oldOf w bT (i*192+k*24) (bI (LK (pt i) (k+1)))
theorem ClMem2.on {w w':World} (hb:Below w.heap.size w w') {bt bd bT N b o n m:Nat} {x:Nat→Nat} {pt:Nat→J2} (h:ClMem2 w bt bd bT N b o n m x pt):ClMem2 w' bt bd bT N b o n m x pt :=
 ⟨h.t.on hb (base:=0),h.d.on hb (base:=0),fun i hi=>(h.x i hi).on hb (base:=0),fun i hi k hk=>(h.p i hi k hk).on hb (base:=0)⟩
theorem Vv {w0:World} {bt bd bT N b o n m:Nat} {x:Nat→Nat} {pt:Nat→J2} (h:ClMem2 w0 bt bd bT N b o n m x pt) (hN:N≤n) (hn:n<4611686018427387904) {pl:Nat} (hpl:pl<1152921504606846976):Calls prog 241 #[iI pl,iG bt 0,iG bd 0] w0 (fun e w'=>e=.returned (.agg (aA (bI (NV pt x pl N))).toArray)∧Below w0.heap.size w0 w'):=by
 have hG:cS prog (qG prog) w0.heap.size w0:=(aK _).w _ _;have hT:∀n d:Nat,TabOkW prog (fI true) w0.heap.size w0:=fun _ _=>(jG true).w _ _
 refine dU func241 (c:=iD) rfl (args:=[iI pl,iG bt 0,iG bd 0]) (cs:=[.v (.im (iI pl)),.v (.im (iG bt 0)),.v (.im (iG bd 0))]) ⟨rfl,rfl,rfl,trivial⟩ (Nat.le_of_ble_eq_true (by kernel_rfl)) fun a w' hA => ?_
 rw[aEo];refine wp_seq (aD aF hT hG (aSq pl bt bd) trivial hA fun a w' hA => ?_);refine wp_seq (aD aF hT hG (aSp pl bt bd) trivial hA fun a w' hA => ?_);refine wp_seq (wp_seq (aD aF hT (sG (x:=aKi (oldOf w0) bT N b o n m 0) rfl rfl) (aSo (oldOf w0) pl bt bd bT N b o n m) ⟨h.t,trivial⟩ hA fun a w' hA => ?_));refine wp_block ?_;refine kH aF (fun i=>JI pl bt bd N i (NV pt x pl i)) N (fun i hi => ?_) (.ex 0) (by simp) (JI pl bt bd N N (NV pt x pl N)) ?_ hA fun a w' hA => ?_
 ·refine⟨_,_,_,_,sG (x:=aKi (oldOf w0) bT N b o n m i) rfl rfl,fun _ _ => ?_,aSr (oldOf w0) pl bt bd bT N b o n m i x (pt i) (NV pt x pl i),bY hi,h.t,rfl,hi,h.d,rfl,rfl,rfl,rfl,rfl,by omega,hpl,rfl,by omega,(EK _ _).1,(EK _ _).2,lI (k:=1) (by omega),trivial⟩;refine TabOkW.add (TabOkW.add ((jG true).w _ _) func234 (by kernel_rfl) (by kernel_rfl) fun w hw => ?_) func242 (by kernel_rfl) (by kernel_rfl) fun w hw => ?_
  ·exact aDs fun j hj=>(h.x j hj).on hw (base:=0)
  ·exact aDg fun k hk=>(h.p i hi k hk).on hw (base:=0)
 ·exact⟨_,_,_,_,hG,hT,aKk pl bt bd N N _,eO (Nat.le_refl _),trivial⟩
 ·show (cB (cB (cB iD))).wp _ _ _ _;exact aD aF hT hG (aEn pl bt bd N N _) trivial hA fun a w' hA=>eV (l:=[.fl (bI (NV pt x pl N))]) (r:=.one (.fl (bI (NV pt x pl N)))) (by kernel_rfl) (by kernel_rfl) hA
def Uf (D:Nat→J2) (PL:Nat):Nat→J2
 | 0=>(F2.zero,F2.zero,F2.zero)
 | i+1=>eD F2 (cK F2 (cK F2 (cK F2 (cK F2 (Uf D PL i))))) (D (PL-1-i))
def JG (bt bd:Nat):Value:=.func (.func 241) #[] #[iG bt 0,iG bd 0]
def GO (bt bd b o n m PL i:Nat) (c:J2):List Fact:=[.slot 1 (.im (JG bt bd)),.slot 2 (.pt 2 0),.row 2 true (dR b o n m),.slot 4 (.pt 4 0),.row 4 true (bI (F2.zero,F2.zero,F2.zero)),.slot 5 (.pt 5 0),.row 5 true (bI c),.slot 6 (.im (iI PL)),.slot 10 (.im (iI PL)),.slot 11 (.im (iI i))]
def aWJ (bt bd:Nat) (D:Nat→J2):jV
 | [.v (.im (.int .i64 (.ofNat p))),.v (.im (.pointer (some ⟨b1,0,.none⟩))),.v (.im (.pointer (some ⟨b2,0,.none⟩)))]=>some ([b1=bt,b2=bd,p<1152921504606846976],.one (.fl (bI (D p))))
 | _=>none
def aZA (bt bd b o n m PL:Nat) (D:Nat→J2):Tab:=((fI true).add 253 (gPl b o n m PL)).add 241 (aWJ bt bd D)
def gA:Code:=(f240.body).getD .skip
def QK:Code:=qD (qD (cB (cA (cB (cB (cB gA))))))
theorem aBk:gA=.seq (cA gA) (.seq (cA (cB gA)) (.seq (cA (cB (cB gA))) (.seq (.seq (cA (cA (cB (cB (cB gA))))) (.block 0 (.loop QK))) (cB (cB (cB (cB gA))))))):=by kernel_rfl
def YU (bt bd b o n m PL:Nat) (D:Nat→J2) (num:Nat→Option Value) (_:Nat):Cfg:=⟨fun _=>aZA bt bd b o n m PL D,fun _=>true,num⟩
def aOY (bt bd b o n m:Nat):List Fact:=[.slot 1 (.im (JG bt bd)),.slot 2 (.pt 2 0),.row 2 true (dR b o n m),.slot 4 (.pt 4 0),.row 4 true (bI (F2.zero,F2.zero,F2.zero))]
def aOW (bt bd b o n m:Nat):List Fact:=[.slot 1 (.im (JG bt bd)),.slot 2 (.pt 2 0),.row 2 true (dR b o n m),.slot 4 (.pt 4 0),.row 4 true (bI (F2.zero,F2.zero,F2.zero)),.slot 5 (.pt 5 0),.row 5 true (bI (F2.zero,F2.zero,F2.zero))]
def aBh (bt bd b o n m PL:Nat):List Fact:=[.slot 1 (.im (JG bt bd)),.slot 2 (.pt 2 0),.row 2 true (dR b o n m),.slot 4 (.pt 4 0),.row 4 true (bI (F2.zero,F2.zero,F2.zero)),.slot 5 (.pt 5 0),.row 5 true (bI (F2.zero,F2.zero,F2.zero)),.slot 6 (.im (iI PL))]
theorem aPd (bt bd b o n m PL:Nat) (D:Nat→J2):aX prog (qG prog) f240.ntmps (YU bt bd b o n m PL D fun _=>none) 40 (cA gA) (lS 0 [.v (.fl (dR b o n m)),.v (.im (JG bt bd))]) (aOY bt bd b o n m)=some ([],.nrm,aOY bt bd b o n m):=by kernel_rfl
theorem aPc (bt bd b o n m PL:Nat) (D:Nat→J2):aX prog (qG prog) f240.ntmps (YU bt bd b o n m PL D fun _=>none) 40 (cA (cB gA)) (aOY bt bd b o n m) (aOW bt bd b o n m)=some ([],.nrm,aOW bt bd b o n m):=by kernel_rfl
theorem aPb (bt bd b o n m PL:Nat) (D:Nat→J2):aX prog (qG prog) f240.ntmps (YU bt bd b o n m PL D fun _=>none) 40 (cA (cB (cB gA))) (aOW bt bd b o n m) (aBh bt bd b o n m PL)=some ([b=b,o=o,n=n,m=m],.nrm,aBh bt bd b o n m PL):=by kernel_rfl
theorem aPa (bt bd b o n m PL:Nat) (D:Nat→J2):aX prog (qG prog) f240.ntmps (YU bt bd b o n m PL D fun _=>none) 40 (cA (cA (cB (cB (cB gA))))) (aBh bt bd b o n m PL) (GO bt bd b o n m PL 0 (F2.zero,F2.zero,F2.zero))=some ([],.nrm,GO bt bd b o n m PL 0 (F2.zero,F2.zero,F2.zero)):=by kernel_rfl
theorem aPe (bt bd b o n m PL i:Nat) (D:Nat→J2) (c:J2):aX prog (qG prog) f240.ntmps (YU bt bd b o n m PL D (assoc [(12,.bool true),(24,iI (PL-1)),(26,iI (PL-1-i)),(29,iI (i+1))])) 60 QK (GO bt bd b o n m PL i c) (GO bt bd b o n m PL (i+1) (eD F2 (cK F2 (cK F2 (cK F2 (cK F2 c)))) (D (PL-1-i))))=some ([aI .lss .i64 (Int.ofNat i) (Int.ofNat PL)=some (.bool true),aI .sub .i64 (Int.ofNat PL) 1=some (iI (PL-1)),aI .sub .i64 (Int.ofNat (PL-1)) (Int.ofNat i)=some (iI (PL-1-i)),bt=bt,bd=bd,PL-1-i<1152921504606846976,aI .add .i64 (Int.ofNat i) 1=some (iI (i+1))],.nrm,GO bt bd b o n m PL (i+1) (eD F2 (cK F2 (cK F2 (cK F2 (cK F2 c)))) (D (PL-1-i)))):=by kernel_rfl
theorem aIc (bt bd b o n m PL i:Nat) (D:Nat→J2) (c:J2):aX prog (qG prog) f240.ntmps (YU bt bd b o n m PL D (assoc [(12,.bool false)])) 40 QK (GO bt bd b o n m PL i c) (GO bt bd b o n m PL i c)=some ([aI .lss .i64 (Int.ofNat i) (Int.ofNat PL)=some (.bool false)],.ex 0,GO bt bd b o n m PL i c):=by kernel_rfl
theorem aBj (bt bd b o n m PL i:Nat) (D:Nat→J2) (c:J2):aX prog (qG prog) f240.ntmps (YU bt bd b o n m PL D fun _=>none) 40 (cB (cB (cB (cB gA)))) (GO bt bd b o n m PL i c) [.slot 4 (.pt 4 0),.row 4 true (bI c)]=some ([],.rt,[.slot 4 (.pt 4 0),.row 4 true (bI c)]):=by kernel_rfl
theorem Ue {w0:World} {bt bd bT N b o n m:Nat} {x:Nat→Nat} {pt:Nat→J2} (h:ClMem2 w0 bt bd bT N b o n m x pt) (hN:N≤n) (hn:n<4611686018427387904):Calls prog 240 #[.agg (aA (dR b o n m)).toArray,JG bt bd] w0 (fun e w'=>e=.returned (.agg (aA (bI (Uf (fun p=>NV pt x p N) (mV x n/4+1) (mV x n/4+1)))).toArray)∧Below w0.heap.size w0 w'):=by
 have hG:cS prog (qG prog) w0.heap.size w0:=(aK _).w _ _;have hL:=RA x n;generalize hPL:mV x n/4+1=PL;have hPL':PL<1000:=by omega
 have hT:∀num,∀n' d:Nat,TabOkW prog ((YU bt bd b o n m PL (fun p=>NV pt x p N) num n').T d) w0.heap.size w0:=fun num _ _=>by
  refine TabOkW.add (TabOkW.add ((jG true).w _ _) func253 (by kernel_rfl) (by kernel_rfl) fun w hw cs pre r hg hq args ha => ?_) func241 (by kernel_rfl) (by kernel_rfl) fun w hw cs pre r hg hq args ha => ?_
  ·unfold gPl at hg;split at hg
   ·cases hg;obtain⟨rfl,rfl,rfl,rfl,_⟩:=hq;rw[CQ ha,←hPL];exact xZ _ _ _ _ x (fun j hj=>(h.x j hj).on hw (base:=0)) hn
   ·cases hg
  ·unfold aWJ at hg;split at hg
   ·rename_i p b1 b2;cases hg;obtain⟨rfl,rfl,hp,_⟩:=hq
    match args,ha with
    | [u,v,t],ha =>
     have e1:u=iI p:=ha.1;have e2:v=iG b1 0:=ha.2.1;have e3:t=iG b2 0:=ha.2.2.1;subst e1; subst e2; subst e3;exact Vv (h.on hw) hN hn hp
    | [],ha=>exact ha.elim
    | [_],ha=>exact ha.2.elim
    | [_,_],ha=>exact ha.2.2.elim
    | _::_::_::_::_,ha=>exact ha.2.2.2.elim
   ·cases hg
 refine dU func240 (c:=gA) rfl (args:=[.agg (aA (dR b o n m)).toArray,JG bt bd]) (cs:=[.v (.fl (dR b o n m)),.v (.im (JG bt bd))]) ⟨rfl,rfl,trivial⟩ (Nat.le_of_ble_eq_true (by kernel_rfl)) fun a w' hA => ?_
 rw[aBk];refine wp_seq (aD aF (hT _) hG (aPd bt bd b o n m PL _) trivial hA fun a w' hA => ?_);refine wp_seq (aD aF (hT _) hG (aPc bt bd b o n m PL _) trivial hA fun a w' hA => ?_);refine wp_seq (aD aF (hT _) hG (aPb bt bd b o n m PL _) ⟨rfl,rfl,rfl,rfl,trivial⟩ hA fun a w' hA => ?_);refine wp_seq (wp_seq (aD aF (hT _) hG (aPa bt bd b o n m PL _) trivial hA fun a w' hA => ?_));refine wp_block ?_;refine kH aF (fun i=>GO bt bd b o n m PL i (Uf (fun p=>NV pt x p N) PL i)) PL (fun i hi => ?_) (.ex 0) (by simp) (GO bt bd b o n m PL PL (Uf (fun p=>NV pt x p N) PL PL)) ?_ hA fun a w' hA => ?_
 ·exact⟨_,_,_,_,hG,hT _,aPe bt bd b o n m PL i _ (Uf (fun p=>NV pt x p N) PL i),bY hi,vI (k:=1) (by omega) (by omega),vI (by omega) (by omega),rfl,rfl,by omega,lI (k:=1) (by omega),trivial⟩
 ·exact⟨_,_,_,_,hG,hT _,aIc bt bd b o n m PL PL _ _,eO (Nat.le_refl _),trivial⟩
 ·show (cB (cB (cB (cB gA)))).wp _ _ _ _;exact aD aF (hT _) hG (aBj bt bd b o n m PL PL _ _) trivial hA fun a w' hA=>eV (l:=[.fl (bI (Uf (fun p=>NV pt x p N) PL PL))]) (r:=.one (.fl (bI (Uf (fun p=>NV pt x p N) PL PL)))) (by kernel_rfl) (by kernel_rfl) hA
theorem xC {P:Program} {id:Nat} {ops:Array Oper} {l:List Nat} (hl:List.range ops.size=l) {Q:Exit→Act→World→Prop} {a:Act} {w:World} (h:wpOps P ops Q l a w):(Code.region id ops false).wp P Q a w:=wp_region (by rw[hl]; exact h)
def vA:J1:=(F1.zero,F1.zero,F1.zero)
def vV (p:J1):List At:=bJ (LL p 1)++(bJ (LL p 2)++(bJ (LL p 3)++(bJ (LL p 4)++(bJ (LL p 5)++(bJ (LL p 6)++(bJ (LL p 7)++(bJ (LL p 8))))))))
def zT1:List At:=bJ vA++(bJ vA++(bJ vA++(bJ vA++(bJ vA++(bJ vA++(bJ vA++(bJ vA)))))))
theorem Ju (p:J1):cO (vV p)=96:=by kernel_rfl
theorem Ww:cO zT1=96:=by kernel_rfl
def vC (p:J1) (k:Nat):List At:=bJ (LL p (k+1))
theorem Yc (p:J1):vV p=cG (vC p) 0 8:=by
 show vV p=vC p 0++(vC p 1++(vC p 2++(vC p 3++(vC p 4++(vC p 5++(vC p 6++(vC p 7++[])))))));rw[List.append_nil];rfl
theorem Zb (p:J1):aT prog (qG prog) (fun _=>⟨fun s=>fI true,fun s=>true,fun _=>none⟩) f230 200 [.v (.fl (bJ p))]=some ([],.one (.fl (vV p))):=by kernel_rfl
def jP:Tab:=(fI true).add 230 (g1 To fun p=>([],.one (.fl (vV p))))
theorem iC:TabOk prog jP:=(jG true).ad func230 (bM nC fun p hp args w ha=>aB aF (fun _ s=>jG _) (aK prog) func230 (Zb p) trivial ha)
def dP:Code:=(f191.body).getD .skip
def TG:Code:=qD (qD (cB (cA (cB (cB dP)))))
theorem aEK:dP=.seq (cA dP) (.seq (.region 1 (cN (cA (cB dP))) false) (.seq (.seq (cA (cA (cB (cB dP)))) (.block 0 (.loop TG))) (.seq (cA (cB (cB (cB dP)))) (.seq (.region 8 (cN (cA (cB (cB (cB (cB dP)))))) false) .ret)))):=by kernel_rfl
def aSF (LP:List At) (N N':Nat) (vn:Value):List Fact:=[.slot 0 (.sl 0 0 N N'),.row 0 false LP,.slot 1 (.im vn),.slot 4 (.pt 4 0),.row 4 true (bJ vA)]
def aEI (LP Z:List At) (N N':Nat) (vn:Value):List Fact:=[.slot 0 (.sl 0 0 N N'),.row 0 false LP,.slot 1 (.im vn),.slot 4 (.pt 4 0),.row 4 true (bJ vA),.slot 11 (.sl 11 0 N N),.row 11 true Z,.slot 5 (.pt 5 0),.row 5 true [.c (.slice none 0 0)]]
def aSD (LP Z:List At) (N N' b:Nat) (vn:Value):List Fact:=[.at 11 b,.slot 0 (.sl 0 0 N N'),.row 0 false LP,.slot 1 (.im vn),.slot 4 (.pt 4 0),.row 4 true (bJ vA),.row 11 true Z,.slot 5 (.pt 5 0),.row 5 true [.c (kB b 0 N N)]]
def JP (LP Z:List At) (N N' b:Nat) (vn:Value) (i:Nat):List Fact:=[.at 11 b,.slot 0 (.sl 0 0 N N'),.row 0 false LP,.slot 1 (.im vn),.slot 4 (.pt 4 0),.row 4 true (bJ vA),.row 11 true Z,.slot 5 (.pt 5 0),.row 5 true [.c (kB b 0 N N)],.slot 12 (.sl 0 0 N N'),.slot 13 (.im (iI N)),.slot 14 (.im (iI i))]
def aEG (Z:List At) (N b bn on n m:Nat):List Fact:=[.at 11 b,.slot 4 (.pt 4 0),.row 4 true (bJ vA),.row 11 true Z,.slot 5 (.pt 5 0),.row 5 true [.c (kB b 0 N N)],.slot 8 (.pt 8 0),.row 8 true (dR bn on n m)]
def DL (Z:List At) (N b b5 b8 bn on n m:Nat):List Fact:=[.at 5 b5,.at 8 b8,.at 11 b,.slot 4 (.pt 4 0),.row 4 true (bJ vA),.row 11 true Z,.row 5 true [.c (kB b 0 N N)],.row 8 true (dR bn on n m),.slot 27 (.fl (dR bn on n m)),.slot 28 (.im (JH b5 b8))]
def aEE (num:Nat→Option Value) (_:Nat):Cfg:=⟨fun _=>jP,fun _=>true,num⟩
def CO:Cfg:=⟨fun _=>jP,fun _=>true,fun _=>none⟩
theorem aSU (LP:List At) (N N':Nat) (vn:Value):aX prog (qG prog) f191.ntmps (aEE fun _=>none) 40 (cA dP) (lS 0 [.s LP N N',.v (.im vn)]) (aSF LP N N' vn)=some ([],.nrm,aSF LP N N' vn):=by kernel_rfl
def aMC (N:Nat) (Z:List At):Ext:={ UR (fun _ _ _=>False)with mks:=assoc [(11,(N,Z))] }
theorem aST (LP Z:List At) (N N':Nat) (vn:Value):sC prog (qX prog (aMC N Z)) f191.ntmps CO ((cN (cA (cB dP))).extract 0 4) (aSF LP N N' vn) (aEI LP Z N N' vn)=some ([∃e,∀w:World,(Instr.makeSlice 266 (iI N) (iI N)).run prog w=.ok (.slice (some ⟨w.heap.size,0,none⟩) N N) (w.alloc (.cells (aA Z).toArray e))],aEI LP Z N N' vn):=by kernel_rfl
theorem aSS (LP Z:List At) (N N' b:Nat) (vn:Value):sC prog (qG prog) f191.ntmps CO ((cN (cA (cB dP))).extract 4 5) (.slot 11 (.im (kB b 0 N N)) :: .at 11 b::aEI LP Z N N' vn) (aSD LP Z N N' b vn)=some ([],aSD LP Z N N' b vn):=by kernel_rfl
theorem aSR (LP Z:List At) (N N' b:Nat) (vn:Value):aX prog (qG prog) f191.ntmps (aEE fun _=>none) 40 (cA (cA (cB (cB dP)))) (aSD LP Z N N' b vn) (JP LP Z N N' b vn 0)=some ([],.nrm,JP LP Z N N' b vn 0):=by kernel_rfl
def aXK (N b i:Nat) (p:J1) (Z':List At):Ext:={ UR (fun _ _ _=>False)with idx:=assoc [(17,i),(23,i)],ld:=assoc [(18,bJ p)],st:=assoc [(23,Z')],gen:=assoc [(19,kB b 0 N N)],ky:=assoc [(19,11)] }
theorem aSV (LP Z Z':List At) (N N' b:Nat) (vn:Value) (i:Nat) (p:J1):aX prog (qX prog (aXK N b i p Z')) f191.ntmps (aEE (assoc [(15,.bool true),(24,iI (i+1))])) 40 TG (JP LP Z N N' b vn i) (JP LP Z' N N' b vn (i+1))=some ([aI .lss .i64 (Int.ofNat i) (Int.ofNat N)=some (.bool true),Int.ofNat i=Int.ofNat i,i<N,fP LP (0+i*12) 12=some (bJ p),cellAt [.c (kB b 0 N N)] 0=some (kB b 0 N N),b=b,Int.ofNat i=Int.ofNat i,i<N,put Z (0+i*96) (vV p)=some Z',aI .add .i64 (Int.ofNat i) 1=some (iI (i+1))],.nrm,JP LP Z' N N' b vn (i+1)):=by kernel_rfl
theorem aKr (LP Z:List At) (N N' b:Nat) (vn:Value) (i:Nat):aX prog (qG prog) f191.ntmps (aEE (assoc [(15,.bool false)])) 40 TG (JP LP Z N N' b vn i) (JP LP Z N N' b vn i)=some ([aI .lss .i64 (Int.ofNat i) (Int.ofNat N)=some (.bool false)],.ex 0,JP LP Z N N' b vn i):=by kernel_rfl
theorem aSQ (LP Z:List At) (N N' b bn on n m i:Nat):aX prog (qG prog) f191.ntmps (aEE fun _=>none) 40 (cA (cB (cB (cB dP)))) (JP LP Z N N' b (kB bn on n m) i) (aEG Z N b bn on n m)=some ([],.nrm,aEG Z N b bn on n m):=by kernel_rfl
theorem aSP (Z:List At) (N b b5 b8 bn on n m:Nat):sC prog (qG prog) f191.ntmps CO ((cN (cA (cB (cB (cB (cB dP)))))).extract 0 2) (.at 8 b8 :: .at 5 b5::aEG Z N b bn on n m) (DL Z N b b5 b8 bn on n m)=some ([],DL Z N b b5 b8 bn on n m):=by kernel_rfl
theorem aSO (Z:List At) (N b b5 b8 bn on n m:Nat) (r:J1):sC prog (qG prog) f191.ntmps CO ((cN (cA (cB (cB (cB (cB dP)))))).extract 3 4) (.slot 29 (.fl (bJ r))::DL Z N b b5 b8 bn on n m) [.slot 4 (.pt 4 0),.row 4 true (bJ r)]=some ([],[.slot 4 (.pt 4 0),.row 4 true (bJ r)]):=by kernel_rfl
theorem Wx:tQ (aA zT1) (.int .u64 0):=by unfold tQ; kernel_rfl
theorem aKq {w:World} {b N i k:Nat} {pt:Nat→J1} (h:oldOf w b 0 (cG (fun j=>vV (pt j)) 0 N)) (hi:i<N) (hk:k<8):oldOf w b (i*96+k*12) (bJ (LL (pt i) (k+1))):=by
 refine⟨h.1,?_⟩;have h1:w.rangeAt b (0+i*96) (aA (vV (pt i))):=mT (f:=fun j=>vV (pt j)) (c:=96) (fun j=>Ju (pt j)) hi h.2;rw[Yc,Nat.zero_add]at h1;exact mT (f:=vC (pt i)) (c:=12) (fun j=>rfl) hk h1
theorem Wa {w0:World} {gb go N N' bn on n m:Nat} {x:Nat→Nat} {pt:Nat→J1} {LP:List At} (hLP:aA LP=aA (cG (fun j=>bJ (pt j)) 0 N)) (hP:oldOf w0 gb go LP) (hx:∀i,i<n→oldOf w0 bn (on+i*4) [.q (x i)]) (hN:N≤n) (hN2:N≤65536) (hn:n<4611686018427387904):Calls prog 191 #[kB gb go N N',kB bn on n m] w0 (fun e w'=>e=.returned (.agg (aA (bJ (Uh (fun p=>NW pt x p N) (mV x n/4+1) (mV x n/4+1)))).toArray)∧Below w0.heap.size w0 w'):=by
 have hG:cS prog (qG prog) w0.heap.size w0:=(aK _).w _ _;have hT:∀n d:Nat,TabOkW prog jP w0.heap.size w0:=fun _ _=>iC.w _ _
 have hXF:∀x:Ext,x.T2=Fr0→(∀b o l,¬x.old b o l)→cS prog (qX prog x) w0.heap.size w0:=fun x h2 h3=>oC (h2▸jR _) fun b o l h=>(h3 b o l h).elim
 have hP':oldOf w0 gb go (cG (fun j=>bJ (pt j)) 0 N):=⟨hP.1,by rw[←hLP]; exact hP.2⟩;clear hP hLP;refine dU func191 (c:=dP) rfl (args:=[kB gb go N N',kB bn on n m]) (cs:=[.s (cG (fun j=>bJ (pt j)) 0 N) N N',.v (.im (kB bn on n m))]) ⟨⟨gb,go,rfl,hP'.1,hP'.2⟩,rfl,trivial⟩ (Nat.le_of_ble_eq_true (by kernel_rfl)) fun a w' hA => ?_
 rw[aEK];refine wp_seq (aD aF hT hG (aSU _ N N' _) trivial hA fun a w' hA => ?_);refine wp_seq (xC (l:=List.range' 0 ((cN (cA (cB dP))).extract 0 4).size++(List.range' 4 ((cN (cA (cB dP))).extract 4 5).size++[])) (by kernel_rfl) ?_);refine cH (c:=CO) (hT 0) (hXF (aMC N (cG (fun _=>zT1) 0 N)) rfl fun _ _ _ h=>h) (aST _ _ N N' _) ⟨?_,trivial⟩ (by kernel_rfl) hA fun a w' hA => ?_
 ·exact Mq (t:=266) (e:=268) (z:=zT1) (v:=.int .u64 0) (n:=96) (by8:=768) (by kernel_rfl) (by kernel_rfl) Ww Wx (by omega) (by omega) (by omega)
 obtain⟨b,hA⟩:=hA.at (k:=11) (l:=cG (fun _=>zT1) 0 N) (by simp[aEI]);have hA:=hA.im (s:=11) (k:=11) (o:=0) (n:=N) (m:=N) (b:=b) (by simp[aEI]) (by simp);refine cH (c:=CO) (hT 0) hG (aSS _ _ N N' b _) trivial (by kernel_rfl) hA fun a w' hA => ?_
 refine wp_seq (wp_seq (aD aF hT hG (aSR _ _ N N' b _) trivial hA fun a w' hA => ?_));refine wp_block ?_;refine kH aF (fun i=>JP (cG (fun j=>bJ (pt j)) 0 N) (nK (fun j=>vV (pt j)) zT1 N i) N N' b (kB bn on n m) i) N (fun i hi => ?_) (.ex 0) (by simp) (JP (cG (fun j=>bJ (pt j)) 0 N) (cG (fun j=>vV (pt j)) 0 N) N N' b (kB bn on n m) N) ?_ (by rw[RI]; exact hA) fun a w' hA => ?_
 ·exact⟨_,_,_,_,hXF (aXK N b i (pt i) _) rfl (fun _ _ _ h=>h),hT,aSV _ _ (nK (fun j=>vV (pt j)) zT1 N (i+1)) N N' b _ i (pt i),bY hi,rfl,hi,mI (f:=fun j=>bJ (pt j)) (c:=12) (fun j=>rfl) hi (Nat.zero_add _),rfl,rfl,rfl,hi,xU (f:=fun j=>vV (pt j)) (c:=96) (fun j=>Ju (pt j)) Ww hi (Nat.zero_add _),lI (k:=1) (by omega),trivial⟩
 ·rw[←RH (fun j=>vV (pt j)) zT1 N];exact⟨_,_,_,_,hG,hT,aKr _ _ N N' b _ N,eO (Nat.le_refl _),trivial⟩
 refine wp_seq (aD aF hT hG (aSQ _ _ N N' b bn on n m N) trivial hA fun a w' hA => ?_);obtain⟨b5,hA⟩:=hA.at (k:=5) (l:=[.c (kB b 0 N N)]) (by simp[aEG]);obtain⟨b8,hA⟩:=hA.at (k:=8) (l:=dR bn on n m) (by simp[aEG]);refine wp_seq (xC (l:=List.range' 0 ((cN (cA (cB (cB (cB (cB dP)))))).extract 0 2).size++(2::(List.range' 3 ((cN (cA (cB (cB (cB (cB dP)))))).extract 3 4).size++[]))) (by kernel_rfl) ?_);refine cH (c:=CO) (hT 0) hG (aSP _ N b b5 b8 bn on n m) trivial (by kernel_rfl) hA fun a w' hA => ?_
 have hM:ClMem1 w' b5 b8 b N bn on n m x pt:=by
  refine⟨hA.old (k:=5) (by simp[DL]) (by simp[DL]),hA.old (k:=8) (by simp[DL]) (by simp[DL]),fun i hi=>(hx i hi).on hA.below (base:=0),fun i hi k hk => ?_⟩;exact aKq (hA.old (k:=11) (by simp[DL]) (by simp[DL])) hi hk
 have h27:=hA.slotF (s:=27) (l:=dR bn on n m) (by simp[DL]);have h28:=hA.slot (s:=28) (v:=JH b5 b8) (by simp[DL]);obtain⟨o,ho,hoo,hod,hog⟩:∃o,(cN (cA (cB (cB (cB (cB dP))))))[2]?=some o∧(∃ts,o.op=.call ⟨.value (.func 231),#[.tmp 27,.tmp 28],ts⟩)∧o.dst=some 29∧o.guard=none:=⟨_,rfl,⟨_,rfl⟩,rfl,rfl⟩
 obtain⟨ts,hoo⟩:=hoo;refine mS ho hog (EY hoo (vs:=[.agg (aA (dR bn on n m)).toArray,JH b5 b8]) (by simp[Act.eval,h27,h28]) (gJ func231 (by kernel_rfl) (by kernel_rfl) · _) (Ug hM hN hn) fun w'' hb => ?_);rw[hod];have hA:=hA.put hb (d:=29) (Nat.le_of_ble_eq_true (by kernel_rfl)) (.fl (bJ (Uh (fun p=>NW pt x p N) (mV x n/4+1) (mV x n/4+1)))) (by
  have:(DL (cG (fun j=>vV (pt j)) 0 N) N b b5 b8 bn on n m).all (fun φ => !(lN (some 29) none φ))=true:=by kernel_rfl
  intro φ hφ;rw[List.all_eq_true]at this;simpa using this φ hφ)
 refine cH (c:=CO) (hT 0) hG (aSO _ N b b5 b8 bn on n m _) trivial (by kernel_rfl) hA fun a w' hA => ?_
 exact wp_ret (eV (l:=[.fl (bJ (Uh (fun p=>NW pt x p N) (mV x n/4+1) (mV x n/4+1)))]) (r:=.one (.fl (bJ (Uh (fun p=>NW pt x p N) (mV x n/4+1) (mV x n/4+1))))) (by kernel_rfl) (by kernel_rfl) hA)
def uZ:J2:=(F2.zero,F2.zero,F2.zero)
def vU (p:J2):List At:=bI (LK p 1)++(bI (LK p 2)++(bI (LK p 3)++(bI (LK p 4)++(bI (LK p 5)++(bI (LK p 6)++(bI (LK p 7)++(bI (LK p 8))))))))
def zT2:List At:=bI uZ++(bI uZ++(bI uZ++(bI uZ++(bI uZ++(bI uZ++(bI uZ++(bI uZ)))))))
theorem Jt (p:J2):cO (vU p)=192:=by kernel_rfl
theorem Wu:cO zT2=192:=by kernel_rfl
def vB (p:J2) (k:Nat):List At:=bI (LK p (k+1))
theorem Yb (p:J2):vU p=cG (vB p) 0 8:=by
 show vU p=vB p 0++(vB p 1++(vB p 2++(vB p 3++(vB p 4++(vB p 5++(vB p 6++(vB p 7++[])))))));rw[List.append_nil];rfl
theorem Za (p:J2):aT prog (qG prog) (fun _=>⟨fun s=>fI true,fun s=>true,fun _=>none⟩) f239 200 [.v (.fl (bI p))]=some ([],.one (.fl (vU p))):=by kernel_rfl
def jO:Tab:=(fI true).add 239 (g1 Tn fun p=>([],.one (.fl (vU p))))
theorem iA:TabOk prog jO:=(jG true).ad func239 (bM nB fun p hp args w ha=>aB aF (fun _ s=>jG _) (aK prog) func239 (Za p) trivial ha)
def dO:Code:=(f193.body).getD .skip
def TE:Code:=qD (qD (cB (cA (cB (cB dO)))))
theorem aEJ:dO=.seq (cA dO) (.seq (.region 1 (cN (cA (cB dO))) false) (.seq (.seq (cA (cA (cB (cB dO)))) (.block 0 (.loop TE))) (.seq (cA (cB (cB (cB dO)))) (.seq (.region 8 (cN (cA (cB (cB (cB (cB dO)))))) false) .ret)))):=by kernel_rfl
def aSE (LP:List At) (N N':Nat) (vn:Value):List Fact:=[.slot 0 (.sl 0 0 N N'),.row 0 false LP,.slot 1 (.im vn),.slot 4 (.pt 4 0),.row 4 true (bI uZ)]
def aEH (LP Z:List At) (N N':Nat) (vn:Value):List Fact:=[.slot 0 (.sl 0 0 N N'),.row 0 false LP,.slot 1 (.im vn),.slot 4 (.pt 4 0),.row 4 true (bI uZ),.slot 11 (.sl 11 0 N N),.row 11 true Z,.slot 5 (.pt 5 0),.row 5 true [.c (.slice none 0 0)]]
def aSC (LP Z:List At) (N N' b:Nat) (vn:Value):List Fact:=[.at 11 b,.slot 0 (.sl 0 0 N N'),.row 0 false LP,.slot 1 (.im vn),.slot 4 (.pt 4 0),.row 4 true (bI uZ),.row 11 true Z,.slot 5 (.pt 5 0),.row 5 true [.c (kB b 0 N N)]]
def JO (LP Z:List At) (N N' b:Nat) (vn:Value) (i:Nat):List Fact:=[.at 11 b,.slot 0 (.sl 0 0 N N'),.row 0 false LP,.slot 1 (.im vn),.slot 4 (.pt 4 0),.row 4 true (bI uZ),.row 11 true Z,.slot 5 (.pt 5 0),.row 5 true [.c (kB b 0 N N)],.slot 12 (.sl 0 0 N N'),.slot 13 (.im (iI N)),.slot 14 (.im (iI i))]
def aEF (Z:List At) (N b bn on n m:Nat):List Fact:=[.at 11 b,.slot 4 (.pt 4 0),.row 4 true (bI uZ),.row 11 true Z,.slot 5 (.pt 5 0),.row 5 true [.c (kB b 0 N N)],.slot 8 (.pt 8 0),.row 8 true (dR bn on n m)]
def DK (Z:List At) (N b b5 b8 bn on n m:Nat):List Fact:=[.at 5 b5,.at 8 b8,.at 11 b,.slot 4 (.pt 4 0),.row 4 true (bI uZ),.row 11 true Z,.row 5 true [.c (kB b 0 N N)],.row 8 true (dR bn on n m),.slot 27 (.fl (dR bn on n m)),.slot 28 (.im (JG b5 b8))]
def aED (num:Nat→Option Value) (_:Nat):Cfg:=⟨fun _=>jO,fun _=>true,num⟩
def CN:Cfg:=⟨fun _=>jO,fun _=>true,fun _=>none⟩
theorem aSM (LP:List At) (N N':Nat) (vn:Value):aX prog (qG prog) f193.ntmps (aED fun _=>none) 40 (cA dO) (lS 0 [.s LP N N',.v (.im vn)]) (aSE LP N N' vn)=some ([],.nrm,aSE LP N N' vn):=by kernel_rfl
def aMB (N:Nat) (Z:List At):Ext:={ UR (fun _ _ _=>False)with mks:=assoc [(11,(N,Z))] }
theorem aSL (LP Z:List At) (N N':Nat) (vn:Value):sC prog (qX prog (aMB N Z)) f193.ntmps CN ((cN (cA (cB dO))).extract 0 4) (aSE LP N N' vn) (aEH LP Z N N' vn)=some ([∃e,∀w:World,(Instr.makeSlice 277 (iI N) (iI N)).run prog w=.ok (.slice (some ⟨w.heap.size,0,none⟩) N N) (w.alloc (.cells (aA Z).toArray e))],aEH LP Z N N' vn):=by kernel_rfl
theorem aSK (LP Z:List At) (N N' b:Nat) (vn:Value):sC prog (qG prog) f193.ntmps CN ((cN (cA (cB dO))).extract 4 5) (.slot 11 (.im (kB b 0 N N)) :: .at 11 b::aEH LP Z N N' vn) (aSC LP Z N N' b vn)=some ([],aSC LP Z N N' b vn):=by kernel_rfl
theorem aSJ (LP Z:List At) (N N' b:Nat) (vn:Value):aX prog (qG prog) f193.ntmps (aED fun _=>none) 40 (cA (cA (cB (cB dO)))) (aSC LP Z N N' b vn) (JO LP Z N N' b vn 0)=some ([],.nrm,JO LP Z N N' b vn 0):=by kernel_rfl
def aXJ (N b i:Nat) (p:J2) (Z':List At):Ext:={ UR (fun _ _ _=>False)with idx:=assoc [(17,i),(23,i)],ld:=assoc [(18,bI p)],st:=assoc [(23,Z')],gen:=assoc [(19,kB b 0 N N)],ky:=assoc [(19,11)] }
theorem aSN (LP Z Z':List At) (N N' b:Nat) (vn:Value) (i:Nat) (p:J2):aX prog (qX prog (aXJ N b i p Z')) f193.ntmps (aED (assoc [(15,.bool true),(24,iI (i+1))])) 40 TE (JO LP Z N N' b vn i) (JO LP Z' N N' b vn (i+1))=some ([aI .lss .i64 (Int.ofNat i) (Int.ofNat N)=some (.bool true),Int.ofNat i=Int.ofNat i,i<N,fP LP (0+i*24) 24=some (bI p),cellAt [.c (kB b 0 N N)] 0=some (kB b 0 N N),b=b,Int.ofNat i=Int.ofNat i,i<N,put Z (0+i*192) (vU p)=some Z',aI .add .i64 (Int.ofNat i) 1=some (iI (i+1))],.nrm,JO LP Z' N N' b vn (i+1)):=by kernel_rfl
theorem aKp (LP Z:List At) (N N' b:Nat) (vn:Value) (i:Nat):aX prog (qG prog) f193.ntmps (aED (assoc [(15,.bool false)])) 40 TE (JO LP Z N N' b vn i) (JO LP Z N N' b vn i)=some ([aI .lss .i64 (Int.ofNat i) (Int.ofNat N)=some (.bool false)],.ex 0,JO LP Z N N' b vn i):=by kernel_rfl
theorem aSI (LP Z:List At) (N N' b bn on n m i:Nat):aX prog (qG prog) f193.ntmps (aED fun _=>none) 40 (cA (cB (cB (cB dO)))) (JO LP Z N N' b (kB bn on n m) i) (aEF Z N b bn on n m)=some ([],.nrm,aEF Z N b bn on n m):=by kernel_rfl
theorem aSH (Z:List At) (N b b5 b8 bn on n m:Nat):sC prog (qG prog) f193.ntmps CN ((cN (cA (cB (cB (cB (cB dO)))))).extract 0 2) (.at 8 b8 :: .at 5 b5::aEF Z N b bn on n m) (DK Z N b b5 b8 bn on n m)=some ([],DK Z N b b5 b8 bn on n m):=by kernel_rfl
theorem aSG (Z:List At) (N b b5 b8 bn on n m:Nat) (r:J2):sC prog (qG prog) f193.ntmps CN ((cN (cA (cB (cB (cB (cB dO)))))).extract 3 4) (.slot 29 (.fl (bI r))::DK Z N b b5 b8 bn on n m) [.slot 4 (.pt 4 0),.row 4 true (bI r)]=some ([],[.slot 4 (.pt 4 0),.row 4 true (bI r)]):=by kernel_rfl
theorem Wv:tQ (aA zT2) (.int .u64 0):=by unfold tQ; kernel_rfl
theorem aKo {w:World} {b N i k:Nat} {pt:Nat→J2} (h:oldOf w b 0 (cG (fun j=>vU (pt j)) 0 N)) (hi:i<N) (hk:k<8):oldOf w b (i*192+k*24) (bI (LK (pt i) (k+1))):=by
 refine⟨h.1,?_⟩;have h1:w.rangeAt b (0+i*192) (aA (vU (pt i))):=mT (f:=fun j=>vU (pt j)) (c:=192) (fun j=>Jt (pt j)) hi h.2;rw[Yb,Nat.zero_add]at h1;exact mT (f:=vB (pt i)) (c:=24) (fun j=>rfl) hk h1
theorem Vz {w0:World} {gb go N N' bn on n m:Nat} {x:Nat→Nat} {pt:Nat→J2} {LP:List At} (hLP:aA LP=aA (cG (fun j=>bI (pt j)) 0 N)) (hP:oldOf w0 gb go LP) (hx:∀i,i<n→oldOf w0 bn (on+i*4) [.q (x i)]) (hN:N≤n) (hN2:N≤65536) (hn:n<4611686018427387904):Calls prog 193 #[kB gb go N N',kB bn on n m] w0 (fun e w'=>e=.returned (.agg (aA (bI (Uf (fun p=>NV pt x p N) (mV x n/4+1) (mV x n/4+1)))).toArray)∧Below w0.heap.size w0 w'):=by
 have hG:cS prog (qG prog) w0.heap.size w0:=(aK _).w _ _;have hT:∀n d:Nat,TabOkW prog jO w0.heap.size w0:=fun _ _=>iA.w _ _
 have hXF:∀x:Ext,x.T2=Fr0→(∀b o l,¬x.old b o l)→cS prog (qX prog x) w0.heap.size w0:=fun x h2 h3=>oC (h2▸jR _) fun b o l h=>(h3 b o l h).elim
 have hP':oldOf w0 gb go (cG (fun j=>bI (pt j)) 0 N):=⟨hP.1,by rw[←hLP]; exact hP.2⟩;clear hP hLP;refine dU func193 (c:=dO) rfl (args:=[kB gb go N N',kB bn on n m]) (cs:=[.s (cG (fun j=>bI (pt j)) 0 N) N N',.v (.im (kB bn on n m))]) ⟨⟨gb,go,rfl,hP'.1,hP'.2⟩,rfl,trivial⟩ (Nat.le_of_ble_eq_true (by kernel_rfl)) fun a w' hA => ?_
 rw[aEJ];refine wp_seq (aD aF hT hG (aSM _ N N' _) trivial hA fun a w' hA => ?_);refine wp_seq (xC (l:=List.range' 0 ((cN (cA (cB dO))).extract 0 4).size++(List.range' 4 ((cN (cA (cB dO))).extract 4 5).size++[])) (by kernel_rfl) ?_);refine cH (c:=CN) (hT 0) (hXF (aMB N (cG (fun _=>zT2) 0 N)) rfl fun _ _ _ h=>h) (aSL _ _ N N' _) ⟨?_,trivial⟩ (by kernel_rfl) hA fun a w' hA => ?_
 ·exact Mq (t:=277) (e:=279) (z:=zT2) (v:=.int .u64 0) (n:=192) (by8:=1536) (by kernel_rfl) (by kernel_rfl) Wu Wv (by omega) (by omega) (by omega)
 obtain⟨b,hA⟩:=hA.at (k:=11) (l:=cG (fun _=>zT2) 0 N) (by simp[aEH]);have hA:=hA.im (s:=11) (k:=11) (o:=0) (n:=N) (m:=N) (b:=b) (by simp[aEH]) (by simp);refine cH (c:=CN) (hT 0) hG (aSK _ _ N N' b _) trivial (by kernel_rfl) hA fun a w' hA => ?_
 refine wp_seq (wp_seq (aD aF hT hG (aSJ _ _ N N' b _) trivial hA fun a w' hA => ?_));refine wp_block ?_;refine kH aF (fun i=>JO (cG (fun j=>bI (pt j)) 0 N) (nK (fun j=>vU (pt j)) zT2 N i) N N' b (kB bn on n m) i) N (fun i hi => ?_) (.ex 0) (by simp) (JO (cG (fun j=>bI (pt j)) 0 N) (cG (fun j=>vU (pt j)) 0 N) N N' b (kB bn on n m) N) ?_ (by rw[RI]; exact hA) fun a w' hA => ?_
 ·exact⟨_,_,_,_,hXF (aXJ N b i (pt i) _) rfl (fun _ _ _ h=>h),hT,aSN _ _ (nK (fun j=>vU (pt j)) zT2 N (i+1)) N N' b _ i (pt i),bY hi,rfl,hi,mI (f:=fun j=>bI (pt j)) (c:=24) (fun j=>rfl) hi (Nat.zero_add _),rfl,rfl,rfl,hi,xU (f:=fun j=>vU (pt j)) (c:=192) (fun j=>Jt (pt j)) Wu hi (Nat.zero_add _),lI (k:=1) (by omega),trivial⟩
 ·rw[←RH (fun j=>vU (pt j)) zT2 N];exact⟨_,_,_,_,hG,hT,aKp _ _ N N' b _ N,eO (Nat.le_refl _),trivial⟩
 refine wp_seq (aD aF hT hG (aSI _ _ N N' b bn on n m N) trivial hA fun a w' hA => ?_);obtain⟨b5,hA⟩:=hA.at (k:=5) (l:=[.c (kB b 0 N N)]) (by simp[aEF]);obtain⟨b8,hA⟩:=hA.at (k:=8) (l:=dR bn on n m) (by simp[aEF]);refine wp_seq (xC (l:=List.range' 0 ((cN (cA (cB (cB (cB (cB dO)))))).extract 0 2).size++(2::(List.range' 3 ((cN (cA (cB (cB (cB (cB dO)))))).extract 3 4).size++[]))) (by kernel_rfl) ?_);refine cH (c:=CN) (hT 0) hG (aSH _ N b b5 b8 bn on n m) trivial (by kernel_rfl) hA fun a w' hA => ?_
 have hM:ClMem2 w' b5 b8 b N bn on n m x pt:=by
  refine⟨hA.old (k:=5) (by simp[DK]) (by simp[DK]),hA.old (k:=8) (by simp[DK]) (by simp[DK]),fun i hi=>(hx i hi).on hA.below (base:=0),fun i hi k hk => ?_⟩;exact aKo (hA.old (k:=11) (by simp[DK]) (by simp[DK])) hi hk
 have h27:=hA.slotF (s:=27) (l:=dR bn on n m) (by simp[DK]);have h28:=hA.slot (s:=28) (v:=JG b5 b8) (by simp[DK]);obtain⟨o,ho,hoo,hod,hog⟩:∃o,(cN (cA (cB (cB (cB (cB dO))))))[2]?=some o∧(∃ts,o.op=.call ⟨.value (.func 240),#[.tmp 27,.tmp 28],ts⟩)∧o.dst=some 29∧o.guard=none:=⟨_,rfl,⟨_,rfl⟩,rfl,rfl⟩
 obtain⟨ts,hoo⟩:=hoo;refine mS ho hog (EY hoo (vs:=[.agg (aA (dR bn on n m)).toArray,JG b5 b8]) (by simp[Act.eval,h27,h28]) (gJ func240 (by kernel_rfl) (by kernel_rfl) · _) (Ue hM hN hn) fun w'' hb => ?_);rw[hod];have hA:=hA.put hb (d:=29) (Nat.le_of_ble_eq_true (by kernel_rfl)) (.fl (bI (Uf (fun p=>NV pt x p N) (mV x n/4+1) (mV x n/4+1)))) (by
  have:(DK (cG (fun j=>vU (pt j)) 0 N) N b b5 b8 bn on n m).all (fun φ => !(lN (some 29) none φ))=true:=by kernel_rfl
  intro φ hφ;rw[List.all_eq_true]at this;simpa using this φ hφ)
 refine cH (c:=CN) (hT 0) hG (aSG _ N b b5 b8 bn on n m _) trivial (by kernel_rfl) hA fun a w' hA => ?_
 exact wp_ret (eV (l:=[.fl (bI (Uf (fun p=>NV pt x p N) (mV x n/4+1) (mV x n/4+1)))]) (r:=.one (.fl (bI (Uf (fun p=>NV pt x p N) (mV x n/4+1) (mV x n/4+1))))) (by kernel_rfl) (by kernel_rfl) hA)
end Go.Proofs.YtglgakbkdjhojaaGreat.Ex
