/- Pt06 -/
import Derived.Shelf.Spec.TrailingZeros
import Derived.Laws.ComplexArith
import Derived.StillTail
import Derived.RegionTactic
import Derived.KernelRfl
import Derived.Test.YtjjnbgoepbiojaaPt05
import Derived.Test.YtjjnbgoepbiojaaPt04
import Derived.Test.YtjjnbgoepbiojaaPt03
import Derived.Test.YtjjnbgoepbiojaaProg
set_option maxRecDepth 100000
set_option linter.unusedVariables false
set_option linter.unusedSimpArgs false
set_option linter.unnecessarySimpa false
noncomputable section
namespace Go.Proofs.Ytjjnbgoepbiojaa.Ex
open Go.Proofs.Try
open Go.RowKit
def dD (op:BinOp) (t:Nat) (x y:Operand) (v u r:Value):Prop:=∀w:World,(do eqGuard op t x y v u; binOp op t v u:Sem Value).run prog w=.ok r w
def u3 (n:Nat):Value:=.int .u32 (Int.ofNat n)
theorem CQ (a b:Nat) (ha:a<4294967296) (hb:b<4294967296):bits .or .u32 (a:Int) (b:Int)=((a ||| b:Nat):Int):=by
 have hx:a ||| b<2^32:=Nat.or_lt_two_pow (by omega) (by omega)
 have h1:(BitVec.ofInt 32 (a:Int)).toNat=a:=by
  rw[BitVec.ofInt_natCast,BitVec.toNat_ofNat]; exact Nat.mod_eq_of_lt (by omega)
 have h2:(BitVec.ofInt 32 (b:Int)).toNat=b:=by
  rw[BitVec.ofInt_natCast,BitVec.toNat_ofNat]; exact Nat.mod_eq_of_lt (by omega)
 show IntKind.u32.wrap ((BitVec.ofInt 32 (a:Int) ||| BitVec.ofInt 32 (b:Int)).toNat:Int)=_;rw[BitVec.toNat_or,h1,h2];have e:IntKind.u32.wrap ((a ||| b:Nat):Int)=((a ||| b:Nat):Int):=by
  unfold IntKind.wrap;simp[IntKind.signed,IntKind.bits];omega
 exact e
theorem lQ (t:Nat) (x y:Operand) {a b:Nat} (ha:a<4294967296) (hb:b<4294967296):dD .and t x y (u3 a) (u3 b) (u3 (a &&& b)):=fun w=>by
 have h:=bits_and_u32_nat a b ha hb;simp[eqGuard,binOp,go_sem,u3];exact h
theorem zS (t:Nat) (x y:Operand) {a b:Nat} (ha:a<4294967296) (hb:b<4294967296):dD .or t x y (u3 a) (u3 b) (u3 (a ||| b)):=fun w=>by
 have h:=CQ a b ha hb;simp[eqGuard,binOp,go_sem,u3];exact h
theorem sH (t:Nat) (x y:Operand) (a:Nat) {k:Nat} (hk:k≤32):dD .shr t x y (u3 a) (.int .u64 (Int.ofNat k)) (u3 (a/2^k)):=fun w=>by
 simp[eqGuard,binOp,go_sem,u3,Nat.min_eq_left hk]
theorem sJ (t:Nat) (x y:Operand) (a:Nat) {k:Nat} (hk:k≤32):dD .shl t x y (u3 a) (.int .u64 (Int.ofNat k)) (u3 (a*2^k%4294967296)):=fun w=>by
 simp[eqGuard,binOp,go_sem,u3,IntKind.wrap,IntKind.signed,IntKind.bits,Nat.min_eq_left hk]
def eE (k m x:Nat):Nat:=(x/2^k &&& m) ||| ((x &&& m)*2^k%4294967296)
def qU (x:Nat):Nat:=(eE 8 16711935 x/2^16) ||| (eE 8 16711935 x*2^16%4294967296)
def nL (x:Nat):Nat:=qU (eE 4 252645135 (eE 2 858993459 (eE 1 1431655765 x)))
theorem lT {k m x:Nat} (hx:x<4294967296):eE k m x<4294967296:=by
 unfold eE;have h1:x/2^k &&& m<2^32:=Nat.lt_of_le_of_lt Nat.and_le_left (Nat.lt_of_le_of_lt (Nat.div_le_self _ _) (by omega));exact Nat.or_lt_two_pow (n:=32) h1 (by omega)
theorem XA {x:Nat} (hx:x<4294967296):qU x<4294967296:=by
 unfold qU;exact Nat.or_lt_two_pow (n:=32) (Nat.lt_of_le_of_lt (Nat.div_le_self _ _) (lT hx)) (by omega)
theorem WY {x:Nat} (hx:x<4294967296):nL x<4294967296:=XA (lT (lT (lT hx)))
def xG (gen:Nat→Option Value):Ext:={ Ext.none with gen:=gen,T2:=rG,T3:=KG,T4:=KB,T5:=KE,T6:=KF }
theorem eP (gen:Nat→Option Value) (base:Nat) (w:World):bH prog { qG prog with x:=xG gen } base w :=
 ⟨(aY _).1,fL (fun b o l h=>h.elim) (fun w' _=>FrAt.none _ _) (fun w' _=>FsAt.none _ _)⟩
theorem OL (x:Nat):eU prog { qG prog with x:=xG (aE [(4,u3 (x/2^8)),(5,u3 (x/2^8 &&& 16711935)),(7,u3 (x &&& 16711935)),(8,u3 ((x &&& 16711935)*2^8%4294967296)),(9,u3 (eE 8 16711935 x)),(11,u3 ((eE 8 16711935 x)/2^16)),(13,u3 ((eE 8 16711935 x)*2^16%4294967296)),(14,u3 (qU x))]) } (cG fun _=>none) f88 60 [.v (.im (u3 x))]=some ([dD .shr 97 (.tmp 3) (.const (.int .u64 8)) (u3 x) (.int .u64 (Int.ofNat 8)) (u3 (x/2^8)),dD .and 97 (.tmp 4) (.const (.int .u32 16711935)) (u3 (x/2^8)) (u3 16711935) (u3 (x/2^8 &&& 16711935)),dD .and 97 (.tmp 6) (.const (.int .u32 16711935)) (u3 x) (u3 16711935) (u3 (x &&& 16711935)),dD .shl 97 (.tmp 7) (.const (.int .u64 8)) (u3 (x &&& 16711935)) (.int .u64 (Int.ofNat 8)) (u3 ((x &&& 16711935)*2^8%4294967296)),dD .or 97 (.tmp 5) (.tmp 8) (u3 (x/2^8 &&& 16711935)) (u3 ((x &&& 16711935)*2^8%4294967296)) (u3 (eE 8 16711935 x)),dD .shr 97 (.tmp 10) (.const (.int .u64 16)) (u3 (eE 8 16711935 x)) (.int .u64 (Int.ofNat 16)) (u3 ((eE 8 16711935 x)/2^16)),dD .shl 97 (.tmp 12) (.const (.int .u64 16)) (u3 (eE 8 16711935 x)) (.int .u64 (Int.ofNat 16)) (u3 ((eE 8 16711935 x)*2^16%4294967296)),dD .or 97 (.tmp 11) (.tmp 13) (u3 ((eE 8 16711935 x)/2^16)) (u3 ((eE 8 16711935 x)*2^16%4294967296)) (u3 (qU x))],.one (.im (u3 (qU x)))):=by kernel_rfl
theorem rW {a m:Nat} (ha:a<4294967296):a &&& m<4294967296:=Nat.lt_of_le_of_lt Nat.and_le_left ha
theorem iB {a k:Nat} (ha:a<4294967296):a/2^k<4294967296:=Nat.lt_of_le_of_lt (Nat.div_le_self _ _) ha
theorem oM (a:Nat):a%4294967296<4294967296:=Nat.mod_lt _ (by omega)
theorem EK {x:Nat} (hx:x<4294967296) (args:List Value) (w:World) (ha:cF w [.v (.im (u3 x))] args):Good prog 88 (.one (.im (u3 (qU x)))) args w :=
 bQ aG (fun _ _=>bG.w _ _) (eP _ _ _) func88 (OL x) ⟨sH _ _ _ _ (by omega),lQ _ _ _ (iB hx) (by omega),lQ _ _ _ hx (by omega),sJ _ _ _ _ (by omega),zS _ _ _ (rW (iB hx)) (oM _),sH _ _ _ _ (by omega),sJ _ _ _ _ (by omega),zS _ _ _ (iB (lT hx)) (oM _),trivial⟩ ha
def Jv:iR
 | [.v (.im (.int .u32 (.ofNat x)))]=>some ([x<4294967296],.one (.im (u3 (qU x))))
 | _=>none
theorem ZR:∀cs pre r,Jv cs=some (pre,r)→aQ pre→∀(args:List Value) (w:World),cF w cs args→Good prog 88 r args w:=by
 intro cs pre r hg hp args w ha;unfold Jv at hg;split at hg
 ·cases hg;exact EK hp.1 args w ha
 ·cases hg
def Xb:Tab:=dW.add 88 Jv
theorem Rb:TabOk prog Xb:=bG.add func88 (by kernel_rfl) (by kernel_rfl) ZR
theorem OK (x:Nat):eU prog { qG prog with x:=xG (aE [(4,u3 (x/2^1)),(5,u3 (x/2^1 &&& 1431655765)),(7,u3 (x &&& 1431655765)),(8,u3 ((x &&& 1431655765)*2^1%4294967296)),(9,u3 (eE 1 1431655765 x)),(11,u3 ((eE 1 1431655765 x)/2^2)),(12,u3 ((eE 1 1431655765 x)/2^2 &&& 858993459)),(14,u3 ((eE 1 1431655765 x) &&& 858993459)),(15,u3 (((eE 1 1431655765 x) &&& 858993459)*2^2%4294967296)),(16,u3 (eE 2 858993459 (eE 1 1431655765 x))),(18,u3 ((eE 2 858993459 (eE 1 1431655765 x))/2^4)),(19,u3 ((eE 2 858993459 (eE 1 1431655765 x))/2^4 &&& 252645135)),(21,u3 ((eE 2 858993459 (eE 1 1431655765 x)) &&& 252645135)),(22,u3 (((eE 2 858993459 (eE 1 1431655765 x)) &&& 252645135)*2^4%4294967296)),(23,u3 (eE 4 252645135 (eE 2 858993459 (eE 1 1431655765 x))))]) } (fun _=>⟨fun _=>Xb,fun _=>true,fun _=>none⟩) f69 60 [.v (.im (u3 x))]=some ([dD .shr 97 (.tmp 3) (.const (.int .u64 1)) (u3 x) (.int .u64 (Int.ofNat 1)) (u3 (x/2^1)),dD .and 97 (.tmp 4) (.const (.int .u32 1431655765)) (u3 (x/2^1)) (u3 1431655765) (u3 (x/2^1 &&& 1431655765)),dD .and 97 (.tmp 6) (.const (.int .u32 1431655765)) (u3 x) (u3 1431655765) (u3 (x &&& 1431655765)),dD .shl 97 (.tmp 7) (.const (.int .u64 1)) (u3 (x &&& 1431655765)) (.int .u64 (Int.ofNat 1)) (u3 ((x &&& 1431655765)*2^1%4294967296)),dD .or 97 (.tmp 5) (.tmp 8) (u3 (x/2^1 &&& 1431655765)) (u3 ((x &&& 1431655765)*2^1%4294967296)) (u3 (eE 1 1431655765 x)),dD .shr 97 (.tmp 10) (.const (.int .u64 2)) (u3 (eE 1 1431655765 x)) (.int .u64 (Int.ofNat 2)) (u3 ((eE 1 1431655765 x)/2^2)),dD .and 97 (.tmp 11) (.const (.int .u32 858993459)) (u3 ((eE 1 1431655765 x)/2^2)) (u3 858993459) (u3 ((eE 1 1431655765 x)/2^2 &&& 858993459)),dD .and 97 (.tmp 13) (.const (.int .u32 858993459)) (u3 (eE 1 1431655765 x)) (u3 858993459) (u3 ((eE 1 1431655765 x) &&& 858993459)),dD .shl 97 (.tmp 14) (.const (.int .u64 2)) (u3 ((eE 1 1431655765 x) &&& 858993459)) (.int .u64 (Int.ofNat 2)) (u3 (((eE 1 1431655765 x) &&& 858993459)*2^2%4294967296)),dD .or 97 (.tmp 12) (.tmp 15) (u3 ((eE 1 1431655765 x)/2^2 &&& 858993459)) (u3 (((eE 1 1431655765 x) &&& 858993459)*2^2%4294967296)) (u3 (eE 2 858993459 (eE 1 1431655765 x))),dD .shr 97 (.tmp 17) (.const (.int .u64 4)) (u3 (eE 2 858993459 (eE 1 1431655765 x))) (.int .u64 (Int.ofNat 4)) (u3 ((eE 2 858993459 (eE 1 1431655765 x))/2^4)),dD .and 97 (.tmp 18) (.const (.int .u32 252645135)) (u3 ((eE 2 858993459 (eE 1 1431655765 x))/2^4)) (u3 252645135) (u3 ((eE 2 858993459 (eE 1 1431655765 x))/2^4 &&& 252645135)),dD .and 97 (.tmp 20) (.const (.int .u32 252645135)) (u3 (eE 2 858993459 (eE 1 1431655765 x))) (u3 252645135) (u3 ((eE 2 858993459 (eE 1 1431655765 x)) &&& 252645135)),dD .shl 97 (.tmp 21) (.const (.int .u64 4)) (u3 ((eE 2 858993459 (eE 1 1431655765 x)) &&& 252645135)) (.int .u64 (Int.ofNat 4)) (u3 (((eE 2 858993459 (eE 1 1431655765 x)) &&& 252645135)*2^4%4294967296)),dD .or 97 (.tmp 19) (.tmp 22) (u3 ((eE 2 858993459 (eE 1 1431655765 x))/2^4 &&& 252645135)) (u3 (((eE 2 858993459 (eE 1 1431655765 x)) &&& 252645135)*2^4%4294967296)) (u3 (eE 4 252645135 (eE 2 858993459 (eE 1 1431655765 x)))),(eE 4 252645135 (eE 2 858993459 (eE 1 1431655765 x)))<4294967296],.one (.im (u3 (nL x)))):=by kernel_rfl
theorem EJ {x:Nat} (hx:x<4294967296) (args:List Value) (w:World) (ha:cF w [.v (.im (u3 x))] args):Good prog 69 (.one (.im (u3 (nL x)))) args w:=by
 have h1:=lT (k:=1) (m:=1431655765) hx;have h2:=lT (k:=2) (m:=858993459) h1;exact bQ aG (fun _ _=>Rb.w _ _) (eP _ _ _) func69 (OK x) ⟨sH _ _ _ _ (by omega),lQ _ _ _ (iB hx) (by omega),lQ _ _ _ hx (by omega),sJ _ _ _ _ (by omega),zS _ _ _ (rW (iB hx)) (oM _),
  sH _ _ _ _ (by omega),lQ _ _ _ (iB h1) (by omega),lQ _ _ _ h1 (by omega),sJ _ _ _ _ (by omega),zS _ _ _ (rW (iB h1)) (oM _),
  sH _ _ _ _ (by omega),lQ _ _ _ (iB h2) (by omega),lQ _ _ _ h2 (by omega),sJ _ _ _ _ (by omega),zS _ _ _ (rW (iB h2)) (oM _),lT h2,trivial⟩ ha
def Ju:iR
 | [.v (.im (.int .u32 (.ofNat x)))]=>some ([x<4294967296],.one (.im (u3 (nL x))))
 | _=>none
theorem ZQ:∀cs pre r,Ju cs=some (pre,r)→aQ pre→∀(args:List Value) (w:World),cF w cs args→Good prog 69 r args w:=by
 intro cs pre r hg hp args w ha;unfold Ju at hg;split at hg
 ·cases hg;exact EJ hp.1 args w ha
 ·cases hg
def Xa:Tab:=dW.add 69 Ju
theorem Qz:TabOk prog Xa:=bG.add func69 (by kernel_rfl) (by kernel_rfl) ZQ
def DW (log i:Nat):Nat:=nL i/2^(32-log)
def Kq (v:Value) (N:Nat) (f:Nat→Nat):iR
 | [.v (.im u),.v (.im (.int .i64 (.ofNat i)))]=>some ([u=v],.one (.fl [.q (nZ f N i)]))
 | _=>none
theorem Ae {w:World} {v:Value} {N:Nat} {f:Nat→Nat} (hv:LV w v N f):∀cs pre r,Kq v N f cs=some (pre,r)→aQ pre→∀(args:List Value),cF w cs args→Good prog 53 r args w:=by
 intro cs pre r hg hp args ha;unfold Kq at hg;split at hg
 ·cases hg
  match args,ha with
  | [u,t],ha =>
   have h1:u=_:=ha.1;have h2:t=_:=ha.2.1;have h3:=hp.1;subst h1; subst h2; subst h3;exact CS hv
  | [],ha=>exact ha.elim
  | [_],ha=>exact ha.2.elim
  | _::_::_::_,ha=>exact ha.2.2.elim
 ·cases hg
theorem VV (w:World) (v:Value) (N i log b3 b4:Nat) (f:Nat→Nat):eU prog { qG prog with x:=xO w (fun _=>none) (fun _=>none) (aE [(5,v),(7,u3 i),(9,iI log),(11,u3 (DW log i)),(12,iI (DW log i))]) } (fun _=>⟨fun _=>Xa.add 53 (Kq v N f),fun _=>true,aE [(10,iI (32-log))]⟩) f68 60 [.v (.im (iI i)),.v (.im (bZ b3 0)),.v (.im (bZ b4 0))]=some ([oldOf w b3 0 [.c v],∀w:World,(convert 3 97 (iI i)).run prog w=.ok (u3 i) w,i<4294967296,oldOf w b4 0 [.c (iI log)],aD .sub .i64 32 (Int.ofNat log)=some (iI (32-log)),dD .shr 97 (.tmp 8) (.tmp 10) (u3 (nL i)) (iI (32-log)) (u3 (DW log i)),∀w:World,(convert 97 3 (u3 (DW log i))).run prog w=.ok (iI (DW log i)) w,v=v],.one (.fl [.q (nZ f N (DW log i))])):=by kernel_rfl
theorem La {i:Nat} (h:i<4294967296) (w:World):(convert 3 97 (iI i)).run prog w=.ok (u3 i) w:=by
 have e:(i:Int)%4294967296=i:=by omega
 simp[convert,go_sem,u3,iI,IntKind.wrap,IntKind.signed,IntKind.bits,e]
theorem Lb {i:Nat} (h:i<4294967296) (w:World):(convert 97 3 (u3 i)).run prog w=.ok (iI i) w:=by
 have e:IntKind.i64.wrap (i:Int)=i:=mP (by omega);simp[convert,go_sem,u3,iI,e]
theorem VA (t:Nat) (x y:Operand) (a:Nat) {k:Nat} (hk:k≤32):dD .shr t x y (u3 a) (iI k) (u3 (a/2^k)):=fun w=>by
 simp[eqGuard,binOp,go_sem,u3,iI,Nat.min_eq_left hk]
theorem KM {w:World} {v:Value} {N i log b3 b4:Nat} {f:Nat→Nat} (hv:LV w v N f) (hi:i<4294967296) (hl:log≤32) (o3:oldOf w b3 0 [.c v]) (o4:oldOf w b4 0 [.c (iI log)]):Good prog 68 (.one (.fl [.q (nZ f N (DW log i))])) [iI i,bZ b3 0,bZ b4 0] w :=
 bQ aG (fun _ _=>TabOkW.add (Qz.w _ _) func53 (by kernel_rfl) (by kernel_rfl) fun w' hw=>Ae (hv.on hw)) (cW w _ _ _) func68 (VV w v N i log b3 b4 f) ⟨o3,La hi,hi,o4,QE (i:=32) hl (by omega),VA _ _ _ _ (by omega),Lb (Nat.lt_of_le_of_lt (Nat.div_le_self _ _) (WY hi)),rfl,trivial⟩ (args:=[iI i,bZ b3 0,bZ b4 0]) ⟨rfl,rfl,rfl,trivial⟩
def zB (F:Nat→Nat) (half step:Nat) (tw:Nat→Nat):Nat→Nat→Nat
 | 0=>F
 | k+1=>lF (zB F half step tw k) (2*half*k) (2*half*k+half) step tw half
def zD (F:Nat→Nat) (n:Nat) (tw:Nat→Nat):Nat→Nat→Nat
 | 0=>F
 | s+1=>zB (zD F n tw s) (2^s) (n/2/2^s) tw (n/2/2^s)
theorem DV {N half step:Nat} {F tw:Nat→Nat} (h:bT N F):∀k,bT N (zB F half step tw k)
 | 0=>h
 | k+1=>GC (DV h k) _
theorem yL {N n:Nat} {F tw:Nat→Nat} (h:bT N F):∀s,bT N (zD F n tw s)
 | 0=>h
 | s+1=>DV (yL h s) _
def fC:Code:=(f34.body).getD .skip
def kQ:Code:=gH (gH (cB (cA (cB (cB (cB (cB fC)))))))
def Fj:Code:=gH (gH (cB (gH (cA (cB kQ)))))
theorem UU:fC=.seq (cA fC) (.seq (cA (cB fC)) (.seq (cA (cB (cB fC))) (.seq (cA (cB (cB (cB fC)))) (.seq (.seq (cA (cA (cB (cB (cB (cB fC)))))) (.block 0 (.loop kQ))) (cB (cB (cB (cB (cB fC))))))))):=by kernel_rfl
theorem NQ:kQ=.seq (cA kQ) (.seq (.block 1 (.seq (cA (gH (cA (cB kQ)))) (.block 2 (.loop Fj)))) (cB (cB kQ))):=by kernel_rfl
def HL (v:Value) (log x:Nat):List Fact:=[.slot 3 (.pt 3 0),.row 3 true [.c v],.slot 4 (.pt 4 0),.row 4 true [.c (iI log)],.slot 5 (.pt 5 0),.row 5 true [.q x]]
theorem Pa (p:Option Addr) (N m log x:Nat):aH prog (qG prog) f34.ntmps (cG fun _=>none) 40 (cA fC) (eF 0 [.v (.im (.slice p N m)),.v (.im (iI log)),.v (.fl [.q x])]) (HL (.slice p N m) log x)=some ([],.nrm,HL (.slice p N m) log x):=by kernel_rfl
theorem Oz (v:Value) (log x n:Nat):aH prog { qG prog with x:=xG (aE [(13,iI n)]) } f34.ntmps (cG fun _=>none) 40 (cA (cB fC)) (HL v log x) (.slot 7 (.im (iI n))::HL v log x)=some ([dD .shl 3 (.const (iI 1)) (.tmp 12) (iI 1) (iI log) (iI n)],.nrm,.slot 7 (.im (iI n))::HL v log x):=by kernel_rfl
def Mg (b3 b4 n:Nat) (g:Nat→Nat):Tab2:=(rG.add 67 (RR 68 [bZ b3 0,bZ b4 0] n g)).add 70 ZT
def Yh (w:World) (ld:Nat→Option (List At)) (T2:Tab2):Ext:={ Ext.none with ld:=ld,old:=oldOf w,T2:=T2,T3:=KG,T4:=KB,T5:=KE,T6:=KF }
theorem NC {w:World} {ld:Nat→Option (List At)} {T2:Tab2} (h:∀w',Below w.heap.size w w'→FrAt prog T2 w'):bH prog { qG prog with x:=Yh w ld T2 } w.heap.size w :=
 ⟨(aY _).1,fL (fun b o l h=>h) h (fun w' _=>FsAt.none _ _)⟩
def Yz (b5 n:Nat) (Z:List At):List Fact:=[.slot 5 (.im (bZ b5 0)),.slot 7 (.im (iI n)),.slot 8 (.sl 16 0 n n),.row 16 true Z]
theorem Oy (w:World) (b3 b4 b5 n:Nat) (g:Nat→Nat):aH prog { qG prog with x:=Yh w (fun _=>none) (Mg b3 b4 n g) } f34.ntmps (cG fun _=>none) 40 (cA (cB (cB fC))) (oD [(3,.im (bZ b3 0)),(4,.im (bZ b4 0)),(5,.im (bZ b5 0)),(7,.im (iI n))]) (Yz b5 n (aR (el g) 0 n))=some ([iI n=iI n,qK 68 [bZ b3 0,bZ b4 0]=qK 68 [bZ b3 0,bZ b4 0]],.nrm,Yz b5 n (aR (el g) 0 n)):=by kernel_rfl
def Fk (n h:Nat) (Z tw:List At):List Fact:=[.slot 7 (.im (iI n)),.slot 8 (.sl 16 0 n n),.row 16 true Z,.slot 9 (.sl 21 0 h h),.row 21 true tw]
theorem Ox (w:World) (b3 b4 b5 n h x:Nat) (g:Nat→Nat) (Z:List At):aH prog { qG prog with x:=Yh w (aE [(18,[.q x])]) (Mg b3 b4 n g) } f34.ntmps (cG (aE [(20,iI h)])) 40 (cA (cB (cB (cB fC)))) (Yz b5 n Z) (Fk n h Z (aR (el (fE 1 x)) 0 h))=some ([oldOf w b5 0 [.q x],cR [.q x]=4,aD .quo .i64 (Int.ofNat n) 2=some (iI h),1<RM,x<RM,h≤131072],.nrm,Fk n h Z (aR (el (fE 1 x)) 0 h)):=by kernel_rfl
def gCr (F tw:Nat→Nat) (N T lo h st:Nat) (_:Nat) (row:List At):List CB→Option (List Prop×RV×List At)
 | [.sl o1 n1 _,.sl o2 n2 _,.r lt n m,.v (.im (.int .i64 (.ofNat s)))]=>some ([aB row=aB (aR (el F) 0 N),lt=aR (el tw) 0 T,o1=lo*4,n1=h,o2=(lo+h)*4,n2=h,n=T,m=T,s=st],.many [],aR (el (lF F lo (lo+h) st tw h)) 0 N)
 | _=>none
theorem Kl {F tw:Nat→Nat} {N T lo h st:Nat} (hN:lo+h+h≤N) (hN2:N≤131072) (hf:bT N F) (htw:bT T tw) (hst:∀j,j<h→j*st<T) (hT:T≤131072):∀b row cs pre r l,gCr F tw N T lo h st b row cs=some (pre,r,l)→aQ pre→∀(args:List Value) (w:World),b<w.heap.size→w.rangeAt b 0 (aB row)→(∀q,w.frozen? ⟨b,q,none⟩=false)→CBs w b cs args→Calls prog 71 args.toArray w (uP b w r l):=by
 intro b row cs pre r l hg hp args w h1 h2 h3 h4;unfold gCr at hg;split at hg
 ·cases hg;obtain⟨e1,rfl,rfl,rfl,rfl,rfl,rfl,rfl,rfl,_⟩:=hp
  match args,h4 with
  | [v1,v2,v3,v4],h4 =>
   obtain⟨q1,q2,⟨b',o,rfl,q3,q4,q5⟩,q6,_⟩:=h4;have q1:v1=aZ b _ _ _:=q1;have q2:v2=aZ b _ _ _:=q2;have q6:v4=iI _:=q6;subst q1; subst q2; subst q6;rw[e1]at h2;exact SQ ⟨h1,h2,h3⟩ q3 q5 q4 hN hN2 hf htw hst hT
  | [],h4=>exact h4.elim
  | [_],h4=>exact h4.2.elim
  | [_,_],h4=>exact h4.2.2.elim
  | [_,_,_],h4=>exact h4.2.2.2.elim
  | _::_::_::_::_::_,h4=>exact h4.2.2.2.2.elim
 ·cases hg
def oZ (n h bl bt:Nat) (Z tw:List At) (half:Nat):List Fact:=[.slot 7 (.im (iI n)),.slot 8 (.sl 16 0 n n),.row 16 true Z,.at 16 bl,.slot 9 (.sl 21 0 h h),.row 21 true tw,.at 21 bt,.slot 10 (.im (iI half))]
theorem Ow (n h bl bt:Nat) (Z tw:List At):aH prog (qG prog) f34.ntmps (cG fun _=>none) 40 (cA (cA (cB (cB (cB (cB fC)))))) (.at 21 bt :: .at 16 bl::Fk n h Z tw) (oZ n h bl bt Z tw 1)=some ([],.nrm,oZ n h bl bt Z tw 1):=by kernel_rfl
theorem Yw (n h bl bt:Nat) (Z tw:List At) (half:Nat):aH prog (qG prog) f34.ntmps (cG (aE [(24,.bool true)])) 40 (cA kQ) (oZ n h bl bt Z tw half) (oZ n h bl bt Z tw half)=some ([aD .lss .i64 (Int.ofNat half) (Int.ofNat n)=some (.bool true)],.nrm,oZ n h bl bt Z tw half):=by kernel_rfl
theorem Yu (n h bl bt:Nat) (Z tw:List At) (half:Nat):aH prog (qG prog) f34.ntmps (cG (aE [(24,.bool false)])) 40 (cA kQ) (oZ n h bl bt Z tw half) (oZ n h bl bt Z tw half)=some ([aD .lss .i64 (Int.ofNat half) (Int.ofNat n)=some (.bool false)],.ex 0,oZ n h bl bt Z tw half):=by kernel_rfl
theorem Yx (n h bl bt:Nat) (Z tw:List At) (half:Nat):aH prog (qG prog) f34.ntmps (cG fun _=>none) 40 (cA (gH (cA (cB kQ)))) (oZ n h bl bt Z tw half) (.slot 11 (.im (iI 0))::oZ n h bl bt Z tw half)=some ([],.nrm,.slot 11 (.im (iI 0))::oZ n h bl bt Z tw half):=by kernel_rfl
theorem Yy (n h bl bt:Nat) (Z tw:List At) (half tV:Nat):aH prog (qG prog) f34.ntmps (cG (aE [(26,iI (half*2))])) 40 (cB (cB kQ)) (.slot 11 (.im (iI tV))::oZ n h bl bt Z tw half) (oZ n h bl bt Z tw (half*2))=some ([aD .mul .i64 (Int.ofNat half) 2=some (iI (half*2))],.nrm,oZ n h bl bt Z tw (half*2)):=by kernel_rfl
theorem Yt (n h bl bt:Nat) (Z tw:List At) (half:Nat):aH prog (qG prog) f34.ntmps (cG fun _=>none) 40 (cB (cB (cB (cB (cB fC))))) (oZ n h bl bt Z tw half) [.slot 6 (.sl 16 0 n n),.row 16 true Z]=some ([],.rt,[.slot 6 (.sl 16 0 n n),.row 16 true Z]):=by kernel_rfl
theorem Yv (n h bl bt:Nat) (Z tw:List At) (half tV:Nat):aH prog (qG prog) f34.ntmps (cG (aE [(29,.bool false)])) 40 Fj (.slot 11 (.im (iI tV))::oZ n h bl bt Z tw half) (.slot 11 (.im (iI tV))::oZ n h bl bt Z tw half)=some ([aD .lss .i64 (Int.ofNat tV) (Int.ofNat n)=some (.bool false)],.ex 2,.slot 11 (.im (iI tV))::oZ n h bl bt Z tw half):=by kernel_rfl
def xCr (T6:Tab6):Ext:={ Ext.none with ky:=aE [(54,16)],T2:=rG,T3:=KG,T4:=KB,T5:=KE,T6:=T6 }
theorem Eu {T6:Tab6} (h:PbOk prog T6) (base:Nat) (w:World):bH prog { qG prog with x:=xCr T6 } base w :=
 ⟨(aY _).1,fL (fun b o l h=>h.elim) (fun w' _=>FrAt.none _ _) (fun w' _=>FsAt.none _ _) (h6:=h)⟩
def aAM (F tw:Nat→Nat) (N T lo h st:Nat):Tab6:=KF.add 71 (gCr F tw N T lo h st)
theorem Pb (n h bl bt half fr st:Nat) (F tw:Nat→Nat):aH prog { qG prog with x:=xCr (aAM F tw n h fr half st) } f34.ntmps (cG (aE [(29,.bool true),(38,iI (fr+half)),(43,iI (fr+half)),(46,iI (2*half)),(47,iI (fr+2*half)),(51,iI h),(53,iI st),(32,iI (2*half)),(33,iI (fr+2*half))])) 60 Fj (.slot 11 (.im (iI fr))::oZ n h bl bt (aR (el F) 0 n) (aR (el tw) 0 h) half) (.slot 11 (.im (iI (fr+2*half)))::oZ n h bl bt (aR (el (lF F fr (fr+half) st tw half)) 0 n) (aR (el tw) 0 h) half) =
  some ([aD .lss .i64 (Int.ofNat fr) (Int.ofNat n)=some (.bool true),aD .add .i64 (Int.ofNat fr) (Int.ofNat half)=some (iI (fr+half)),fr≤fr+half,fr+half≤n,fr<n,aD .add .i64 (Int.ofNat fr) (Int.ofNat half)=some (iI (fr+half)),aD .mul .i64 2 (Int.ofNat half)=some (iI (2*half)),aD .add .i64 (Int.ofNat fr) (Int.ofNat (2*half))=some (iI (fr+2*half)),fr+half≤fr+2*half,fr+2*half≤n,fr+half<n,aD .quo .i64 (Int.ofNat n) 2=some (iI h),aD .quo .i64 (Int.ofNat h) (Int.ofNat half)=some (iI st),bt≠bl,aB (aR (el F) 0 n)=aB (aR (el F) 0 n),aR (el tw) 0 h=aR (el tw) 0 h,0+fr*4=fr*4,fr+half-fr=half,0+(fr+half)*4=(fr+half)*4,fr+2*half-(fr+half)=half,h=h,h=h,st=st,aD .mul .i64 2 (Int.ofNat half)=some (iI (2*half)),aD .add .i64 (Int.ofNat fr) (Int.ofNat (2*half))=some (iI (fr+2*half))],.nrm,.slot 11 (.im (iI (fr+2*half)))::oZ n h bl bt (aR (el (lF F fr (fr+half) st tw half)) 0 n) (aR (el tw) 0 h) half):=by kernel_rfl
theorem QF {i h:Nat} (hi:i<9223372036854775808) (he:i/2=h):aD .quo .i64 (Int.ofNat i) 2=some (iI h):=by
 have:=@Df i 2 (by omega) hi;rw[he]at this;exact this
theorem QG {i:Nat} (h:2*i<9223372036854775808):aD .mul .i64 2 (Int.ofNat i)=some (iI (2*i)):=IK (i:=2) h
theorem gO {log:Nat} {x y:Operand} (h:log≤28):dD .shl 3 x y (iI 1) (iI log) (iI (2^log)):=fun w=>by
 have hp:2^log≤2^28:=Nat.pow_le_pow_right (by omega) h;have e:IntKind.i64.wrap ((2^log:Nat):Int)=((2^log:Nat):Int):=mP (by omega);have e2:((2:Int)^log)=((2^log:Nat):Int):=by simp
 have e3:min log 64=log:=Nat.min_eq_left (by omega);simp[eqGuard,binOp,go_sem,iI,e3];rw[e2];exact e
def qS (N:Nat) (f:Nat→Nat) (log:Nat) (i:Nat):Nat:=nZ f N (DW log i)
theorem NP {w0:World} {n h bl bt s t:Nat} {F tw:Nat→Nat} {Q:Exit→Act→World→Prop} (hn:n=2^s*2*2^t) (hh:h=2^s*2^t) (hn2:n≤65536) (hne:bt≠bl) (hF:bT n F) (htw:bT h tw) {a:Act} {w:World}
  (hA:Holds f34.ntmps w0.heap.size w0 (oZ n h bl bt (aR (el F) 0 n) (aR (el tw) 0 h) (2^s)) a w) {R:Act→World→Prop}
  (hR:∀a w,Holds f34.ntmps w0.heap.size w0 (oZ n h bl bt (aR (el (zB F (2^s) (2^t) tw (2^t))) 0 n) (aR (el tw) 0 h) (2^s*2)) a w→R a w):kQ.wp prog (Exit.then R Q) a w:=by
 have hG:bH prog (qG prog) w0.heap.size w0:=(aY _).w _ _;have hT:∀n d:Nat,TabOkW prog dW w0.heap.size w0:=fun _ _=>bG.w _ _
 have hp1:0<2^s:=Nat.two_pow_pos s;have hp2:0<2^t:=Nat.two_pow_pos t;generalize 2^s=half at *;generalize 2^t=st at *;have hhn:half*st≤65536:=by
  have:half*2*st=2*(half*st):=by rw[Nat.mul_assoc,Nat.mul_left_comm]
  omega
 have hn3:n=2*h:=by rw[hn,hh,Nat.mul_comm half 2,Nat.mul_assoc]
 have hle:half≤half*st:=Nat.le_mul_of_pos_right _ hp2;have hle2:st≤half*st:=Nat.le_mul_of_pos_left _ hp1;rw[NQ];refine wp_seq (aA aG hT hG (Yw n h bl bt _ _ half) ⟨bV (by omega),trivial⟩ hA fun a w hA => ?_);refine wp_seq (wp_block (wp_seq (aA aG hT hG (Yx n h bl bt _ _ half) trivial hA fun a w hA => ?_)));refine wp_block ?_;refine cE aG (fun k=>.slot 11 (.im (iI (2*half*k)))::oZ n h bl bt (aR (el (zB F half st tw k)) 0 n) (aR (el tw) 0 h) half) st (fun k hk => ?_) (.ex 2) (by simp) (.slot 11 (.im (iI (2*half*st)))::oZ n h bl bt (aR (el (zB F half st tw st)) 0 n) (aR (el tw) 0 h) half) ⟨_,_,_,_,hG,hT,Yv n h bl bt _ _ half _,dI (by rw[hn,Nat.mul_comm half 2]; exact Nat.le_refl _),trivial⟩ hA fun a w hA => ?_
 ·have hk1:2*half*k+2*half≤n:=by
   have h1:2*half*k+2*half=2*half*(k+1):=by rw[Nat.mul_add,Nat.mul_one]
   rw[h1,hn,Nat.mul_comm half 2];exact Nat.mul_le_mul_left _ hk
  have hk2:2*half*(k+1)=2*half*k+2*half:=by rw[Nat.mul_add,Nat.mul_one]
  show Ok _ _ _ _ _ _ _ (.slot 11 (.im (iI (2*half*(k+1))))::oZ n h bl bt (aR (el (lF (zB F half st tw k) (2*half*k) (2*half*k+half) st tw half)) 0 n) _ half);rw[hk2];have hlt:=DV (half:=half) (step:=st) (tw:=tw) hF k;generalize 2*half*k=fr at hk1 ⊢;have hC:=Kl (F:=zB F half st tw k) (tw:=tw) (N:=n) (T:=h) (lo:=fr) (h:=half) (st:=st) (by omega) (by omega) hlt htw (fun j hj=>by rw[hh]; exact (Nat.mul_lt_mul_right hp2).2 hj) (by omega);have hq:h/half=st:=by rw[hh]; exact Nat.mul_div_cancel_left _ hp1
  have oq:aD .quo .i64 (Int.ofNat h) (Int.ofNat half)=some (iI st):=by
   have:=@Df h half hp1 (by omega);rw[hq]at this;exact this
  exact⟨_,_,_,_,Eu ((TT _).add func71 (by kernel_rfl) (by kernel_rfl) hC) _ _,hT,Pb n h bl bt half fr st (zB F half st tw k) tw,
   bV (by omega),eT (by omega),by omega,by omega,by omega,eT (by omega),QG (by omega),eT (by omega),by omega,by omega,by omega,QF (by omega) (by omega),oq,hne,rfl,rfl,Nat.zero_add _,by omega,Nat.zero_add _,by omega,rfl,rfl,rfl,QG (by omega),eT (by omega),trivial⟩
 ·show (cB (cB kQ)).wp _ _ _ _;exact aA aG hT hG (Yy n h bl bt _ _ half _) ⟨IK (k:=2) (by omega),trivial⟩ hA fun a w hA=>hR a w hA
theorem PF {s log:Nat} (h:s<log):2^log=2^s*2*2^(log-1-s)∧2^log/2=2^s*2^(log-1-s)∧2^log/2/2^s=2^(log-1-s):=by
 have e:log=s+1+(log-1-s):=by omega
 have h1:2^log=2^s*2*2^(log-1-s):=by
  have:2^(s+1+(log-1-s))=2^s*2*2^(log-1-s):=by rw[Nat.pow_add,Nat.pow_succ]
  rwa [←e]at this
 have h2:2^log/2=2^s*2^(log-1-s):=by
  rw[h1,Nat.mul_right_comm,Nat.mul_div_cancel _ (by omega)]
 exact⟨h1,h2,by rw[h2,Nat.mul_div_cancel_left _ (Nat.two_pow_pos s)]⟩
theorem zL {w0:World} {v:Value} {N log x:Nat} {f:Nat→Nat} (hv:LV w0 v N f) (hf:bT N f) (hl:log≤16) (hx:x<RM) :
  Calls prog 34 #[v,iI log,.agg (aB [At.q x]).toArray] w0 (fun e w'=>FR.ok ⟨aR (el (zD (qS N f log) (2^log) (fE 1 x) log)) 0 (2^log),2^log,2^log,[]⟩ w0 e w'):=by
 have hG:bH prog (qG prog) w0.heap.size w0:=(aY _).w _ _;have hT:∀n d:Nat,TabOkW prog dW w0.heap.size w0:=fun _ _=>bG.w _ _
 obtain⟨p,m,rfl,hm,h256,hmem⟩:=id hv;have hn2:2^log≤65536:=Nat.pow_le_pow_right (n:=2) (by omega) hl;refine bJ func34 (cs:=[.v (.im (.slice p N m)),.v (.im (iI log)),.v (.fl [.q x])]) (args:=[.slice p N m,iI log,.agg (aB [At.q x]).toArray]) (c:=fC) rfl ⟨rfl,rfl,rfl,trivial⟩ (Nat.le_of_ble_eq_true (by kernel_rfl)) fun a w1 hA => ?_
 rw[UU];refine wp_seq (aA aG hT hG (Pa p N m log x) trivial hA fun a w1 hA => ?_);refine wp_seq (aA aG hT (eP _ _ _) (Oz _ log x (2^log)) ⟨gO (by omega),trivial⟩ hA fun a w1 hA => ?_);obtain⟨b3,hA⟩:=hA.at (k:=3) (l:=[.c (.slice p N m)]) (by simp[HL]);obtain⟨b4,hA⟩:=hA.at (k:=4) (l:=[.c (iI log)]) (by simp[HL]);obtain⟨b5,hA⟩:=hA.at (k:=5) (l:=[.q x]) (by simp[HL]);have o3:oldOf w1 b3 0 [.c (.slice p N m)]:=hA.old (k:=3) (by simp[HL]) (by simp);have o4:oldOf w1 b4 0 [.c (iI log)]:=hA.old (k:=4) (by simp[HL]) (by simp);have o5:oldOf w1 b5 0 [.q x]:=hA.old (k:=5) (by simp[HL]) (by simp);have hF:=hA.fresh [(3,.im (bZ b3 0)),(4,.im (bZ b4 0)),(5,.im (bZ b5 0)),(7,.im (iI (2^log)))] (fun z hz=>by
  simp only[List.mem_cons,List.not_mem_nil,or_false]at hz
  rcases hz with rfl|rfl|rfl|rfl
  ·exact hA.ptr (s:=3) (k:=3) (by simp[HL]) (by simp)
  ·exact hA.ptr (s:=4) (k:=4) (by simp[HL]) (by simp)
  ·exact hA.ptr (s:=5) (k:=5) (by simp[HL]) (by simp)
  ·exact hA.slot (v:=iI (2^log)) (by simp))
 have hb1:=hA.below;clear hA;have hlv:=hv.on hb1;have hfr:∀w',Below w1.heap.size w1 w'→FrAt prog (Mg b3 b4 (2^log) (qS N f log)) w':=fun w' hw =>
  ((FrAt.none _ _).add func67 (by kernel_rfl) (by kernel_rfl) (yJ (by omega) (fun args w=>bK func68 (by kernel_rfl) (by kernel_rfl) args w) fun i hi w3 hw3 =>
   KM ((hlv.on hw).on hw3) (by omega) (by omega) (oldOf.go (hw.trans (hw3.mono hw.size)) (Nat.le_refl _) o3) (oldOf.go (hw.trans (hw3.mono hw.size)) (Nat.le_refl _) o4))).add func70 (by kernel_rfl) (by kernel_rfl) fun cs pre r h1 h2 args ha=>JB cs pre r h1 h2 args w' ha
 refine wp_seq (aA aG (fun _ _=>bG.w _ _) (NC hfr) (Oy w1 b3 b4 b5 (2^log) (qS N f log)) ⟨rfl,rfl,trivial⟩ hF fun a w2 hA => ?_);refine wp_seq (aA aG (fun _ _=>bG.w _ _) (NC hfr) (Ox w1 b3 b4 b5 (2^log) (2^log/2) x (qS N f log) _) ⟨o5,rfl,QF (by omega) rfl,by decide,hx,by omega,trivial⟩ hA fun a w2 hA => ?_);obtain⟨bl,hA⟩:=hA.at (k:=16) (l:=aR (el (qS N f log)) 0 (2^log)) (by simp[Fk]);obtain⟨bt,hA⟩:=hA.at (k:=21) (l:=aR (el (fE 1 x)) 0 (2^log/2)) (by simp[Fk]);have hne:bt≠bl:=by
  obtain⟨β,g1,g2,_⟩:=hA.facts;have e1:=g1 (.at 21 bt) (by simp);have e2:=g1 (.at 16 bl) (by simp);have:=g2 21 16 true (aR (el (fE 1 x)) 0 (2^log/2)) (aR (el (qS N f log)) 0 (2^log)) (by simp[Fk]) (by simp[Fk]) (by omega);simp only[Fact.ok]at e1 e2;rw[e1.1,e2.1]at this;exact this
 refine wp_seq (wp_seq (aA aG (fun _ _=>bG.w _ _) ((aY _).w _ _) (Ow (2^log) (2^log/2) bl bt _ _) trivial hA fun a w2 hA => ?_));refine wp_block ?_;have hfl:bT (2^log) (qS N f log):=fun j hj=>by
  unfold qS nZ;split
  ·rename_i h; exact hf _ h
  ·exact fD
 have htw:bT (2^log/2) (fE 1 x):=fun j hj=>pK (by decide) j
 refine mD (fun s a w=>Holds f34.ntmps w1.heap.size w1 (oZ (2^log) (2^log/2) bl bt (aR (el (zD (qS N f log) (2^log) (fE 1 x) s)) 0 (2^log)) (aR (el (fE 1 x)) 0 (2^log/2)) (2^s)) a w) log (fun s hs a w hA R hR => ?_) (fun a w hA R => ?_) (by exact hA)
 ·obtain⟨e1,e2,e3⟩:=PF hs;have e4:zD (qS N f log) (2^log) (fE 1 x) (s+1)=zB (zD (qS N f log) (2^log) (fE 1 x) s) (2^s) (2^(log-1-s)) (fE 1 x) (2^(log-1-s)):=by
   show zB _ _ _ _ _=_;rw[e3]
  refine NP (t:=log-1-s) e1 e2 hn2 hne (yL hfl s) htw hA fun a w hA=>hR a w ?_
  rw[e4,Nat.pow_succ];exact hA
 ·rw[NQ];refine wp_seq (aA aG (fun _ _=>bG.w _ _) ((aY _).w _ _) (Yu (2^log) (2^log/2) bl bt _ _ (2^log)) ⟨dI (Nat.le_refl _),trivial⟩ hA fun a w hA => ?_);show (cB (cB (cB (cB (cB fC))))).wp _ _ _ _;exact aA aG (fun _ _=>bG.w _ _) ((aY _).w _ _) (Yt (2^log) (2^log/2) bl bt _ _ (2^log)) trivial hA fun a w hA=>cH (fA (r:=⟨aR (el (zD (qS N f log) (2^log) (fE 1 x) log)) 0 (2^log),2^log,2^log,[]⟩) (by kernel_rfl) hA) fun e w h=>h.older hb1
def FL (z:Int) (b:Nat):Prop:=∃(s:Bool) (k:Nat),Ieee.double.read b=.number s (z.natAbs*2^k) (-(k:Int))∧(z=0∨s=decide (z<0))
theorem Kz:Ieee.double.signWeight=2^63:=by decide
theorem JP:Ieee.double.binade=2^52:=by decide
theorem JO:Ieee.double.infRung=2047*2^52:=by decide
theorem GB:Ieee.double.leastPlace = -1074:=by decide
theorem KZ (s:Bool) {e m:Nat} (he:e<2046) (hm:m<2^52):Ieee.double.read (Ieee.double.word s ((e+1)*2^52+m))=.number s (2^52+m) (-1074+(e:Int)):=by
 have h1:(e+1)*2^52+m<2^63:=by omega
 unfold Ieee.Format.read Ieee.Format.word;simp only[Kz,JP,JO,GB];have h2:(if s=true then 2^63+((e+1)*2^52+m)else (e+1)*2^52+m)%2^63=(e+1)*2^52+m:=by cases s<;>simp<;>omega
 have h3:((if s=true then 2^63+((e+1)*2^52+m)else (e+1)*2^52+m)/2^63%2==1)=s:=by cases s<;>simp<;>omega
 rw[h2,h3,if_neg (by omega),if_pos (by omega)];have h4:((e+1)*2^52+m)%2^52=m:=by omega
 have h5:((e+1)*2^52+m)/2^52-1=e:=by omega
 rw[h4,h5]
theorem KY (s:Bool):Ieee.double.read (Ieee.double.word s 0)=.number s 0 (-1074):=by
 cases s<;>decide
theorem FL.write {s:Bool} {z:Int} {k:Nat} (hz:z.natAbs<2^53) (hs:z=0∨s=decide (z<0)):FL z (Ieee.double.write (.number s (z.natAbs*2^k) (-(k:Int)))):=by
 by_cases h0:z=0
 ·subst h0;refine⟨s,1074,?_,Or.inl rfl⟩;show Ieee.double.read (Ieee.double.nearest s (0*2^k) _)=_;unfold Ieee.Format.nearest;rw[Nat.zero_mul,if_pos rfl,KY];have e:∀n:Nat,(0:Int).natAbs*n=0:=fun n=>Nat.zero_mul n
  rw[e]<;>rfl
 ·have hn:z.natAbs≠0:=by omega
  obtain⟨L,hL1,hL2⟩:∃L,2^L≤z.natAbs∧z.natAbs<2^(L+1):=⟨z.natAbs.log2,Nat.log2_self_le hn,Nat.lt_log2_self⟩
  have hL:L≤52:=by
   rcases Nat.lt_or_ge 52 L with h|h
   ·have:=Nat.pow_le_pow_right (n:=2) (by omega) (show 53≤L by omega);omega
   ·exact h
  have hpos:z.natAbs*2^k≠0:=Nat.mul_ne_zero hn (Nat.pos_iff_ne_zero.1 (Nat.two_pow_pos k));have hlog:(z.natAbs*2^k).log2=L+k:=by
   refine (Nat.log2_eq_iff hpos).2 ⟨?_,?_⟩
   ·rw[Nat.pow_add]; exact Nat.mul_le_mul_right _ hL1
   ·rw[show L+k+1=(L+1)+k by omega,Nat.pow_add]; exact (Nat.mul_lt_mul_right (Nat.two_pow_pos k)).2 hL2
  have hkept:Ieee.Toward.even.cut s ((z.natAbs*2^k) <<< (-(k:Int)-((L:Int)-52)).toNat) (((L:Int)-52) - -(k:Int)).toNat=z.natAbs*2^(52-L):=by
   rcases Nat.lt_or_ge (52-L) k with h|h
   ·
    have e1:(-(k:Int)-((L:Int)-52)).toNat=0:=by omega
    have e2:(((L:Int)-52) - -(k:Int)).toNat=k-(52-L):=by omega
    rw[e1,e2,Nat.shiftLeft_zero];have e3:z.natAbs*2^k=z.natAbs*2^(52-L)*2^(k-(52-L)):=by rw[Nat.mul_assoc,←Nat.pow_add,show 52-L+(k-(52-L))=k by omega]
    unfold Ieee.Toward.cut;have e4:min (k-(52-L)) ((z.natAbs*2^k).log2+2)=k-(52-L):=by rw[hlog]; omega
    simp only[e4,Nat.one_shiftLeft];have e5:z.natAbs*2^k/2^(k-(52-L))=z.natAbs*2^(52-L):=by rw[e3,Nat.mul_div_cancel _ (Nat.two_pow_pos _)]
    have e6:z.natAbs*2^k%2^(k-(52-L))=0:=by rw[e3,Nat.mul_mod_left]
    rw[e5,e6];have hg:=Nat.two_pow_pos (k-(52-L));have e7:decide (2^(k-(52-L))<2*0)=false:=decide_eq_false (by omega);have e8:(2^(k-(52-L))==2*0)=false:=by rw[beq_eq_false_iff_ne]; omega
    rw[e7,e8];rfl
   ·have e1:(-(k:Int)-((L:Int)-52)).toNat=52-L-k:=by omega
    have e2:(((L:Int)-52) - -(k:Int)).toNat=0:=by omega
    rw[e1,e2,Nat.shiftLeft_eq,Nat.mul_assoc,←Nat.pow_add,show k+(52-L-k)=52-L by omega];unfold Ieee.Toward.cut;simp[Nat.mod_one]
  have hk1:2^52≤z.natAbs*2^(52-L):=by
   have:=Nat.mul_le_mul_right (2^(52-L)) hL1
   rwa [←Nat.pow_add,show L+(52-L)=52 by omega]at this
  have hk2:z.natAbs*2^(52-L)<2^53:=by
   have:=(Nat.mul_lt_mul_right (Nat.two_pow_pos (52-L))).2 hL2
   rwa [←Nat.pow_add,show L+1+(52-L)=53 by omega]at this
  refine⟨s,52-L,?_,Or.inr (hs.resolve_left h0)⟩;show Ieee.double.read (Ieee.double.nearest s (z.natAbs*2^k) (-(k:Int)))=_;unfold Ieee.Format.nearest;rw[if_neg hpos];have hfb:((Ieee.double.fractionBits:Nat):Int)=52:=rfl;have elast:max (-(k:Int)+((z.natAbs*2^k).log2:Int)-(Ieee.double.fractionBits:Int)) Ieee.double.leastPlace=(L:Int)-52:=by
   rw[hlog,hfb,GB]; omega
  simp only[elast];rw[hkept,GB,JP,JO];generalize z.natAbs*2^(52-L)=K at hk1 hk2 ⊢;have e9:((L:Int)-52 - -1074).toNat=L+1022:=by omega
  rw[e9];have hB:(2:Nat)^53=2*2^52:=by rw[Nat.pow_succ,Nat.mul_comm]
  rw[hB]at hk2;have hr:=KZ s (e:=L+1022) (m:=K-2^52) (by omega);generalize (2:Nat)^52=B at hk1 hk2 hr ⊢;have hr:=hr (by omega);have e12:(L+1022)*B≤1074*B:=Nat.mul_le_mul_right _ (by omega);have e13:(L+1022)*B+K≤2047*B:=by omega
  have e14:(L+1022+1)*B=(L+1022)*B+B:=by rw[Nat.add_mul _ 1,Nat.one_mul]
  have e10:min ((L+1022)*B+K) (2047*B)=(L+1022+1)*B+(K-B):=by rw[Nat.min_eq_left e13,e14]; omega
  rw[e10,hr];have e11:B+(K-B)=K:=by omega
  rw[e11];congr 1;omega
theorem pC {s:Bool} {z:Int} {k K:Nat} (hk:k≤K) (hs:z=0∨s=decide (z<0)):Ieee.signed s (z.natAbs*2^k) (K-k)=z*(2^K:Nat):=by
 have e:(z.natAbs*2^k) <<< (K-k)=z.natAbs*2^K:=by rw[Nat.shiftLeft_eq,Nat.mul_assoc,←Nat.pow_add,show k+(K-k)=K by omega]
 unfold Ieee.signed;rw[e];generalize 2^K=B
 rcases hs with rfl|rfl
 ·cases s<;>simp
 ·by_cases h:z<0
  ·rw[decide_eq_true h,if_pos rfl];have:((z.natAbs*B:Nat):Int) = -z*(B:Int):=by rw[Int.natCast_mul,show ((z.natAbs:Nat):Int) = -z by omega]
   rw[this,Int.neg_mul,Int.neg_neg]
  ·rw[decide_eq_false h,if_neg (by simp)];rw[Int.natCast_mul,show ((z.natAbs:Nat):Int)=z by omega]
theorem FL.sum {z y:Int} {s t:Bool} {k l:Nat} (hs:z=0∨s=decide (z<0)) (ht:y=0∨t=decide (y<0)) (hb:(z+y).natAbs<2^53):∃d,Ieee.Datum.sum (.number s (z.natAbs*2^k) (-(k:Int))) (.number t (y.natAbs*2^l) (-(l:Int)))=some d∧FL (z+y) (Ieee.double.write d):=by
 have ebase:min (-(k:Int)) (-(l:Int)) = -((max k l:Nat):Int):=by omega
 have e1:(-(k:Int) - -((max k l:Nat):Int)).toNat=max k l-k:=by omega
 have e2:(-(l:Int) - -((max k l:Nat):Int)).toNat=max k l-l:=by omega
 refine⟨_,rfl,?_⟩;simp only[ebase,e1,e2,pC (Nat.le_max_left k l) hs,pC (Nat.le_max_right k l) ht];rw[←Int.add_mul];have hp:0<2^(max k l):=Nat.two_pow_pos _;have ea:((z+y)*((2^(max k l):Nat):Int)).natAbs=(z+y).natAbs*2^(max k l):=by rw[Int.natAbs_mul,Int.natAbs_natCast]
 rw[ea];refine FL.write hb ?_
 by_cases h0:z+y=0
 ·exact Or.inl h0
 ·right;have hB:(0:Int)<((2^(max k l):Nat):Int):=by omega
  have hne:(z+y)*((2^(max k l):Nat):Int)≠0:=Int.mul_ne_zero h0 (by omega);rw[if_neg hne];congr 1;exact propext ⟨fun h=>by
   rcases (show z+y<0∨0≤z+y by omega)with q|q
   ·exact q
   ·exact absurd h (Int.not_lt.2 (Int.mul_nonneg q (Int.le_of_lt hB))),fun h=>Int.mul_neg_of_neg_of_pos h hB⟩
theorem FL.add {z y:Int} {a b:Nat} (h1:FL z a) (h2:FL y b) (hb:(z+y).natAbs<2^53):∃r,floatBits .add .f64 a b=some r∧FL (z+y) r:=by
 obtain⟨s,k,e1,hs⟩:=h1;obtain⟨t,l,e2,ht⟩:=h2;obtain⟨d,hd,hf⟩:=FL.sum (k:=k) (l:=l) hs ht hb;refine⟨_,?_,hf⟩;show ((Ieee.double.read a).sum (Ieee.double.read b)).map Ieee.double.write=_;rw[e1,e2,hd];rfl
theorem FL.sub {z y:Int} {a b:Nat} (h1:FL z a) (h2:FL y b) (hb:(z-y).natAbs<2^53):∃r,floatBits .sub .f64 a b=some r∧FL (z-y) r:=by
 obtain⟨s,k,e1,hs⟩:=h1;obtain⟨t,l,e2,ht⟩:=h2;have ht2 : -y=0∨(!t)=decide (-y<0):=by
  by_cases h0:y=0
  ·left; omega
  ·right;rw[ht.resolve_left h0]
   by_cases h:y<0
   ·rw[decide_eq_true h,decide_eq_false (by omega)]; rfl
   ·rw[decide_eq_false h,decide_eq_true (by omega)]; rfl
 obtain⟨d,hd,hf⟩:=FL.sum (k:=k) (l:=l) hs ht2 (by rw[←Int.sub_eq_add_neg]; exact hb);rw[←Int.sub_eq_add_neg]at hf;refine⟨_,?_,hf⟩;show ((Ieee.double.read a).sum (Ieee.double.read b).opposite).map Ieee.double.write=_;rw[e1,e2];rw[Int.natAbs_neg]at hd;show (Ieee.Datum.sum _ (.number (!t) _ _)).map Ieee.double.write=_;rw[hd];rfl
theorem FL.mul {z y:Int} {a b:Nat} (h1:FL z a) (h2:FL y b) (hb:(z*y).natAbs<2^53):∃r,floatBits .mul .f64 a b=some r∧FL (z*y) r:=by
 obtain⟨s,k,e1,hs⟩:=h1;obtain⟨t,l,e2,ht⟩:=h2;refine⟨Ieee.double.write (.number (s ^^ t) ((z*y).natAbs*2^(k+l)) (-((k+l:Nat):Int))),?_,FL.write hb ?_⟩
 ·show ((Ieee.double.read a).product (Ieee.double.read b)).map Ieee.double.write=_;rw[e1,e2];show some (Ieee.double.write (.number (s ^^ t) (z.natAbs*2^k*(y.natAbs*2^l)) (-(k:Int) + -(l:Int))))=_;have e3:z.natAbs*2^k*(y.natAbs*2^l)=(z*y).natAbs*2^(k+l):=by rw[Int.natAbs_mul,Nat.pow_add,Nat.mul_mul_mul_comm]
  have e4 : -(k:Int) + -(l:Int) = -((k+l:Nat):Int):=by omega
  rw[e3,e4]
 ·by_cases h0:z=0
  ·left; rw[h0,Int.zero_mul]
  ·by_cases h3:y=0
   ·left; rw[h3,Int.mul_zero]
   ·right;rw[hs.resolve_left h0,ht.resolve_left h3]
    rcases (show z<0∨0≤z by omega)with q|q<;>rcases (show y<0∨0≤y by omega)with q'|q'
    ·rw[decide_eq_true q,decide_eq_true q',decide_eq_false (Int.not_lt.2 (Int.le_of_lt (Int.mul_pos_of_neg_of_neg q q')))]; rfl
    ·rw[decide_eq_true q,decide_eq_false (Int.not_lt.2 q'),decide_eq_true (Int.mul_neg_of_neg_of_pos q (by omega))]; rfl
    ·rw[decide_eq_false (Int.not_lt.2 q),decide_eq_true q',decide_eq_true (Int.mul_neg_of_pos_of_neg (by omega) q')]; rfl
    ·rw[decide_eq_false (Int.not_lt.2 q),decide_eq_false (Int.not_lt.2 q'),decide_eq_false (Int.not_lt.2 (Int.mul_nonneg q q'))]; rfl
theorem FL.ofInt {z:Int} (hz:z.natAbs<2^53):FL z (floatOfInt .f64 z):=by
 have:=FL.write (s:=decide (z<0)) (z:=z) (k:=0) hz (Or.inr rfl);rw[Nat.pow_zero,Nat.mul_one]at this;exact this
theorem FL.toInt {z:Int} {b:Nat} (h:FL z b) (hz:z.natAbs<2^53):floatToIntVal .f64 b .i64=some z:=by
 obtain⟨s,k,e1,hs⟩:=h;have hc:(FloatKind.f64.decode b).toInt .zero=some z:=by
  show (Ieee.double.read b).toInt .zero=_;rw[e1];show some (Ieee.signed s (Ieee.Toward.zero.cut s ((z.natAbs*2^k) <<< (-(k:Int)).toNat) (- -(k:Int)).toNat) 0)=_;have q1:(-(k:Int)).toNat=0:=by omega
  have q2:(- -(k:Int)).toNat=k:=by omega
  rw[q1,q2,Nat.shiftLeft_zero];have hcut:Ieee.Toward.zero.cut s (z.natAbs*2^k) k=z.natAbs:=by
   unfold Ieee.Toward.cut
   by_cases h0:z.natAbs=0
   ·rw[h0]; simp
   ·have hpos:z.natAbs*2^k≠0:=Nat.mul_ne_zero h0 (Nat.pos_iff_ne_zero.1 (Nat.two_pow_pos k));have hle:k≤(z.natAbs*2^k).log2:=(Nat.le_log2 hpos).2 (Nat.le_mul_of_pos_left _ (by omega));have e4:min k ((z.natAbs*2^k).log2+2)=k:=by omega
    simp only[e4,Nat.one_shiftLeft];rw[Nat.mul_div_cancel _ (Nat.two_pow_pos k)];rfl
  rw[hcut];have:=pC (s:=s) (z:=z) (k:=0) (K:=0) (Nat.le_refl 0) hs;simp at this;rw[this]
 unfold floatToIntVal;rw[hc];have h1:IntKind.i64.min = -9223372036854775808:=rfl;have h2:IntKind.i64.max=9223372036854775807:=rfl;simp only[h1,h2];rw[if_pos (by omega)]
theorem FL.cmul {n c d:Int} {a e c' d':Nat} (h:FL n a) (he:FL 0 e) (hc:FL c c') (hd:FL d d') (hb1:(n*c).natAbs<2^53) (hb2:(n*d).natAbs<2^53):∃x y,cMulBits a e c' d'=some (x,y)∧FL (n*c) x∧FL (n*d) y:=by
 obtain⟨r1,q1,f1⟩:=FL.mul h hc hb1;obtain⟨r2,q2,f2⟩:=FL.mul he hd (by rw[Int.zero_mul]; decide);rw[Int.zero_mul]at f2;obtain⟨x,q3,f3⟩:=FL.sub f1 f2 (by rw[Int.sub_zero]; exact hb1);rw[Int.sub_zero]at f3;obtain⟨r4,q4,f4⟩:=FL.mul h hd hb2;obtain⟨r5,q5,f5⟩:=FL.mul he hc (by rw[Int.zero_mul]; decide);rw[Int.zero_mul]at f5;obtain⟨y,q6,f6⟩:=FL.add f4 f5 (by rw[Int.add_zero]; exact hb2);rw[Int.add_zero]at f6;refine⟨x,y,?_,f3,f6⟩;unfold cMulBits;simp[q1,q2,q3,q4,q5,q6]
theorem FL.csum {a b c d:Int} {a' b' c' d':Nat} (h1:FL a a') (h2:FL b b') (h3:FL c c') (h4:FL d d') (hb1:(a+c).natAbs<2^53) (hb2:(b+d).natAbs<2^53):∃x y,cSumBits .add .f64 a' b' c' d'=some (x,y)∧FL (a+c) x∧FL (b+d) y:=by
 obtain⟨x,q1,f1⟩:=FL.add h1 h3 hb1;obtain⟨y,q2,f2⟩:=FL.add h2 h4 hb2;refine⟨x,y,?_,f1,f2⟩;unfold cSumBits;simp[q1,q2]
def iV (z:Int):Value:=.int .i64 z
def cV (c:Nat×Nat):Value:=.complex .f64 c.1 c.2
def x4 (X:Nat→Int):List At:=[.c (iV (X 0)),.c (iV (X 1)),.c (iV (X 2)),.c (iV (X 3))]
theorem GV {X:Nat→Int} {i:Nat} (h:i<4):cellAt (x4 X) i=some (iV (X i)):=by
 match i,h with
 | 0,_=>rfl
 | 1,_=>rfl
 | 2,_=>rfl
 | 3,_=>rfl
theorem Ev {X:Nat→Int} {i:Nat} {z:Int} (h:i<4):put (x4 X) (0+i*1) [.c (iV z)]=some (x4 fun j=>if j=i then z else X j):=by
 match i,h with
 | 0,_=>rfl
 | 1,_=>rfl
 | 2,_=>rfl
 | 3,_=>rfl
def NL (m:Nat):Nat×Nat:=if m=0 then (4607182418800017408,0)else if m=1 then (0,13830554455654793216)else if m=2 then (13830554455654793216,0)else (0,4607182418800017408)
def Yn:List At:=[.c (cV (NL 0)),.c (cV (NL 1)),.c (cV (NL 2)),.c (cV (NL 3))]
theorem Nv {m:Nat} (h:m<4):cellAt Yn (0+m*1)=some (cV (NL m)):=by
 match m,h with
 | 0,_=>rfl
 | 1,_=>rfl
 | 2,_=>rfl
 | 3,_=>rfl
def tU:Code:=(f24.body).getD .skip
def Al:Code:=cB tU
def BX:Code:=gH (gH (cB (cA Al)))
def Ak:Code:=cB Al
def Aj:Code:=cB Ak
def BY:Code:=cB Aj
def kT:Code:=gH (gH (cB (cA BY)))
def mY:Code:=gH (cA (cB (cB kT)))
def Ai:Code:=gH (gH (cB (cA (cB (cB mY)))))
theorem Ah:tU=.seq (cA tU) (.seq (.seq (cA (cA Al)) (.block 0 (.loop BX))) (.seq (cA Ak) (.seq (cA Aj) (.seq (.seq (cA (cA BY)) (.block 2 (.loop kT))) (cB BY))))):=by kernel_rfl
theorem RT:kT=.seq (cA kT) (.seq (cA (cB kT)) (.seq (.block 3 (.seq (cA mY) (.seq (cA (cB mY)) (.seq (.seq (cA (cA (cB (cB mY)))) (.block 4 (.loop Ai))) (cB (cB (cB mY))))))) (cB (cB (cB kT))))):=by kernel_rfl
def z4:Nat→Int:=fun _=>0
def BZ (X:Nat→Int):List Fact:=[.slot 1 (.pt 1 0),.row 1 true (x4 X),.slot 2 (.pt 2 0),.row 2 true (x4 z4),.slot 3 (.pt 3 0),.row 3 true (x4 z4)]
theorem Tv (X:Nat→Int):aH prog (qG prog) f24.ntmps (cG fun _=>none) 40 (cA tU) (eF 0 [.v (.fl (x4 X))]) (BZ X)=some ([],.nrm,BZ X):=by kernel_rfl
def JK (X:Nat→Int) (i:Nat):List Fact:=.slot 14 (.fl (x4 X)) :: .slot 15 (.im (iI i))::BZ X
theorem Tu (X:Nat→Int):aH prog (qG prog) f24.ntmps (cG fun _=>none) 40 (cA (cA Al)) (BZ X) (JK X 0)=some ([],.nrm,JK X 0):=by kernel_rfl
theorem Tw (X:Nat→Int) (i:Nat) (z:Int):aH prog { qG prog with x:=xG (aE [(17,iV z)]) } f24.ntmps (cG (aE [(16,.bool true),(19,.bool false),(22,.bool false),(26,iI (i+1))])) 40 BX (JK X i) (JK X (i+1))=some ([aD .lss .i64 (Int.ofNat i) 4=some (.bool true),i<4,cellAt (x4 X) i=some (iV z),aD .lss .i64 z (-1099511627776)=some (.bool false),aD .gtr .i64 z 1099511627776=some (.bool false),aD .add .i64 (Int.ofNat i) 1=some (iI (i+1))],.nrm,JK X (i+1)):=by kernel_rfl
def DD (re im:Nat→Int) (e:Int):List Fact:=[.slot 2 (.pt 2 0),.row 2 true (x4 re),.slot 3 (.pt 3 0),.row 3 true (x4 im),.slot 4 (.im (iV e))]
theorem Ui (X:Nat→Int) (i:Nat) (z:Int):aH prog { qG prog with x:=xG (aE [(17,iV z)]) } f24.ntmps (cG (aE [(16,.bool true),(19,.bool true)])) 40 BX (JK X i) (DD z4 z4 4)=some ([aD .lss .i64 (Int.ofNat i) 4=some (.bool true),i<4,cellAt (x4 X) i=some (iV z),aD .lss .i64 z (-1099511627776)=some (.bool true)],.rt,DD z4 z4 4):=by kernel_rfl
theorem Uh (X:Nat→Int) (i:Nat) (z:Int):aH prog { qG prog with x:=xG (aE [(17,iV z)]) } f24.ntmps (cG (aE [(16,.bool true),(19,.bool false),(22,.bool true)])) 40 BX (JK X i) (DD z4 z4 4)=some ([aD .lss .i64 (Int.ofNat i) 4=some (.bool true),i<4,cellAt (x4 X) i=some (iV z),aD .lss .i64 z (-1099511627776)=some (.bool false),aD .gtr .i64 z 1099511627776=some (.bool true)],.rt,DD z4 z4 4):=by kernel_rfl
theorem Uf (X:Nat→Int) (i:Nat):aH prog (qG prog) f24.ntmps (cG (aE [(16,.bool false)])) 40 BX (JK X i) (BZ X)=some ([aD .lss .i64 (Int.ofNat i) 4=some (.bool false)],.ex 0,BZ X):=by kernel_rfl
def Xu (X:Nat→Int):List Fact:=.slot 7 (.pt 7 0) :: .row 7 true Yn::BZ X
theorem Tt (X:Nat→Int):aH prog (qG prog) f24.ntmps (cG fun _=>none) 40 (cA Ak) (BZ X) (Xu X)=some ([],.nrm,Xu X):=by kernel_rfl
def Xt (X re im:Nat→Int):List Fact:=.slot 8 (.pt 8 0) :: .row 8 true (x4 re) :: .slot 9 (.pt 9 0) :: .row 9 true (x4 im)::Xu X
theorem Ts (X:Nat→Int):aH prog (qG prog) f24.ntmps (cG fun _=>none) 40 (cA Aj) (Xu X) (Xt X z4 z4)=some ([],.nrm,Xt X z4 z4):=by kernel_rfl
def qJ (X re im:Nat→Int) (j:Nat):List Fact:=.slot 28 (.im (iI j))::Xt X re im
theorem Tr (X re im:Nat→Int):aH prog (qG prog) f24.ntmps (cG fun _=>none) 40 (cA (cA BY)) (Xt X re im) (qJ X re im 0)=some ([],.nrm,qJ X re im 0):=by kernel_rfl
theorem Ug (X re im:Nat→Int) (j:Nat) (c:Bool):aH prog (qG prog) f24.ntmps (cG (aE [(29,.bool c)])) 40 (cA kT) (qJ X re im j) (.slot 29 (.im (.bool c))::qJ X re im j)=some ([aD .lss .i64 (Int.ofNat j) 4=some (.bool c)],.nrm,.slot 29 (.im (.bool c))::qJ X re im j):=by kernel_rfl
def MX (X re im:Nat→Int) (j:Nat) (S:Nat×Nat) (k:Nat):List Fact:=.slot 10 (.im (iI j)) :: .slot 11 (.im (cV S)) :: .slot 31 (.fl (x4 X)) :: .slot 32 (.im (iI k))::qJ X re im j
theorem Uc (X re im:Nat→Int) (j:Nat):aH prog (qG prog) f24.ntmps (cG fun _=>none) 40 (cA mY) (qJ X re im j) (.slot 10 (.im (iI j))::qJ X re im j)=some ([],.nrm,.slot 10 (.im (iI j))::qJ X re im j):=by kernel_rfl
theorem Ub (X re im:Nat→Int) (j:Nat):aH prog (qG prog) f24.ntmps (cG fun _=>none) 40 (cA (cB mY)) (.slot 10 (.im (iI j))::qJ X re im j) (.slot 10 (.im (iI j)) :: .slot 11 (.im (cV (0,0)))::qJ X re im j)=some ([],.nrm,.slot 10 (.im (iI j)) :: .slot 11 (.im (cV (0,0)))::qJ X re im j):=by kernel_rfl
theorem Ua (X re im:Nat→Int) (j:Nat):aH prog (qG prog) f24.ntmps (cG fun _=>none) 40 (cA (cA (cB (cB mY)))) (.slot 10 (.im (iI j)) :: .slot 11 (.im (cV (0,0)))::qJ X re im j) (MX X re im j (0,0) 0)=some ([],.nrm,MX X re im j (0,0) 0):=by kernel_rfl
theorem Ud (X re im:Nat→Int) (j k m fb:Nat) (z:Int) (S P S':Nat×Nat):aH prog { qG prog with x:=xA (aE [(44,m)]) (fun _=>none) (fun _=>none) (aE [(35,iV z),(38,.float .f64 fb),(39,cV (fb,0)),(45,cV (NL m)),(46,cV P),(47,cV S')]) } f24.ntmps (cG (aE [(33,.bool true),(42,iI (j*k)),(43,iI m),(48,iI (k+1))])) 60 Ai (MX X re im j S k) (MX X re im j S' (k+1)) =
  some ([aD .lss .i64 (Int.ofNat k) 4=some (.bool true),k<4,cellAt (x4 X) k=some (iV z),∀w:World,(convert 3 88 (iV z)).run prog w=.ok (.float .f64 fb) w,∀w:World,(Builtin.complex_ #[] 0 #[.float .f64 fb,.float .f64 0]).run prog w=.ok (cV (fb,0)) w,aD .mul .i64 (Int.ofNat j) (Int.ofNat k)=some (iI (j*k)),aD .rem .i64 (Int.ofNat (j*k)) 4=some (iI m),Int.ofNat m=Int.ofNat m,m<4,cellAt Yn (0+m*1)=some (cV (NL m)),dD .mul 86 (.tmp 39) (.tmp 45) (cV (fb,0)) (cV (NL m)) (cV P),dD .add 86 (.tmp 36) (.tmp 46) (cV S) (cV P) (cV S'),aD .add .i64 (Int.ofNat k) 1=some (iI (k+1))],.nrm,MX X re im j S' (k+1)):=by kernel_rfl
theorem Ue (X re im:Nat→Int) (j:Nat) (S:Nat×Nat) (k:Nat):aH prog (qG prog) f24.ntmps (cG (aE [(33,.bool false)])) 60 Ai (MX X re im j S k) (MX X re im j S k)=some ([aD .lss .i64 (Int.ofNat k) 4=some (.bool false)],.ex 4,MX X re im j S k):=by kernel_rfl
theorem Tz (X re im re' im':Nat→Int) (j:Nat) (S:Nat×Nat) (k:Nat) (a b:Int):aH prog { qG prog with x:=xA (aE [(57,j),(58,j)]) (fun _=>none) (aE [(57,x4 re'),(58,x4 im')]) (aE [(52,.float .f64 S.1),(53,iV a),(55,.float .f64 S.2),(56,iV b)]) } f24.ntmps (cG fun _=>none) 60 (cB (cB (cB mY))) (MX X re im j S k) (qJ X re' im' j) =
  some ([∀w:World,(Builtin.real_ #[] 0 #[cV S]).run prog w=.ok (.float .f64 S.1) w,∀w:World,(convert 88 3 (.float .f64 S.1)).run prog w=.ok (iV a) w,∀w:World,(Builtin.imag_ #[] 0 #[cV S]).run prog w=.ok (.float .f64 S.2) w,∀w:World,(convert 88 3 (.float .f64 S.2)).run prog w=.ok (iV b) w,Int.ofNat j=Int.ofNat j,j<4,put (x4 re) (0+j*1) [.c (iV a)]=some (x4 re'),Int.ofNat j=Int.ofNat j,j<4,put (x4 im) (0+j*1) [.c (iV b)]=some (x4 im')],.nrm,qJ X re' im' j):=by kernel_rfl
theorem Ty (X re im:Nat→Int) (j:Nat):aH prog (qG prog) f24.ntmps (cG (aE [(59,iI (j+1))])) 60 (cB (cB (cB kT))) (qJ X re im j) (qJ X re im (j+1))=some ([aD .add .i64 (Int.ofNat j) 1=some (iI (j+1))],.nrm,qJ X re im (j+1)):=by kernel_rfl
theorem aAt (X re im:Nat→Int) (j:Nat):aH prog (qG prog) f24.ntmps (cG fun _=>none) 40 (cA (cB kT)) (.slot 29 (.im (.bool false))::qJ X re im j) (qJ X re im j)=some ([],.ex 2,qJ X re im j):=by kernel_rfl
theorem Tx (X re im:Nat→Int) (j:Nat):aH prog (qG prog) f24.ntmps (cG fun _=>none) 40 (cA (cB kT)) (.slot 29 (.im (.bool true))::qJ X re im j) (qJ X re im j)=some ([],.nrm,qJ X re im j):=by kernel_rfl
theorem aAs (X re im:Nat→Int) (j:Nat):aH prog (qG prog) f24.ntmps (cG fun _=>none) 40 (cB BY) (qJ X re im j) (DD re im 0)=some ([],.rt,DD re im 0):=by kernel_rfl
def uJ (m:Nat):Int:=if m=0 then 1 else if m=2 then -1 else 0
def uS (m:Nat):Int:=if m=1 then -1 else if m=3 then 1 else 0
def kU (c:Nat→Int) (X:Nat→Int) (j:Nat):Nat→Int
 | 0=>0
 | k+1=>kU c X j k+X k*c (j*k%4)
theorem flR:∀m,FL (uJ m) (NL m).1:=fun m=>by
 have h1:FL 1 4607182418800017408:=FL.ofInt (z:=1) (by decide);have h2:FL (-1) 13830554455654793216:=FL.ofInt (z:=-1) (by decide);have h3:FL 0 0:=FL.ofInt (z:=0) (by decide);unfold uJ NL
 by_cases e0:m=0
 ·rw[if_pos e0,if_pos e0]; exact h1
 ·rw[if_neg e0,if_neg e0]
  by_cases e1:m=1
  ·rw[if_pos e1,if_neg (by omega)]; exact h3
  ·rw[if_neg e1]
   by_cases e2:m=2
   ·rw[if_pos e2,if_pos e2]; exact h2
   ·rw[if_neg e2,if_neg e2]; exact h3
theorem flI:∀m,m<4→FL (uS m) (NL m).2:=fun m hm=>by
 have h1:FL 1 4607182418800017408:=FL.ofInt (z:=1) (by decide);have h2:FL (-1) 13830554455654793216:=FL.ofInt (z:=-1) (by decide);have h3:FL 0 0:=FL.ofInt (z:=0) (by decide)
 match m,hm with
 | 0,_=>exact h3
 | 1,_=>exact h2
 | 2,_=>exact h3
 | 3,_=>exact h1
theorem SX (m:Nat) (z:Int) (h:z.natAbs≤1099511627776):(z*uJ m).natAbs≤1099511627776:=by
 unfold uJ;split
 ·rw[Int.mul_one]; exact h
 ·split
  ·rw[Int.mul_neg,Int.mul_one,Int.natAbs_neg]; exact h
  ·rw[Int.mul_zero]; decide
theorem SY (m:Nat) (z:Int) (h:z.natAbs≤1099511627776):(z*uS m).natAbs≤1099511627776:=by
 unfold uS;split
 ·rw[Int.mul_neg,Int.mul_one,Int.natAbs_neg]; exact h
 ·split
  ·rw[Int.mul_one]; exact h
  ·rw[Int.mul_zero]; decide
theorem zN {c:Nat→Int} {X:Nat→Int} {j:Nat} (hc:∀m z,z.natAbs≤1099511627776→(z*c m).natAbs≤1099511627776) (hX:∀k,k<4→(X k).natAbs≤1099511627776):∀k,k≤4→(kU c X j k).natAbs≤k*1099511627776
 | 0,_=>by show (0:Int).natAbs≤0*_; simp
 | k+1,h=>by
  have h1:=zN hc hX (j:=j) k (by omega);have h2:=hc (j*k%4) (X k) (hX k (by omega));show (kU c X j k+X k*c (j*k%4)).natAbs≤_;omega
def uX (X:Nat→Int):Prop:=∀k,k<4 → -1099511627776≤X k∧X k≤1099511627776
instance (X:Nat→Int):Decidable (uX X):=Nat.decidableBallLT 4 fun k _ => -1099511627776≤X k∧X k≤1099511627776
theorem eN {a b:Int}:aD .lss .i64 a b=some (.bool (decide (a<b))):=rfl
theorem kS {a b:Int}:aD .gtr .i64 a b=some (.bool (decide (a>b))):=rfl
theorem mC {i:Nat} (h:i<4):aD .lss .i64 (Int.ofNat i) 4=some (.bool true):=bV (n:=4) h
theorem xY {i:Nat} (h:4≤i):aD .lss .i64 (Int.ofNat i) 4=some (.bool false):=dI (n:=4) h
theorem Ig {i:Nat}:aD .rem .i64 (Int.ofNat i) 4=some (iI (i%4)):=by
 show (if (4:Int)=0 then none else some (Value.int .i64 ((Int.ofNat i).tmod 4)))=_;rw[if_neg (by decide)];rfl
theorem aAx {z:Int} (w:World):(convert 3 88 (iV z)).run prog w=.ok (.float .f64 (floatOfInt .f64 z)) w:=by
 exact run_convert_int_float w 3 88 .i64 .f64 z (by kernel_rfl) (by kernel_rfl)
theorem Uu {z:Int} {b:Nat} (h:FL z b) (hz:z.natAbs<2^53) (w:World):(convert 88 3 (.float .f64 b)).run prog w=.ok (iV z) w :=
 run_convert_float_int w 88 3 .f64 .i64 b z (by kernel_rfl) (by kernel_rfl) (h.toInt hz)
theorem VC (t:Nat) (x y:Operand) {a b c:Nat×Nat} (h:cMulBits a.1 a.2 b.1 b.2=some c):dD .mul t x y (cV a) (cV b) (cV c):=fun w=>by
 have:=run_complex_mul (P:=prog) w t a.1 a.2 b.1 b.2 c.1 c.2 h;simp[eqGuard,cV,this]
theorem VD (t:Nat) (x y:Operand) {a b c:Nat×Nat} (h:cSumBits .add .f64 a.1 a.2 b.1 b.2=some c):dD .add t x y (cV a) (cV b) (cV c):=fun w=>by
 have:=run_complex_sum (P:=prog) w .add (Or.inl rfl) t .f64 a.1 a.2 b.1 b.2 c.1 c.2 h;simp[eqGuard,cV,this]
theorem Ks {w0:World} {X re im:Nat→Int} {j:Nat} {Q:Exit→Act→World→Prop} (hj:j<4) (hX:∀k,k<4→(X k).natAbs≤1099511627776) {a:Act} {w:World} (hA:Holds f24.ntmps w0.heap.size w0 (MX X re im j (0,0) 0) a w)
  (hQ:∀S a w,FL (kU uJ X j 4) S.1→FL (kU uS X j 4) S.2→Holds f24.ntmps w0.heap.size w0 (MX X re im j S 4) a w→Q (.exit 4) a w):(Code.loop Ai).wp prog Q a w:=by
 have hG:bH prog (qG prog) w0.heap.size w0:=(aY _).w _ _;have hT:∀n d:Nat,TabOkW prog dW w0.heap.size w0:=fun _ _=>bG.w _ _
 refine mD (fun k a w=>∃S:Nat×Nat,FL (kU uJ X j k) S.1∧FL (kU uS X j k) S.2∧Holds f24.ntmps w0.heap.size w0 (MX X re im j S k) a w) 4 (fun k hk a w hI R hR => ?_) (fun a w hI R => ?_) ⟨(0,0),FL.ofInt (z:=0) (by decide),FL.ofInt (z:=0) (by decide),hA⟩
 ·obtain⟨S,f1,f2,hA⟩:=hI;have hz:=hX k hk;have hm:j*k%4<4:=Nat.mod_lt _ (by omega);have b1:=SX (j*k%4) (X k) hz;have b2:=SY (j*k%4) (X k) hz;have s1:=zN (c:=uJ) SX hX (j:=j) (k+1) (by omega);have s2:=zN (c:=uS) SY hX (j:=j) (k+1) (by omega);obtain⟨x,y,q1,g1,g2⟩:=FL.cmul (FL.ofInt (z:=X k) (by omega)) (FL.ofInt (z:=0) (by decide)) (flR (j*k%4)) (flI (j*k%4) hm) (by omega) (by omega);obtain⟨x',y',q2,g3,g4⟩:=FL.csum f1 f2 g1 g2 (by show (kU uJ X j (k+1)).natAbs<_; omega) (by show (kU uS X j (k+1)).natAbs<_; omega);have hjk:j*k≤3*3:=Nat.mul_le_mul (by omega) (by omega);exact aA aG hT (GU _ _ _ _ _ _) (Ud X re im j k (j*k%4) (floatOfInt .f64 (X k)) (X k) S (x,y) (x',y')) ⟨mC hk,hk,GV hk,fun w=>aAx w,fun w=>rfl,IK (by omega),Ig,rfl,hm,Nv hm,VC _ _ _ q1,VD _ _ _ q2,eT (k:=1) (by omega),trivial⟩ hA fun a w hA=>hR a w ⟨(x',y'),g3,g4,hA⟩
 ·obtain⟨S,f1,f2,hA⟩:=hI;exact aA aG hT hG (Ue X re im j S 4) ⟨xY (Nat.le_refl _),trivial⟩ hA fun a w hA=>hQ S a w f1 f2 hA
def RU (c:Nat→Int) (X:Nat→Int) (j:Nat):Nat→Int
 | i=>if i<j then kU c X i 4 else 0
theorem JJ {c X:Nat→Int} {j:Nat} (hj:j<4):put (x4 (RU c X j)) (0+j*1) [.c (iV (kU c X j 4))]=some (x4 (RU c X (j+1))):=by
 rw[Ev hj];have e:∀i,(if i=j then kU c X j 4 else RU c X j i)=RU c X (j+1) i:=fun i=>by
  unfold RU
  by_cases h:i=j
  ·rw[if_pos h,if_pos (by omega),h]
  ·rw[if_neg h]
   by_cases h2:i<j
   ·rw[if_pos h2,if_pos (by omega)]
   ·rw[if_neg h2,if_neg (by omega)]
 rw[show (fun i=>if i=j then kU c X j 4 else RU c X j i)=RU c X (j+1)from funext e]
theorem tW (X:Nat→Int) (w0:World) :
  (uX X→Good prog 24 (.many [.fl (x4 fun j=>kU uJ X j 4),.fl (x4 fun j=>kU uS X j 4),.im (iV 0)]) [.agg (aB (x4 X)).toArray] w0) ∧
  (¬uX X→Good prog 24 (.many [.fl (x4 z4),.fl (x4 z4),.im (iV 4)]) [.agg (aB (x4 X)).toArray] w0):=by
 have hG:bH prog (qG prog) w0.heap.size w0:=(aY _).w _ _;have hT:∀n d:Nat,TabOkW prog dW w0.heap.size w0:=fun _ _=>bG.w _ _
 have first:∀R:Ending→World→Prop,(∀a w,Holds f24.ntmps w0.heap.size w0 (JK X 0) a w→(Code.loop BX).wp prog (fun e a w=>match e with | .exit 0=>(Code.seq (cA Ak) (.seq (cA Aj) (.seq (.seq (cA (cA BY)) (.block 2 (.loop kT))) (cB BY)))).wp prog (bodyPost prog f24 R) a w | .ret=>bodyPost prog f24 R .ret a w|_=>False) a w)→Calls prog 24 #[.agg (aB (x4 X)).toArray] w0 R:=fun R hR=>by
  refine bJ func24 (cs:=[.v (.fl (x4 X))]) (args:=[.agg (aB (x4 X)).toArray]) (c:=tU) rfl ⟨rfl,trivial⟩ (Nat.le_of_ble_eq_true (by kernel_rfl)) fun a w1 hA => ?_
  rw[Ah];refine wp_seq (aA aG hT hG (Tv X) trivial hA fun a w1 hA => ?_);refine wp_seq (wp_seq (aA aG hT hG (Tu X) trivial hA fun a w1 hA => ?_));refine wp_block ?_;refine Code.wp_mono (fun e a w h => ?_) (hR a w1 hA);cases e with
  | exit id =>
   cases id with
   | zero=>exact h
   | succ k=>exact h.elim
  | ret=>exact h
  | _=>exact h.elim
 have step:∀i,i<4→(-1099511627776≤X i∧X i≤1099511627776)→Ok prog w0.heap.size w0 f24.ntmps BX (JK X i) .nrm (JK X (i+1)):=fun i hi hr =>
  ⟨_,_,_,_,eP _ _ _,hT,Tw X i (X i),mC hi,hi,GV hi,by rw[eN,decide_eq_false (by omega)],by rw[kS,decide_eq_false (by omega)],eT (k:=1) (by omega),trivial⟩
 refine⟨fun h=>first _ fun a w hA => ?_,fun h=>first _ fun a w hA => ?_⟩
 ·refine cE aG (fun i=>JK X i) 4 (fun i hi=>step i hi (h i hi)) (.ex 0) (by simp) (BZ X) ⟨_,_,_,_,hG,hT,Uf X 4,xY (Nat.le_refl _),trivial⟩ hA fun a w hA => ?_
  show (Code.seq _ _).wp _ _ _ _;refine wp_seq (aA aG hT hG (Tt X) trivial hA fun a w hA => ?_);refine wp_seq (aA aG hT hG (Ts X) trivial hA fun a w hA => ?_);refine wp_seq (wp_seq (aA aG hT hG (Tr X z4 z4) trivial hA fun a w hA => ?_));refine wp_block ?_;have hX:∀k,k<4→(X k).natAbs≤1099511627776:=fun k hk=>by have:=h k hk; omega
  refine mD (fun j a w=>Holds f24.ntmps w0.heap.size w0 (qJ X (RU uJ X j) (RU uS X j) j) a w) 4 (fun j hj a w hA R hR => ?_) (fun a w hA R => ?_) (by exact hA)
  ·rw[RT];refine wp_seq (aA aG hT hG (Ug X _ _ j true) ⟨mC hj,trivial⟩ hA fun a w hA => ?_);refine wp_seq (aA aG hT hG (Tx X _ _ j) trivial hA fun a w hA => ?_);refine wp_seq (wp_block (wp_seq (aA aG hT hG (Uc X _ _ j) trivial hA fun a w hA => ?_)));refine wp_seq (aA aG hT hG (Ub X _ _ j) trivial hA fun a w hA => ?_);refine wp_seq (wp_seq (aA aG hT hG (Ua X _ _ j) trivial hA fun a w hA => ?_));refine wp_block (Ks hj hX hA fun S a w f1 f2 hA => ?_);have s1:=zN (c:=uJ) SX hX (j:=j) 4 (by omega);have s2:=zN (c:=uS) SY hX (j:=j) 4 (by omega);show (cB (cB (cB mY))).wp _ _ _ _;refine aA aG hT (GU _ _ _ _ _ _) (Tz X _ _ (RU uJ X (j+1)) (RU uS X (j+1)) j S 4 (kU uJ X j 4) (kU uS X j 4)) ⟨fun w=>rfl,fun w=>Uu f1 (by omega) w,fun w=>rfl,fun w=>Uu f2 (by omega) w,rfl,hj,JJ hj,rfl,hj,JJ hj,trivial⟩ hA fun a w hA => ?_
   show (cB (cB (cB kT))).wp _ _ _ _;exact aA aG hT hG (Ty X _ _ j) ⟨eT (k:=1) (by omega),trivial⟩ hA fun a w hA=>hR a w hA
  ·rw[RT];refine wp_seq (aA aG hT hG (Ug X _ _ 4 false) ⟨xY (Nat.le_refl _),trivial⟩ hA fun a w hA => ?_);refine wp_seq (aA aG hT hG (aAt X _ _ 4) trivial hA fun a w hA => ?_);show (cB BY).wp _ _ _ _;exact aA aG hT hG (aAs X _ _ 4) trivial hA fun a w hA=>aW (l:=[.fl (x4 fun j=>kU uJ X j 4),.fl (x4 fun j=>kU uS X j 4),.im (iV 0)]) (r:=.many [.fl (x4 fun j=>kU uJ X j 4),.fl (x4 fun j=>kU uS X j 4),.im (iV 0)]) (by kernel_rfl) (by kernel_rfl) hA
 ·obtain⟨j,hj,h1,h2⟩:=eH (p:=fun k => -1099511627776≤X k∧X k≤1099511627776) h;have hbad:Ok prog w0.heap.size w0 f24.ntmps BX (JK X j) .rt (DD z4 z4 4):=by
   by_cases q:X j < -1099511627776
   ·exact⟨_,_,_,_,eP _ _ _,hT,Ui X j (X j),mC hj,hj,GV hj,by rw[eN,decide_eq_true q],trivial⟩
   ·exact⟨_,_,_,_,eP _ _ _,hT,Uh X j (X j),mC hj,hj,GV hj,by rw[eN,decide_eq_false q],by rw[kS,decide_eq_true (by omega)],trivial⟩
  refine cE aG (fun i=>JK X i) j (fun i hi=>step i (by omega) (h1 i hi)) .rt (by simp) (DD z4 z4 4) hbad hA fun a w hA => ?_
  exact aW (l:=[.fl (x4 z4),.fl (x4 z4),.im (iV 4)]) (r:=.many [.fl (x4 z4),.fl (x4 z4),.im (iV 4)]) (by kernel_rfl) (by kernel_rfl) hA
def eD (z m:Int):Bool:=decide (0≤z)&&decide (z≤m)
theorem WS (z m:Int):eU prog (qG prog) (cG (aE [(6,.bool false)])) f54 40 [.v (.im (iV z)),.v (.im (iV m))]=some ([aD .leq .i64 0 z=some (.bool false)],.one (.im (.bool false))):=by kernel_rfl
theorem WR (z m:Int) (b:Bool):eU prog (qG prog) (cG (aE [(6,.bool true),(10,.bool b)])) f54 40 [.v (.im (iV z)),.v (.im (iV m))]=some ([aD .leq .i64 0 z=some (.bool true),aD .leq .i64 z m=some (.bool b)],.one (.im (.bool b))):=by kernel_rfl
theorem SN (z m:Int) (args:List Value) (w:World) (ha:cF w [.v (.im (iV z)),.v (.im (iV m))] args):Good prog 54 (.one (.im (.bool (eD z m)))) args w:=by
 unfold eD
 by_cases h:0≤z
 ·rw[decide_eq_true h,Bool.true_and];exact bW aG (fun _ _=>bG) (aY _) func54 (WR z m _) ⟨by show some (Value.bool (decide ((0:Int)≤z)))=_; rw[decide_eq_true h],rfl,trivial⟩ ha
 ·rw[decide_eq_false h,Bool.false_and];exact bW aG (fun _ _=>bG) (aY _) func54 (WS z m) ⟨by show some (Value.bool (decide ((0:Int)≤z)))=_; rw[decide_eq_false h],trivial⟩ ha
def gDm:iR
 | [.v (.im (.int .i64 z)),.v (.im (.int .i64 m))]=>some ([],.one (.im (.bool (eD z m))))
 | _=>none
theorem Kk:∀cs pre r,gDm cs=some (pre,r)→aQ pre→∀(args:List Value) (w:World),cF w cs args→Good prog 54 r args w:=by
 intro cs pre r hg hp args w ha;unfold gDm at hg;split at hg
 ·cases hg; exact SN _ _ args w ha
 ·cases hg
def cJ (log:Nat):Nat:=gJ 5 ((RM-1)/2^log)
def Ke:iR
 | [.v (.im (.int .i64 2))]=>some ([],.one (.fl [.q RM]))
 | _=>none
theorem ZU:∀cs pre r,Ke cs=some (pre,r)→aQ pre→∀(args:List Value) (w:World),cF w cs args→Good prog 74 r args w:=by
 intro cs pre r hg hp args w ha;unfold Ke at hg;split at hg
 ·cases hg
  match args,ha with
  | [u],ha =>
   have h1:u=.int .i64 2:=ha.1;subst h1;refine (vB 2 _ nT w).mono ?_
   rintro e w' ⟨rfl,hb⟩
   exact⟨by kernel_rfl,hb⟩
  | [],ha=>exact ha.elim
  | _::_::_,ha=>exact ha.2.elim
 ·cases hg
def Jt:iR
 | [.v (.fl l),.v (.fl m)]=>match jQ l,jQ m with
  | some x,some y=>some ([x<aT,y≤x],.many [.fl [.q (x-y)],.im (.int .u64 0)])
  | _,_=>none
 | _=>none
theorem ZP:∀cs pre r,Jt cs=some (pre,r)→aQ pre→∀(args:List Value) (w:World),cF w cs args→Good prog 73 r args w:=by
 intro cs pre r hg hp args w ha;unfold Jt at hg;split at hg
 ·rename_i l m;split at hg
  ·rename_i x y hx hy;cases hg
   match args,ha with
   | [v,u],ha =>
    have h1:v=.agg (aB l).toArray:=ha.1;have h2:u=.agg (aB m).toArray:=ha.2.1;rw[bL l _ hx]at h1;rw[bL m _ hy]at h2;subst h1; subst h2;have hxl:x<aT:=hp.1;have hyx:y≤x:=hp.2.1;refine (vE _ _ _ _ _ _ _ _ (dY x) (dY y) w).mono ?_
    rintro e w' ⟨s0,s1,s2,s3,c,rfl,hs,hc,hv,hb⟩
    rw[fZ hxl,fZ (Nat.lt_of_le_of_lt hyx hxl)]at hv;have hlt:=dE hs;obtain⟨rfl,hv2⟩:c=0∧aC s0 s1 s2 s3=x-y:=by
     rcases (show c=0∨c=1 by omega)with h|h
     ·subst h; exact⟨rfl,by omega⟩
     ·subst h; omega
    obtain⟨rfl,rfl,rfl,rfl⟩:=jW hs (show x-y<aT by omega) hv2;exact⟨rfl,hb⟩
   | [],ha=>exact ha.elim
   | [_],ha=>exact ha.2.elim
   | _::_::_::_,ha=>exact ha.2.2.elim
  ·cases hg
 ·cases hg
def Jp:iR
 | [.v (.fl l),.v (.im (.int .i64 (.ofNat k)))]=>match jQ l with
  | some n=>some ([n<aT,k<9223372036854775808],.one (.fl [.q (n/2^k)]))
  | none=>none
 | _=>none
theorem ZM:∀cs pre r,Jp cs=some (pre,r)→aQ pre→∀(args:List Value) (w:World),cF w cs args→Good prog 76 r args w:=by
 intro cs pre r hg hp args w ha;unfold Jp at hg;split at hg
 ·rename_i l k;split at hg
  ·rename_i n hn;cases hg
   match args,ha with
   | [v,u],ha =>
    have h1:v=.agg (aB l).toArray:=ha.1;have h2:u=.int .i64 (Int.ofNat k):=ha.2.1;rw[bL l _ hn]at h1;subst h1; subst h2;have hk:k<9223372036854775808:=hp.2.1;have h:=KO _ _ _ _ (Int.ofNat k) (dY n) (by simp) (by simp; omega) w;rw[fZ hp.1]at h;refine h.mono ?_
    rintro e w' ⟨s0,s1,s2,s3,rfl,hs,hv,hb⟩
    obtain⟨rfl,rfl,rfl,rfl⟩:=jW (x:=n/2^k) hs (Nat.lt_of_le_of_lt (Nat.div_le_self _ _) hp.1) hv;exact⟨rfl,hb⟩
   | [],ha=>exact ha.elim
   | [_],ha=>exact ha.2.elim
   | _::_::_::_,ha=>exact ha.2.2.elim
  ·cases hg
 ·cases hg
def Md:Tab:=(((dW.add 54 gDm).add 74 Ke).add 73 Jt).add 76 Jp
theorem De:TabOk prog Md:=(((bG.add func54 (by kernel_rfl) (by kernel_rfl) Kk).add func74 (by kernel_rfl) (by kernel_rfl) ZU).add func73 (by kernel_rfl) (by kernel_rfl) ZP).add func76 (by kernel_rfl) (by kernel_rfl) ZM
theorem Gj (log:Nat):yK prog Md (qG prog) (fun _=>true) f37 40 [.v (.im (iI log))]=some ([RM<aT,1≤RM,5<18446744073709551616,RM-1<aT,log<9223372036854775808,5<RM,(RM-1)/2^log<aT],.one (.fl [.q (cJ log)])):=by kernel_rfl
theorem OP {log:Nat} (h:log<9223372036854775808) (args:List Value) (w:World) (ha:cF w [.v (.im (iI log))] args):Good prog 37 (.one (.fl [.q (cJ log)])) args w :=
 fS aG De (aY _) func37 (Gj log) ⟨by decide,by decide,by omega,by decide,h,by decide,Nat.lt_of_le_of_lt (Nat.div_le_self _ _) (by decide),trivial⟩ ha
def gRt:iR
 | [.v (.im (.int .i64 (.ofNat log)))]=>some ([log<9223372036854775808],.one (.fl [.q (cJ log)]))
 | _=>none
theorem Jw:∀cs pre r,gRt cs=some (pre,r)→aQ pre→∀(args:List Value) (w:World),cF w cs args→Good prog 37 r args w:=by
 intro cs pre r hg hp args w ha;unfold gRt at hg;split at hg
 ·cases hg; exact OP hp.1 args w ha
 ·cases hg
def yZ:Tab:=Md.add 37 gRt
theorem qC:TabOk prog yZ:=De.add func37 (by kernel_rfl) (by kernel_rfl) Jw
def gX (N:Nat) (f:Nat→Nat) (z:Int) (x:Nat):Int:=if fH N f x≠0 then fH N f x else if eD z 16=false then 71 else if x=0 then 22 else 0
def dQ:Code:=(f32.body).getD .skip
theorem Bn:dQ=.seq (cA dQ) (.seq (.seq (.region 1 (aO (cA (cA (cB dQ)))) false) (cB (cA (cB dQ)))) (cB (cB dQ))):=by kernel_rfl
def JU (v:Value) (z:Int) (x:Nat):List Fact:=[.slot 0 (.im v),.slot 1 (.im (iV z)),.slot 5 (.pt 5 0),.row 5 true [.q x]]
def Vp (v:Value) (z:Int) (x:Nat):List Fact:=.slot 8 (.im v) :: .slot 10 (.sl 10 0 1 1) :: .row 10 true [.q x]::JU v z x
def Ej (v:Value) (z:Int) (x b:Nat):List Fact:=.slot 11 (.sl 11 0 2 2) :: .row 11 true [.c v,.c (aZ b 0 1 1)] :: .row 10 true [.q x] :: .at 10 b::JU v z x
def Pt (h:Bool) (num:Nat→Option Value) (_:Nat):Cfg:=⟨fun _=>yZ,fun _=>h,num⟩
theorem Vo (v:Value) (z:Int) (x:Nat):aH prog (qG prog) f32.ntmps (cG fun _=>none) 40 (cA dQ) (eF 0 [.v (.im v),.v (.im (iV z)),.v (.fl [.q x])]) (JU v z x)=some ([],.nrm,JU v z x):=by kernel_rfl
theorem Vn (p:Option Addr) (N m:Nat) (z:Int) (x:Nat):dR prog (qG prog) f32.ntmps bX ((aO (cA (cA (cB dQ)))).extract 0 3) (JU (.slice p N m) z x) (Vp (.slice p N m) z x)=some ([],Vp (.slice p N m) z x):=by kernel_rfl
theorem Vm (p:Option Addr) (N m:Nat) (z:Int) (x b:Nat):dR prog (qG prog) f32.ntmps bX ((aO (cA (cA (cB dQ)))).extract 3 4) (.slot 10 (.im (aZ b 0 1 1)) :: .at 10 b::Vp (.slice p N m) z x) (Ej (.slice p N m) z x b)=some ([],Ej (.slice p N m) z x b):=by kernel_rfl
theorem Vl (v:Value) (z:Int) (x b:Nat) (e:Int):dR prog (qG prog) f32.ntmps bX ((aO (cA (cA (cB dQ)))).extract 5 6) (.slot 12 (.im (.int .i64 e))::Ej v z x b) (.slot 7 (.im (.int .i64 e))::JU v z x)=some ([],.slot 7 (.im (.int .i64 e))::JU v z x):=by kernel_rfl
theorem Lr (v:Value) (z:Int) (x:Nat) (e:Int):aH prog (qG prog) f32.ntmps (cG (aE [(14,.bool true)])) 40 (cB (cA (cB dQ))) (.slot 7 (.im (.int .i64 e))::JU v z x) [.slot 6 (.im (.int .i64 e))]=some ([aD .neq .i64 e 0=some (.bool true)],.rt,[.slot 6 (.im (.int .i64 e))]):=by kernel_rfl
theorem Bm (v:Value) (z:Int) (x:Nat):aH prog (qG prog) f32.ntmps (cG fun _=>none) 40 (cB (cA (cB dQ))) (.slot 7 (.im (.int .i64 0))::JU v z x) (JU v z x)=some ([],.nrm,JU v z x):=by kernel_rfl
theorem aAC (v:Value) (z:Int) (x:Nat):aH prog (qG prog) f32.ntmps (Pt true (aE [(18,.bool true)])) 40 (cB (cB dQ)) (JU v z x) [.slot 6 (.im (.int .i64 71))]=some ([Value.bool (!eD z 16)=.bool true],.rt,[.slot 6 (.im (.int .i64 71))]):=by kernel_rfl
theorem aAA (v:Value) (z:Int) (x:Nat):aH prog (qG prog) f32.ntmps (Pt true (aE [(18,.bool false)])) 40 (cB (cB dQ)) (JU v z x) [.slot 6 (.im (.int .i64 22))]=some ([Value.bool (!eD z 16)=.bool false,aB [.q x]=aB [.f ⟨0,cY⟩]],.rt,[.slot 6 (.im (.int .i64 22))]):=by kernel_rfl
theorem aAB (v:Value) (z:Int) (x:Nat):aH prog (qG prog) f32.ntmps (Pt false (aE [(18,.bool false)])) 40 (cB (cB dQ)) (JU v z x) [.slot 6 (.im (.int .i64 0))]=some ([Value.bool (!eD z 16)=.bool false,aB [.q x]≠aB [.f ⟨0,cY⟩]],.rt,[.slot 6 (.im (.int .i64 0))]):=by kernel_rfl
theorem ST {w0:World} {v:Value} {N x:Nat} {f:Nat→Nat} {z:Int} (hv:LV w0 v N f) (hN:N≤4611686018427387904) (hx:x<aT):Good prog 32 (.one (.im (.int .i64 (gX N f z x)))) [v,iV z,.agg (aB [At.q x]).toArray] w0:=by
 have hG:bH prog (qG prog) w0.heap.size w0:=(aY _).w _ _;have hT:∀n d:Nat,TabOkW prog dW w0.heap.size w0:=fun _ _=>bG.w _ _
 have hR:∀n d:Nat,TabOkW prog yZ w0.heap.size w0:=fun _ _=>qC.w _ _
 obtain⟨p0,m0,rfl,hm0,h256,hmem⟩:=id hv;refine bJ func32 (cs:=[.v (.im (.slice p0 N m0)),.v (.im (iV z)),.v (.fl [.q x])]) (args:=[.slice p0 N m0,iV z,.agg (aB [At.q x]).toArray]) (c:=dQ) rfl ⟨rfl,rfl,rfl,trivial⟩ (Nat.le_of_ble_eq_true (by kernel_rfl)) fun a w1 hA => ?_
 rw[Bn];refine wp_seq (aA aG hT hG (Vo _ z x) trivial hA fun a w1 hA => ?_);refine wp_seq (wp_seq (cD (l:=List.range' 0 ((aO (cA (cA (cB dQ)))).extract 0 3).size++(List.range' 3 ((aO (cA (cA (cB dQ)))).extract 3 4).size++(4::(List.range' 5 ((aO (cA (cA (cB dQ)))).extract 5 6).size++[])))) (by kernel_rfl) ?_));refine aL (c:=bX) (hT 0) hG (Vn p0 N m0 z x) trivial (by kernel_rfl) hA fun a w1 hA => ?_
 obtain⟨b,hA⟩:=hA.at (k:=10) (l:=[.q x]) (by simp[Vp]);have hA:=hA.im (s:=10) (k:=10) (o:=0) (n:=1) (m:=1) (b:=b) (by simp[Vp]) (by simp);refine aL (c:=bX) (hT 0) hG (Vm p0 N m0 z x b) trivial (by kernel_rfl) hA fun a w1 hA => ?_
 obtain⟨b2,hB⟩:=hA.at (k:=11) (l:=[.c (.slice p0 N m0),.c (aZ b 0 1 1)]) (by simp[Ej]);have h11:=(hB.im (s:=11) (k:=11) (o:=0) (n:=2) (m:=2) (b:=b2) (by simp[Ej]) (by simp)).slot (s:=11) (v:=aZ b2 0 2 2) (by simp);have o1:oldOf w1 b 0 [.q x]:=hA.old (k:=10) (by simp[Ej]) (by simp[Ej]);have o2:oldOf w1 b2 0 [.c (.slice p0 N m0),.c (aZ b 0 1 1)]:=hB.old (k:=11) (by simp[Ej]) (by simp);obtain⟨o,ho,hoo,hod,hog⟩:∃o,(aO (cA (cA (cB dQ))))[4]?=some o∧(∃ts,o.op=.call ⟨.value (.func 51),#[.tmp 11],ts⟩)∧o.dst=some 12∧o.guard=none:=⟨_,rfl,⟨_,rfl⟩,rfl,rfl⟩
 obtain⟨ts,hoo⟩:=hoo;refine dJ ho hog (iE hoo (vs:=[aZ b2 0 2 2]) (by simp[Act.eval,h11]) (fun args=>bK func51 (by kernel_rfl) (by kernel_rfl) args _) (CL (hv.on hA.below) hN hx o1 o2) fun w2 hb => ?_);rw[hod];have hA:=hA.put hb (d:=12) (Nat.le_of_ble_eq_true (by kernel_rfl)) (.im (.int .i64 (fH N f x))) (kH (by kernel_rfl));refine aL (c:=bX) (hT 0) hG (Vl _ z x b _) trivial (by kernel_rfl) hA fun a w1 hA => ?_
 show (cB (cA (cB dQ))).wp _ _ _ _;unfold gX
 by_cases he:fH N f x=0
 ·rw[if_neg (fun q=>q he)];rw[he]at hA;refine aA aG hT hG (Bm _ z x) trivial hA fun a w1 hA => ?_
  show (cB (cB dQ)).wp _ _ _ _
  by_cases hd:eD z 16=false
  ·rw[if_pos hd];exact aA aG hR hG (aAC _ z x) ⟨by rw[hd]; rfl,trivial⟩ hA fun a w' hA=>aW (l:=[.im (.int .i64 71)]) (r:=.one (.im (.int .i64 71))) (by kernel_rfl) (by kernel_rfl) hA
  ·rw[if_neg hd];have hd2:eD z 16=true:=by simpa using hd
   by_cases hz:x=0
   ·rw[if_pos hz];exact aA aG hR hG (aAA _ z x) ⟨by rw[hd2]; rfl,(iS hx).2 hz,trivial⟩ hA fun a w' hA=>aW (l:=[.im (.int .i64 22)]) (r:=.one (.im (.int .i64 22))) (by kernel_rfl) (by kernel_rfl) hA
   ·rw[if_neg hz];exact aA aG (fun _ _=>qC.w _ _) hG (aAB _ z x) ⟨by rw[hd2]; rfl,fun h=>hz ((iS hx).1 h),trivial⟩ hA fun a w' hA=>aW (l:=[.im (.int .i64 0)]) (r:=.one (.im (.int .i64 0))) (by kernel_rfl) (by kernel_rfl) hA
 ·rw[if_pos he];exact aA aG hT hG (Lr _ z x _) ⟨tG he,trivial⟩ hA fun a w' hA=>aW (l:=[.im (.int .i64 (fH N f x))]) (r:=.one (.im (.int .i64 (fH N f x)))) (by kernel_rfl) (by kernel_rfl) hA
def LZ (v:Value) (N:Nat) (f:Nat→Nat):iR
 | [.v (.im u),.v (.im (.int .i64 z)),.v (.fl l)]=>match jQ l with
  | some x=>some ([u=v,x<aT],.one (.im (.int .i64 (gX N f z x))))
  | none=>none
 | _=>none
theorem JI {w:World} {v:Value} {N:Nat} {f:Nat→Nat} (hv:LV w v N f) (hN:N≤4611686018427387904):∀cs pre r,LZ v N f cs=some (pre,r)→aQ pre→∀(args:List Value),cF w cs args→Good prog 32 r args w:=by
 intro cs pre r hg hp args ha;unfold LZ at hg;split at hg
 ·rename_i u z l;split at hg
  ·rename_i x hx;cases hg
   match args,ha with
   | [a1,a2,a3],ha =>
    have h1:a1=u:=ha.1;have h2:a2=iV z:=ha.2.1;have h3:a3=.agg (aB l).toArray:=ha.2.2.1;rw[bL l x hx]at h3;have h4:=hp.1;subst h1; subst h2; subst h3; subst h4;exact ST hv hN hp.2.1
   | [],ha=>exact ha.elim
   | [_],ha=>exact ha.2.elim
   | [_,_],ha=>exact ha.2.2.elim
   | _::_::_::_::_,ha=>exact ha.2.2.2.elim
  ·cases hg
 ·cases hg
def Jb (v:Value) (N:Nat) (f:Nat→Nat):List CA→Option (List Prop×FR)
 | [.v (.im u),.v (.fl l),.v (.fl m)]=>match jQ l,jQ m with
  | some x,some y=>some ([u=v,x<RM,y<RM],⟨aR (el (DA f x y)) 0 N,N,N,[]⟩)
  | _,_=>none
 | _=>none
theorem YZ {w:World} {v:Value} {N:Nat} {f:Nat→Nat} (hv:LV w v N f) (hN:N≤131072) (hf:bT N f):∀cs pre r,Jb v N f cs=some (pre,r)→aQ pre→∀(args:List Value),cF w cs args→Calls prog 35 args.toArray w (fun e w'=>r.ok w e w'):=by
 intro cs pre r hg hp args ha;unfold Jb at hg;split at hg
 ·rename_i u l m;split at hg
  ·rename_i x y hx hy;cases hg
   match args,ha with
   | [a1,a2,a3],ha =>
    have h1:a1=u:=ha.1;have h2:a2=.agg (aB l).toArray:=ha.2.1;have h3:a3=.agg (aB m).toArray:=ha.2.2.1;rw[bL l x hx]at h2;rw[bL m y hy]at h3;have h4:=hp.1;subst h1; subst h2; subst h3; subst h4;exact zF hv hN hf hp.2.1 hp.2.2.1
   | [],ha=>exact ha.elim
   | [_],ha=>exact ha.2.elim
   | [_,_],ha=>exact ha.2.2.elim
   | _::_::_::_::_,ha=>exact ha.2.2.2.elim
  ·cases hg
 ·cases hg
def Jl (N:Nat) (f:Nat→Nat):List CA→Option (List Prop×FR)
 | [.s l n m,.v (.im (.int .i64 (.ofNat log))),.v (.fl r)]=>match jQ r with
  | some x=>some ([aB l=aB (aR (el f) 0 N),n=N,N≤m,bT N f,log≤16,x<RM],⟨aR (el (zD (qS N f log) (2^log) (fE 1 x) log)) 0 (2^log),2^log,2^log,[]⟩)
  | none=>none
 | _=>none
theorem ZJ {N:Nat} {f:Nat→Nat}:∀cs pre r,Jl N f cs=some (pre,r)→aQ pre→∀(args:List Value) (w:World),cF w cs args→Calls prog 34 args.toArray w (fun e w'=>r.ok w e w'):=by
 intro cs pre r hg hp args w ha;unfold Jl at hg;split at hg
 ·rename_i l n m log r0;split at hg
  ·rename_i x hx;cases hg
   match args,ha with
   | [a1,a2,a3],ha =>
    have h2:a2=iI log:=ha.2.1;have h3:a3=.agg (aB r0).toArray:=ha.2.2.1;rw[bL r0 x hx]at h3;subst h2; subst h3;exact zL (LV.ofS ha.1 hp.1 hp.2.1 hp.2.2.1 fun j hj=>eQ (hp.2.2.2.1 j hj)) hp.2.2.2.1 hp.2.2.2.2.1 hp.2.2.2.2.2.1
   | [],ha=>exact ha.elim
   | [_],ha=>exact ha.2.elim
   | [_,_],ha=>exact ha.2.2.elim
   | _::_::_::_::_,ha=>exact ha.2.2.2.elim
  ·cases hg
 ·cases hg
theorem LV.take {w:World} {p:Option Addr} {N m T:Nat} {f:Nat→Nat} (h:LV w (.slice p N m) N f) (hT:T≤N):LV w (.slice p T m) T f:=by
 obtain⟨p',m',e,h2,h3,h4⟩:=h;cases e;refine⟨p,m,rfl,Nat.le_trans hT h2,fun j hj=>h3 j (by omega),fun h0 => ?_⟩;obtain⟨b,o,e,hb,hr⟩:=h4 (by omega);refine⟨b,o,e,hb,fun j x hj=>hr j x ?_⟩;have key:∀(i n s:Nat),i≤n→aR (el f) s n=aR (el f) s i++aR (el f) (s+i) (n-i):=fun i=>by
  induction i with
  | zero=>intro n s _; rfl
  | succ i ih =>
   intro n s h;obtain⟨n,rfl⟩:∃k,n=k+1:=⟨n-1,by omega⟩
   show el f s++aR (el f) (s+1) n=(el f s++aR (el f) (s+1) i)++_;rw[ih n (s+1) (by omega),List.append_assoc,show s+1+i=s+(i+1) by omega,show n+1-(i+1)=n-i by omega]
 rw[key T N 0 hT,aM,List.getElem?_append_left (List.getElem?_eq_some_iff.1 hj).1];exact hj
def dT:Code:=(f9.body).getD .skip
theorem UN:dT=.seq (cA dT) (.seq (cA (cB dT)) (.seq (cA (cB (cB dT))) (.seq (cA (cB (cB (cB dT)))) (cB (cB (cB (cB dT))))))):=by kernel_rfl
def eG (v:Value) (z:Int) (x:Nat):List Fact:=[.slot 0 (.im v),.slot 1 (.im (iV z)),.slot 5 (.pt 5 0),.row 5 true [.q x]]
theorem Nu (v:Value) (z:Int) (x:Nat):aH prog (qG prog) f9.ntmps (cG fun _=>none) 40 (cA dT) (eF 0 [.v (.im v),.v (.im (iV z)),.v (.fl [.q x])]) (eG v z x)=some ([],.nrm,eG v z x):=by kernel_rfl
def Ym (v:Value) (N:Nat) (f:Nat→Nat) (num:Nat→Option Value) (_:Nat):Cfg:=⟨fun _=>(yZ.add 32 (LZ v N f)).add 33 (RQ v (aF f N)),fun _=>true,num⟩
theorem Fa (v:Value) (N:Nat) (f:Nat→Nat) (z:Int) (x:Nat):aH prog (qG prog) f9.ntmps (Ym v N f (aE [(14,.bool true)])) 40 (cA (cB dT)) (eG v z x) [.slot 6 (.im (.slice none 0 0)),.slot 7 (.im (.int .i64 (gX N f z x)))]=some ([v=v,x<aT,aD .neq .i64 (gX N f z x) 0=some (.bool true)],.rt,[.slot 6 (.im (.slice none 0 0)),.slot 7 (.im (.int .i64 (gX N f z x)))]):=by kernel_rfl
theorem UM (v:Value) (N:Nat) (f:Nat→Nat) (z:Int) (x:Nat):aH prog (qG prog) f9.ntmps (Ym v N f (aE [(14,.bool false)])) 40 (cA (cB dT)) (eG v z x) (eG v z x)=some ([v=v,x<aT,aD .neq .i64 (gX N f z x) 0=some (.bool false)],.nrm,eG v z x):=by kernel_rfl
theorem Nt (p:Option Addr) (N m:Nat) (f:Nat→Nat) (z:Int) (x:Nat):aH prog (qG prog) f9.ntmps (Ym (.slice p N m) N f fun _=>none) 40 (cA (cB (cB dT))) (eG (.slice p N m) z x) (eG (.slice p (aF f N) m) z x)=some ([Value.slice p N m=.slice p N m,aF f N≤m],.nrm,eG (.slice p (aF f N) m) z x):=by kernel_rfl
theorem Ez (p:Option Addr) (T m log x:Nat):aH prog { qG prog with x:=xG (aE [(23,iI (2^log))]) } f9.ntmps (cG (aE [(24,.bool true)])) 40 (cA (cB (cB (cB dT)))) (eG (.slice p T m) (Int.ofNat log) x) [.slot 6 (.im (.slice none 0 0)),.slot 7 (.im (.int .i64 72))]=some ([dD .shl 3 (.const (iI 1)) (.tmp 22) (iI 1) (iI log) (iI (2^log)),aD .gtr .i64 (Int.ofNat T) (Int.ofNat (2^log))=some (.bool true)],.rt,[.slot 6 (.im (.slice none 0 0)),.slot 7 (.im (.int .i64 72))]):=by kernel_rfl
theorem Ey (p:Option Addr) (T m log x:Nat):aH prog { qG prog with x:=xG (aE [(23,iI (2^log))]) } f9.ntmps (cG (aE [(24,.bool false)])) 40 (cA (cB (cB (cB dT)))) (eG (.slice p T m) (Int.ofNat log) x) (eG (.slice p T m) (Int.ofNat log) x)=some ([dD .shl 3 (.const (iI 1)) (.tmp 22) (iI 1) (iI log) (iI (2^log)),aD .gtr .i64 (Int.ofNat T) (Int.ofNat (2^log))=some (.bool false)],.nrm,eG (.slice p T m) (Int.ofNat log) x):=by kernel_rfl
def aAN (v:Value) (N:Nat) (f:Nat→Nat) (T:Nat) (g:Nat→Nat):Tab2:=(rG.add 35 (Jb v N f)).add 34 (Jl T g)
theorem Yl (v:Value) (T log x:Nat) (f:Nat→Nat):aH prog { qG prog with x:=ND (aAN v T f T (DA f 1 x)) } f9.ntmps (Pt true fun _=>none) 60 (cB (cB (cB (cB dT)))) (eG v (Int.ofNat log) x) [.slot 6 (.sl 32 0 (2^log) (2^log)),.row 32 true (aR (el (zD (qS T (DA f 1 x) log) (2^log) (fE 1 (cJ log)) log)) 0 (2^log)),.slot 7 (.im (.int .i64 0))] =
  some ([v=v,1<RM,x<RM,log<9223372036854775808,aB (aR (el (DA f 1 x)) 0 T)=aB (aR (el (DA f 1 x)) 0 T),T=T,T≤T,bT T (DA f 1 x),log≤16,cJ log<RM],.rt,[.slot 6 (.sl 32 0 (2^log) (2^log)),.row 32 true (aR (el (zD (qS T (DA f 1 x) log) (2^log) (fE 1 (cJ log)) log)) 0 (2^log)),.slot 7 (.im (.int .i64 0))]):=by kernel_rfl
theorem iN {N:Nat} {f:Nat→Nat} {z:Int} {x:Nat} (h:gX N f z x=0):N≤65536∧bT N f∧x<RM∧x≠0∧∃log:Nat,log≤16∧z=Int.ofNat log:=by
 unfold gX at h
 by_cases h1:fH N f x=0
 ·rw[if_neg (fun q=>q h1)]at h;obtain⟨q1,q2,q3⟩:=uH h1
  by_cases h2:eD z 16=false
  ·rw[if_pos h2]at h; cases h
  ·rw[if_neg h2]at h;have h3:eD z 16=true:=by simpa using h2
   unfold eD at h3;rw[Bool.and_eq_true,decide_eq_true_eq,decide_eq_true_eq]at h3;refine⟨q1,q2,q3,fun e => ?_,z.toNat,by omega,by show z=((z.toNat:Nat):Int); omega⟩;rw[if_pos e]at h; cases h
 ·rw[if_pos h1]at h; exact absurd h h1
def oT (N:Nat) (f:Nat→Nat) (z:Int) (x:Nat):Int:=if gX N f z x≠0 then gX N f z x else if aF f N≤2^z.toNat then 0 else 72
def mW (N:Nat) (f:Nat→Nat) (log x:Nat):Nat→Nat:=zD (qS (aF f N) (DA f 1 x) log) (2^log) (fE 1 (cJ log)) log
theorem lJ {w0:World} {v:Value} {N x:Nat} {f:Nat→Nat} {z:Int} (hv:LV w0 v N f) (hN:N≤2305843009213693952) (hx:x<aT) :
  (oT N f z x≠0→Good prog 9 (.many [.im (.slice none 0 0),.im (.int .i64 (oT N f z x))]) [v,iV z,.agg (aB [At.q x]).toArray] w0) ∧
  (oT N f z x=0→Calls prog 9 #[v,iV z,.agg (aB [At.q x]).toArray] w0 (fun e w'=>FR.ok ⟨aR (el (mW N f z.toNat x)) 0 (2^z.toNat),2^z.toNat,2^z.toNat,[.im (.int .i64 0)]⟩ w0 e w')):=by
 have hG:bH prog (qG prog) w0.heap.size w0:=(aY _).w _ _;have hT:∀n d:Nat,TabOkW prog dW w0.heap.size w0:=fun _ _=>bG.w _ _
 obtain⟨p,m,rfl,hm,h256,hmem⟩:=id hv;have hV:∀n d:Nat,TabOkW prog ((yZ.add 32 (LZ (.slice p N m) N f)).add 33 (RQ (.slice p N m) (aF f N))) w0.heap.size w0:=fun _ _=>TabOkW.add (TabOkW.add (qC.w _ _) func32 (by kernel_rfl) (by kernel_rfl) fun w hw=>JI (hv.on hw) (by omega)) func33 (by kernel_rfl) (by kernel_rfl) fun w hw=>JD (hv.on hw) hN
 have first:∀R:Ending→World→Prop,(∀a w,Holds f9.ntmps w0.heap.size w0 (eG (.slice p N m) z x) a w→(Code.seq (cA (cB dT)) (.seq (cA (cB (cB dT))) (.seq (cA (cB (cB (cB dT)))) (cB (cB (cB (cB dT))))))).wp prog (bodyPost prog f9 R) a w)→Calls prog 9 #[.slice p N m,iV z,.agg (aB [At.q x]).toArray] w0 R:=fun R hR=>by
  refine bJ func9 (cs:=[.v (.im (.slice p N m)),.v (.im (iV z)),.v (.fl [.q x])]) (args:=[.slice p N m,iV z,.agg (aB [At.q x]).toArray]) (c:=dT) rfl ⟨rfl,rfl,rfl,trivial⟩ (Nat.le_of_ble_eq_true (by kernel_rfl)) fun a w1 hA => ?_
  rw[UN];exact wp_seq (aA aG hT hG (Nu _ z x) trivial hA fun a w1 hA=>hR a w1 hA)
 unfold oT
 by_cases he:gX N f z x=0
 ·rw[if_neg (fun q=>q he)];obtain⟨q1,q2,q3,q4,log,q5,rfl⟩:=iN he;rw[show (Int.ofNat log).toNat=log from rfl];have hle:=cC f N;have hp2:2^log≤65536:=Nat.pow_le_pow_right (n:=2) (by omega) q5;have second:∀R:Ending→World→Prop,(∀a w,Holds f9.ntmps w0.heap.size w0 (eG (.slice p (aF f N) m) (Int.ofNat log) x) a w→(Code.seq (cA (cB (cB (cB dT)))) (cB (cB (cB (cB dT))))).wp prog (bodyPost prog f9 R) a w)→Calls prog 9 #[.slice p N m,iV (Int.ofNat log),.agg (aB [At.q x]).toArray] w0 R:=fun R hR=>first R fun a w hA=>by
   refine wp_seq (aA aG hV hG (UM _ N f _ x) ⟨rfl,hx,by rw[he]; rfl,trivial⟩ hA fun a w hA => ?_);exact wp_seq (aA aG hV hG (Nt p N m f _ x) ⟨rfl,by omega,trivial⟩ hA fun a w hA=>hR a w hA)
  by_cases hL:aF f N≤2^log
  ·rw[if_pos hL];refine⟨fun h=>absurd rfl h,fun _=>second _ fun a w hA => ?_⟩;refine wp_seq (aA aG hT (eP _ _ _) (Ey p (aF f N) m log x) ⟨gO (by omega),by rw[oJ,decide_eq_false (by omega)],trivial⟩ hA fun a w hA => ?_);have hlv:=hv.take hle;have hfT:bT (aF f N) f:=fun j hj=>q2 j (by omega)
   exact aA aG (fun _ _=>qC.w _ _) (jG fun w' hw=>((FrAt.none _ _).add func35 (by kernel_rfl) (by kernel_rfl) (YZ (hlv.on hw) (by omega) hfT)).add func34 (by kernel_rfl) (by kernel_rfl) fun cs pre r h1 h2 args ha=>ZJ cs pre r h1 h2 args w' ha) (Yl _ (aF f N) log x f) ⟨rfl,by decide,q3,by omega,rfl,rfl,Nat.le_refl _,fun j hj=>cL _ _,q5,eB _ _,trivial⟩ hA fun a w hA=>fA (r:=⟨aR (el (mW N f log x)) 0 (2^log),2^log,2^log,[.im (.int .i64 0)]⟩) (by kernel_rfl) hA
  ·rw[if_neg hL];refine⟨fun _=>second _ fun a w hA => ?_,fun h=>by cases h⟩;exact wp_seq (aA aG hT (eP _ _ _) (Ez p (aF f N) m log x) ⟨gO (by omega),by rw[oJ,decide_eq_true (by omega)],trivial⟩ hA fun a w hA=>aW (l:=[.im (.slice none 0 0),.im (.int .i64 72)]) (r:=.many [.im (.slice none 0 0),.im (.int .i64 72)]) (by kernel_rfl) (by kernel_rfl) hA)
 ·rw[if_pos he];refine⟨fun _=>first _ fun a w hA => ?_,fun h=>absurd h he⟩;exact wp_seq (aA aG hV hG (Fa _ N f z x) ⟨rfl,hx,tG he,trivial⟩ hA fun a w hA=>aW (l:=[.im (.slice none 0 0),.im (.int .i64 (gX N f z x))]) (r:=.many [.im (.slice none 0 0),.im (.int .i64 (gX N f z x))]) (by kernel_rfl) (by kernel_rfl) hA)
end Go.Proofs.Ytjjnbgoepbiojaa.Ex
namespace Go.Proofs.Ytjjnbgoepbiojaa
open Go.Proofs.Try
open Go.RowKit
def zG (a0 a1 a2 a3 a4 a5 a6 a7:Nat):Nat:=a0+4294967296*(a1+4294967296*(a2+4294967296*(a3+4294967296*(a4+4294967296*(a5+4294967296*(a6+4294967296*a7))))))
def Mm (a0 a1 a2 a3 a4 a5 a6 a7:Nat):Prop:=a0<4294967296∧a1<4294967296∧a2<4294967296∧a3<4294967296∧a4<4294967296∧a5<4294967296∧a6<4294967296∧a7<4294967296
theorem jC {a:Nat} (ha:a<18446744073709551616):∃l h:Nat,bits .and .u64 (a:Int) 4294967295=(l:Int)∧(a:Int)/4294967296=(h:Int)∧l<4294967296∧h<4294967296∧Hid (l+4294967296*h=a):=by
 obtain⟨h,l,e1,e2,h1,h2,e⟩:=Ay ha;exact⟨l,h,e2,e1,h2,h1,Lib.hid (by omega)⟩
def GR (A:Nat) (w:World) (e:Ending) (w':World):Prop :=
 ∃h0 h1 h2 h3 h4 h5 h6 h7:Nat,e=.returned (.agg #[.int .u64 h0,.int .u64 h1,.int .u64 h2,.int .u64 h3,.int .u64 h4,.int .u64 h5,.int .u64 h6,.int .u64 h7])∧Mm h0 h1 h2 h3 h4 h5 h6 h7∧Hid (zG h0 h1 h2 h3 h4 h5 h6 h7=A)∧Below w.heap.size w w'
set_option maxHeartbeats 1000000 in
theorem kL (a0 a1 a2 a3:Nat) (ha:bY a0 a1 a2 a3) (w:World) :
  Calls prog 86 #[.agg #[.int .u64 a0,.int .u64 a1,.int .u64 a2,.int .u64 a3]] w (GR (aC a0 a1 a2 a3) w):=by
 obtain⟨h0,h1,d0,d1,b0,b1,e0⟩:=jC ha.1;obtain⟨h2,h3,d2,d3,b2,b3,e1⟩:=jC ha.2.1;obtain⟨h4,h5,d4,d5,b4,b5,e2⟩:=jC ha.2.2.1;obtain⟨h6,h7,d6,d7,b6,b7,e3⟩:=jC ha.2.2.2
 go_enter func86,ntmps86
 go_wp2_with fail;refine wp_loop_rounds 5 ?_;rw[rounds_succ];go_wp2_with fail;rw[rounds_succ];go_wp2_with fail;rw[rounds_succ];go_wp2_with fail;rw[rounds_succ];go_wp2_with fail;rw[rounds_succ];go_wp2_with fail;refine bodyPost_ret (v:=.agg #[.int .u64 h0,.int .u64 h1,.int .u64 h2,.int .u64 h3,.int .u64 h4,.int .u64 h5,.int .u64 h6,.int .u64 h7]) (by simp[results,results86,go_sem]) rfl ?_;refine⟨h0,h1,h2,h3,h4,h5,h6,h7,rfl,⟨b0,b1,b2,b3,b4,b5,b6,b7⟩,?_,?_⟩
 ·have:=e0.out; have:=e1.out; have:=e2.out; have:=e3.out;exact Lib.hid (by unfold aC zG; omega)
 repeat (first|exact Below.refl _ _|refine Below.drew ?_|refine Below.alloc ?_ (by first|(simp; done)|(simp; omega)) _)
theorem Av {l h:Nat} (hl:l<4294967296) (hh:h<4294967296):∃u s:Nat,(h:Int)*4294967296=(u:Int)∧bits .or .u64 (l:Int) (u:Int)=(s:Int)∧u<18446744073709551616∧s<18446744073709551616∧Hid (s=l+4294967296*h):=by
 obtain⟨s,e,hs,f⟩:=nU (k:=32) (lo:=l) (up:=h*4294967296) (by omega) (by omega) (Lib.hid (by omega)) (Lib.hid ⟨h,by omega⟩);have:=f.out;exact⟨h*4294967296,s,by omega,e,by omega,hs,Lib.hid (by omega)⟩
section
variable {P:Program} {ops:Array Oper} {Q:Exit→Act→World→Prop} {md:Region.Mode}
def En (md:Region.Mode) (ops:Array Oper) (n:Nat):Bool :=
 (List.range n).all fun i=>match ops[i]? with
  | some o=>o.after.all fun e => !Region.binds md e||decide (e.on<i)
  | none=>false
def sU (md:Region.Mode) (ops:Array Oper) (got:Nat→Bool) (i:Nat):Bool :=
 match ops[i]? with
  | some o=>o.after.all fun e => !Region.binds md e||got e.on
  | none=>false
def gB (listed:Array Bool):Nat→Nat
 | 0=>0
 | n+1=>gB listed n+if listed.getD n false=true then 0 else 1
theorem iT (listed:Array Bool) (n:Nat):gB listed (n+1)=gB listed n+if listed.getD n false=true then 0 else 1:=rfl
theorem sA {listed:Array Bool} {i:Nat} (hi:i<listed.size) (h:listed.getD i false=false):∀n,gB (listed.setIfInBounds i true) n+(if i<n then 1 else 0)=gB listed n
 | 0=>by simp[gB]
 | n+1=>by
  have ih:=sA hi h n;rw[iT,iT]
  by_cases e:i=n
  ·subst e;have h1:(listed.setIfInBounds i true).getD i false=true:=by simp[hi]
   rw[h1,h];simp at ih ⊢;omega
  ·rw[getD_set_ne false e]
   by_cases h2:i<n
   ·rw[if_pos h2]at ih; rw[if_pos (show i<n+1 by omega)]; omega
   ·rw[if_neg h2]at ih; rw[if_neg (show ¬i<n+1 by omega)]; omega
theorem lK {listed:Array Bool}:∀{n:Nat},gB listed n=0→∀j,j<n→listed.getD j false=true
 | 0,_,j,hj=>by omega
 | n+1,h,j,hj=>by
  rw[iT]at h
  by_cases e:listed.getD n false=true
  ·rw[if_pos e]at h
   rcases Nat.lt_or_ge j n with h1|h1
   ·exact lK (by omega) j h1
   ·obtain rfl:j=n:=by omega
    exact e
  ·rw[if_neg e]at h; omega
theorem lL {listed:Array Bool}:∀{n:Nat},0<gB listed n→∃j,j<n∧listed.getD j false=false∧∀k,k<j→listed.getD k false=true
 | 0,h=>by unfold gB at h; omega
 | n+1,h=>by
  rcases Nat.eq_zero_or_pos (gB listed n)with h0|h0
  ·unfold gB at h;rw[h0]at h;refine⟨n,by omega,?_,lK h0⟩;cases e:listed.getD n false with
   | true=>rw[e]at h; simp at h
   | false=>rfl
  ·obtain⟨j,hj,h1,h2⟩:=lL h0;exact⟨j,by omega,h1,h2⟩
def jV (n m:Nat):Array Bool:=Array.replicate n true++Array.replicate (m-n) false
theorem oA {n:Nat} {Inv:(Nat→Bool)→Act→World→Prop} {l:List Oper} (hl:ops=l.toArray) (hn:n<ops.size)
  (hs:Region.sinkB md ops n=true) (hc:Region.chainB md ops n=true) (hb:En md ops n=true) (hq:Region.seqB md ops (ops.size-n) n (jV n ops.size)=true)
  (step:∀(got:Nat→Bool) b u i,i<n→got i=false→sU md ops got i=true→Inv got b u→wpOp P ops Q i (Inv (fun j=>j==i||got j)) b u)
  (tail:∀got b u,(∀j,j<n→got j=true)→Inv got b u→wpList P ops Q (l.drop n) b u) :
  ∀(m:Nat) (listed:Array Bool) (b:Act) (u:World),HeadInv md ops n listed→gB listed n=m→Inv (fun j=>listed.getD j false) b u→wpAny P md ops Q (m+(ops.size-n)) listed b u
 | 0,listed,b,u,inv,hm,h=>by
  have hall:=lK hm;have he:listed=jV n ops.size:=by
   refine Array.ext (by simp[jV,inv.size]; omega) fun j h1 h2 => ?_
   rcases Nat.lt_or_ge j n with hj|hj
   ·have:=hall j hj;simp[h1]at this;rw[this];simp[jV,hj]
   ·have:=inv.tail j hj (by rw[←inv.size]; exact h1);simp[h1]at this;rw[this];simp[jV,hj]
  subst he;have hlen:(l.drop n).length=ops.size-n:=by subst hl; simp
  rw[Nat.zero_add,←hlen];exact wpAny_of_seq (l.drop n) n _ b u (fun j=>by subst hl; simp[List.getElem?_drop]) (by rw[hlen]; exact hq) (tail _ b u hall h)
 | m+1,listed,b,u,inv,hm,h=>by
  rw[show m+1+(ops.size-n)=m+(ops.size-n)+1 by omega];refine⟨fun h0 => ?_,fun i hi => ?_⟩
  ·obtain⟨j,hj,h1,h2⟩:=lL (n:=n) (listed:=listed) (by omega);have hjr:j∈Region.ready md ops listed:=by
    have hbj:=List.all_eq_true.1 hb j (List.mem_range.2 hj);cases ho:ops[j]? with
    | none=>rw[ho]at hbj; cases hbj
    | some o =>
     rw[ho]at hbj;refine mem_ready.2 ⟨getD_in (by rw[inv.size]; omega) h1,o,ho,fun e he hbi=>h2 _ ?_⟩;have:=(Array.all_eq_true_iff_forall_mem.1 hbj) e he;simp[hbi]at this;exact this
   rw[h0]at hjr; cases hjr
  ·obtain⟨hun,o,ho,hall⟩:=mem_ready.1 hi;have hin:i<n:=by
    rcases Nat.lt_or_ge i n with h'|h'
    ·exact h'
    ·obtain⟨j,hj,h1,h2⟩:=lL (n:=n) (listed:=listed) (by omega);exact absurd hi (tail_waits hs hc hn inv _ j rfl hj (getD_in (by rw[inv.size]; omega) h1) i h')
   have his:i<listed.size:=by rw[inv.size]; omega
   have hun':=getD_both hun;refine wpOp_mono (fun b' u' h' => ?_) (step _ b u i hin hun' (by
    unfold sU;rw[ho];refine Array.all_eq_true_iff_forall_mem.2 fun e he => ?_
    cases hbi:Region.binds md e with
    | false=>rfl
    | true=>simpa[hbi]using hall e he hbi) h)
   refine oA hl hn hs hc hb hq step tail m _ b' u' (inv.set hi hin) ?_ ?_
   ·have:=sA his hun' n;rw[if_pos hin]at this; omega
   ·have hf:(fun j=>(listed.setIfInBounds i true).getD j false)=fun j=>j==i||listed.getD j false:=by
     funext j
     by_cases e:j=i
     ·subst e; simp[his]
     ·rw[getD_set_ne false (Ne.symm e)]; simp[e]
    rw[hf]; exact h'
theorem sB (k:Nat):∀n,gB (Array.replicate k false) n=n
 | 0=>rfl
 | n+1=>by rw[iT,sB k n,getD_replicate_false]; simp
theorem AM (n:Nat) (Inv:(Nat→Bool)→Act→World→Prop) {id:Nat} {a:Act} {w:World} {l:List Oper} (hm:P.follows .mixedOrders=true) (hn:n<l.length)
  (hs:Region.sinkB .any l.toArray n=true) (hc:Region.chainB .any l.toArray n=true) (hb:En .any l.toArray n=true) (hq:Region.seqB .any l.toArray (l.toArray.size-n) n (jV n l.toArray.size)=true)
  (start:Inv (fun _=>false) a w.drew)
  (step:∀(got:Nat→Bool) b u i,i<n→got i=false→sU .any l.toArray got i=true→Inv got b u→wpOp P l.toArray Q i (Inv (fun j=>j==i||got j)) b u)
  (tail:∀got b u,(∀j,j<n→got j=true)→Inv got b u→wpList P l.toArray Q (l.drop n) b u):(Code.region id l.toArray true).wp P Q a w:=by
 have hn':n<l.toArray.size:=by simpa using hn
 have inv0:HeadInv .any l.toArray n (Array.replicate l.toArray.size false) :=
  ⟨by simp,fun j oj _ hl=>(by rw[getD_replicate_false]at hl; cases hl),fun t _ ht=>getD_in (by simpa using ht) (getD_replicate_false _ _)⟩
 refine wp_region_any hm ?_;have hf:(fun j=>(Array.replicate l.toArray.size false).getD j false)=fun _:Nat=>false:=by funext j; exact getD_replicate_false _ _
 have H:=oA (md:=.any) rfl hn' hs hc hb hq step tail n _ a w.drew inv0 (sB _ n) (by rw[hf]; exact start);rw[show n+(l.toArray.size-n)=l.toArray.size by omega]at H;exact H
end
end Go.Proofs.Ytjjnbgoepbiojaa
