/- Jb09 -/
import Derived.KernelRfl
import Derived.ProofKit
import Derived.LaidMore
import Derived.OpenShut
import Derived.Stop.Joined
import Derived.Carry
import Derived.RowKit
import Derived.ChangeSame
import Derived.JoinedOf
import Derived.JoinedAt
import Derived.Laws.IdiomArrays
import Derived.Deep.Strs
import Derived.Test.YtjeplinbleofnaaJb08
import Derived.Test.YtjeplinbleofnaaRows
import Derived.Test.YtjeplinbleofnaaJb00
import Derived.Test.YtjeplinbleofnaaJb06
import Derived.Test.YtjeplinbleofnaaProg
set_option maxRecDepth 100000
set_option linter.unusedVariables false
set_option linter.unusedSimpArgs false
set_option linter.unnecessarySimpa false
noncomputable section
namespace Go.Proofs.Ytjeplinbleofnaa.Ex
open Go.Proofs.Try
open Go.RowKit
theorem FrOk.ad {P:Program} {T:Tab2} (hT:FrOk P T) {f:Nat} {fn:Func} (hf:P.funcs[f]?=some fn) {g:List CA→Option (List Prop×FR)}
 (h:∀cs pre r,g cs=some (pre,r)→aQ pre→∀(args:List Value) (w:World),bZ w cs args→Calls P f args.toArray w (fun e w'=>r.ok w e w')) (hn:(fn.name == "runtime.NumGoroutine")=false:=by kernel_rfl) (hb:fn.body.isNone=false:=by kernel_rfl):FrOk P (T.add f g):=hT.add hf hn hb h
theorem eT {U:Nat} (hU:U<RM):bP RM U=true↔2*U<RM:=by
 have ho:RM%2=1:=by decide
 unfold bP;rw[decide_eq_true_iff]
 rcases Nat.eq_zero_or_pos U with h|h
 ·subst h;exact⟨fun _=>cO,fun _=>Nat.zero_le _⟩
 ·rw[Nat.mod_eq_of_lt (by omega)];omega
theorem FK {U V:Nat} (hU:U<RM) (hV:V<RM) (lU:bP RM U=true) (lV:bP RM V=true) (e:U*U%RM=V*V%RM):U=V:=by
 have l1:=(eT hU).1 lU;have l2:=(eT hV).1 lV
 rcases DQ SR vS hU hV e with h|h
 ·exact h
 ·omega
def QP (d:Bool) (V:Nat):jO
 | [.v (.im (.int .i64 2)),.v (.fl l)]=>match oR l with
  | some x=>bif d then some ([x<RM,V<RM,aM V V=x,bP RM V=true],.many [.fl [.q V],.im (.int .i64 0)])else some ([x<RM,rE RM x = -1],.many [.fl [.q 0],.im (.int .i64 23)])
  | none=>none
 | _=>none
theorem ZI (d:Bool) (V:Nat):∀cs pre r,QP d V cs=some (pre,r)→aQ pre→∀(args:List Value) (w:World),bZ w cs args→bF prog 84 r args w:=by
 intro cs pre r hg hp args w ha;unfold QP at hg;split at hg
 ·rename_i l;split at hg
  ·rename_i x hx
   match args,ha with
   | [t,v],ha =>
    have h1:t=.int .i64 2:=ha.1;have h2:v=.agg (aA l).toArray:=ha.2.1;rw[cN l x hx]at h2;subst h1; subst h2;cases d
    ·cases hg;obtain⟨hxr,hleg,_⟩:=hp;unfold rE at hleg
     by_cases hz:x=0
     ·rw[if_pos hz]at hleg; omega
     ·rw[if_neg hz]at hleg;refine (uG 2 _ lG _ _ _ _ (dN x) (by rw[iY hxr]; exact hxr) (by rw[iY hxr]; exact hz) (by
       rw[iY hxr];intro q;rw[if_pos q]at hleg; omega) w).mono ?_
      rintro e w' ⟨s0,s1,s2,s3,rfl,hs,hv,hb⟩
      obtain⟨rfl,rfl,rfl,rfl⟩:=gO hs (fB cO) hv;exact⟨rfl,hb⟩
    ·cases hg;obtain⟨hxr,hV,hVV,hl,_⟩:=hp;have hVV:V*V%RM=x:=hVV
     by_cases hz:x=0
     ·have hv0:V=0:=by
       by_cases h:V=0
       ·exact h
       ·have:=mul_ne SR vS (Nat.pos_of_ne_zero h) hV (Nat.pos_of_ne_zero h) hV;omega
      refine (BK 2 _ lG _ _ _ _ (dN x) (by rw[iY hxr]; exact hxr) (by rw[iY hxr]; exact hz) w).mono ?_
      rintro e w' ⟨s0,s1,s2,s3,rfl,hs,hv,hb⟩
      obtain⟨rfl,rfl,rfl,rfl⟩:=gO hs (fB cO) hv;rw[hv0];exact⟨rfl,hb⟩
     ·have hv0:V≠0:=fun q=>hz (by rw[←hVV,q]; rfl)
      refine (rM 2 _ lG _ _ _ _ (dN x) (by rw[iY hxr]; exact hxr) (by rw[iY hxr]; exact hz) (by
       rw[iY hxr,←hVV];exact FN SR (by decide) (Nat.pos_of_ne_zero hv0) hV) w).mono ?_
      rintro e w' ⟨U,⟨s0,s1,s2,s3,rfl,hs,hv,hb⟩,k1,k2,k3⟩
      rw[iY hxr]at k1;have e1:U=V:=FK k2 hV k3 hl (k1.trans hVV.symm);rw[e1]at hv;obtain⟨rfl,rfl,rfl,rfl⟩:=gO hs (fB hV) hv;exact⟨rfl,hb⟩
   | [],ha=>exact ha.elim
   | [_],ha=>exact ha.2.elim
   | _::_::_::_,ha=>exact ha.2.2.elim
  ·cases hg
 ·cases hg
def IX (d:Bool) (V:Nat):Tab:=iJ.add 84 (QP d V)
theorem yV (d:Bool) (V:Nat):TabOk prog (IX d V):=eQ.ad func84 (ZI d V)
def gI (y:Nat):Nat:=dU 168700 (aM 168696 (aM y y))
def lL (y:Nat):Nat:=qV (dU 1 (aM y y)) (gI y)
theorem YE (y V:Nat) (h:Bool):cL prog (qG prog) (fun _=>⟨fun _=>IX false V,fun _=>true,fun _=>none⟩) f55 60 [.v (.fl [.q y]),.v (.im (.bool h))]=some ([y<RM,1<18446744073709551616,1<RM,aM y y<RM,168700<18446744073709551616,aM y y<RM,168700<RM,aM 168696 (aM y y)<RM,dU 1 (aM y y)<RM,gI y<RM,gI y≠0,lL y<RM,rE RM (lL y) = -1],.many [.fl oS,.im (.int .i64 41)]):=by kernel_rfl
theorem YH (y V:Nat):cL prog (qG prog) (fun _=>⟨fun _=>IX true V,fun _=>true,fun _=>none⟩) f55 60 [.v (.fl [.q y]),.v (.im (.bool true))]=some ([y<RM,1<18446744073709551616,1<RM,aM y y<RM,168700<18446744073709551616,aM y y<RM,168700<RM,aM 168696 (aM y y)<RM,dU 1 (aM y y)<RM,gI y<RM,gI y≠0,lL y<RM,V<RM,aM V V=lL y,bP RM V=true,aA [At.q V]=aA [At.f ⟨0,dS⟩]],.many [.fl oS,.im (.int .i64 44)]):=by kernel_rfl
theorem YG (y V:Nat):cL prog (qG prog) (fun _=>⟨fun _=>IX true V,fun _=>false,fun _=>none⟩) f55 60 [.v (.fl [.q y]),.v (.im (.bool true))]=some ([y<RM,1<18446744073709551616,1<RM,aM y y<RM,168700<18446744073709551616,aM y y<RM,168700<RM,aM 168696 (aM y y)<RM,dU 1 (aM y y)<RM,gI y<RM,gI y≠0,lL y<RM,V<RM,aM V V=lL y,bP RM V=true,aA [At.q V]≠aA [At.f ⟨0,dS⟩],V<RM],.many [.fl [.q (dU 0 V),.q y],.im (.int .i64 0)]):=by kernel_rfl
theorem YF (y V:Nat):cL prog (qG prog) (fun _=>⟨fun _=>IX true V,fun _=>true,fun _=>none⟩) f55 60 [.v (.fl [.q y]),.v (.im (.bool false))]=some ([y<RM,1<18446744073709551616,1<RM,aM y y<RM,168700<18446744073709551616,aM y y<RM,168700<RM,aM 168696 (aM y y)<RM,dU 1 (aM y y)<RM,gI y<RM,gI y≠0,lL y<RM,V<RM,aM V V=lL y,bP RM V=true],.many [.fl [.q V,.q y],.im (.int .i64 0)]):=by kernel_rfl
theorem oI {y:Nat} (hy:y<RM):gI y≠0:=fun h=>by
 have e:cR (gI y)=KR.sub aR (KR.mul dR (KR.mul (cR y) (cR y))):=by
  unfold gI;rw[cH _ (aC _ _),cC,cC];rfl
 rw[h]at e;exact HU (cR y) e.symm
def yC (y V:Nat) (h:Bool):RV:=bif h then (if V=0 then dW (0,0) 44 else dW (dU 0 V,y) 0)else dW (V,y) 0
def XT (d:Bool) (V:Nat):jO
 | [.v (.fl l),.v (.im (.bool h))]=>match oR l with
  | some y=>bif d then some ([y<RM,V<RM,aM V V=lL y,bP RM V=true],yC y V h)else some ([y<RM,rE RM (lL y) = -1],dW (0,0) 41)
  | none=>none
 | _=>none
theorem VU (d:Bool) (V:Nat):∀cs pre r,XT d V cs=some (pre,r)→aQ pre→∀(args:List Value) (w:World),bZ w cs args→bF prog 55 r args w:=by
 intro cs pre r hg hp args w ha;unfold XT at hg;split at hg
 ·rename_i l h;split at hg
  ·rename_i y hy;have ha':bZ w [.v (.fl [.q y]),.v (.im (.bool h))] args:=by
    match args,ha with
    | [v,u],ha =>
     refine⟨?_,ha.2.1,trivial⟩;show v=.agg (aA (q1 y)).toArray;rw[←cN l y hy]; exact ha.1
    | [],ha=>exact ha.elim
    | [_],ha=>exact ha.2.elim
    | _::_::_::_,ha=>exact ha.2.2.elim
   cases d
   ·cases hg;obtain⟨hy,hl,_⟩:=hp;exact aK aY (fun _ _=>yV _ _) (aX _) func55 (YE y V h) ⟨hy,by decide,cP,aC _ _,by decide,aC _ _,by decide,aC _ _,bD _ _,bD _ _,oI hy,fQ _ _,hl,trivial⟩ ha'
   ·cases hg;obtain⟨hy,hV,hVV,hl,_⟩:=hp;unfold yC;cases h
    ·exact aK aY (fun _ _=>yV _ _) (aX _) func55 (YF y V) ⟨hy,by decide,cP,aC _ _,by decide,aC _ _,by decide,aC _ _,bD _ _,bD _ _,oI hy,fQ _ _,hV,hVV,hl,trivial⟩ ha'
    ·by_cases hz:V=0
     ·rw[if_pos hz];exact aK aY (fun _ _=>yV _ _) (aX _) func55 (YH y V) ⟨hy,by decide,cP,aC _ _,by decide,aC _ _,by decide,aC _ _,bD _ _,bD _ _,oI hy,fQ _ _,hV,hVV,hl,by rw[hz]; rfl,trivial⟩ ha'
     ·rw[if_neg hz];exact aK aY (fun _ _=>yV _ _) (aX _) func55 (YG y V) ⟨hy,by decide,cP,aC _ _,by decide,aC _ _,by decide,aC _ _,bD _ _,bD _ _,oI hy,fQ _ _,hV,hVV,hl,fun e=>hz (XV hV cO e),hV,trivial⟩ ha'
  ·cases hg
 ·cases hg
def QV (g:Nat→Nat) (d:Bool):jO
 | [.v (.im (.int .i64 2)),.s l n m]=>bif d then some ([n=32,aA l=aA (bj g),∀k,g k<256,Go.Proofs.Ytjeplinbleofnaa.iU g 0 32<RM],.many [.fl [.q (Go.Proofs.Ytjeplinbleofnaa.iU g 0 32)],.im (.int .i64 0)])else some ([n=32,aA l=aA (bj g),∀k,g k<256,¬Go.Proofs.Ytjeplinbleofnaa.iU g 0 32<RM],.many [.fl [.q 0],.im (.int .i64 21)])
 | _=>none
theorem uS {w:World} {b o:Nat} {g:Nat→Nat} (h:w.rangeAt b o (aA (bj g))):∀k,k<32→w.cell? ⟨b,o+k,none⟩=some (.int .u8 (g k:Nat)):=fun k hk=>h k _ (iT g k hk)
theorem VZ (g:Nat→Nat) (d:Bool):∀cs pre r,QV g d cs=some (pre,r)→aQ pre→∀(args:List Value) (w:World),bZ w cs args→bF prog 83 r args w:=by
 intro cs pre r hg hp args w ha;unfold QV at hg;split at hg
 ·rename_i l n m
  match args,ha with
  | [v,u],ha =>
   have e1:v=.int .i64 2:=ha.1;obtain⟨b,o,e2,hb,hr⟩:=ha.2.1;subst e1; subst e2;cases d
   ·cases hg;obtain⟨rfl,he,hlt,hn,_⟩:=hp;rw[he]at hr;refine (BL 2 _ lG _ _ hn w (pF w b o m g hlt hb (uS hr))).mono ?_
    rintro e w' ⟨s0,s1,s2,s3,rfl,hs,hv,hbl⟩
    obtain⟨rfl,rfl,rfl,rfl⟩:=gO hs (fB cO) hv;exact⟨rfl,hbl⟩
   ·cases hg;obtain⟨rfl,he,hlt,hn,_⟩:=hp;rw[he]at hr;refine (GG 2 _ lG _ _ hn w (pF w b o m g hlt hb (uS hr))).mono ?_
    rintro e w' ⟨s0,s1,s2,s3,rfl,hs,hv,hbl⟩
    obtain⟨rfl,rfl,rfl,rfl⟩:=gO hs (fB hn) hv;exact⟨rfl,hbl⟩
  | [],ha=>exact ha.elim
  | [_],ha=>exact ha.2.elim
  | _::_::_::_,ha=>exact ha.2.2.elim
 ·cases hg
def OC (g:Nat→Nat) (d:Bool):Tab:=T0.add 83 (QV g d)
theorem EZ (g:Nat→Nat) (d:Bool):TabOk prog (OC g d):=(jA _).ad func83 (VZ g d)
def DG (g:Nat→Nat) (d:Bool) (num:Nat→Option Value) (_:Nat):Cfg:=⟨fun _=>OC g d,fun _=>true,num⟩
def Ba (f:Nat→Nat):Tab3:=TG.add 82 (ZC f)
theorem SM (f:Nat→Nat):FsOk prog (Ba f):=(xY _).ad func82 (QZ f)
def YD (f g:Nat→Nat):Ext:={ Ext.none with ky:=assoc [(25,18)],T2:=TH,T3:=Ba f,T4:=WY,T5:=XD,T6:=B6 g }
theorem CW (f g:Nat→Nat) (w:World):dA prog (qY prog (YD f g)) w.heap.size w:=EE (yA _) (fun _ _ _ h=>h.elim) (SM f) (sB _) (lK _) (OF g)
def eH (f:Nat→Nat):Nat→Nat:=fun k=>bif Nat.beq k 31 then f 31%128 else f k
def mR (f:Nat→Nat):Bool:=decide (128≤f 31)
def yJ (f:Nat→Nat):Nat:=Go.Proofs.Ytjeplinbleofnaa.iU (dD (eH f)) 0 32
def cM:Code:=(f54.body).getD .skip
def TQ:List At:=[.f ⟨0,dS⟩]
def ON (f:Nat→Nat) (m:Nat):List Fact:=[.slot 0 (.sl 0 0 32 m),.row 0 false (bj f),.slot 2 (.pt 2 0),.row 2 true TQ]
def XL (f:Nat→Nat) (m:Nat) (h:Bool):List Fact:=ON f m++[.slot 5 (.im (.bool h))]
def SO (f:Nat→Nat) (m:Nat) (h:Bool):List Fact:=XL f m h++[.slot 6 (.so 18 32),.row 18 true (bj f),.app 18 5 1 32]
def NE (f:Nat→Nat) (m:Nat) (h:Bool) (cap:Nat) (g:Nat→Nat):List Fact:=[.slot 2 (.pt 2 0),.row 2 true TQ,.slot 5 (.im (.bool h)),.slot 6 (.sl 18 0 32 cap),.row 18 true (bj g)]
def TR (h:Bool) (y:Nat) (e:Int):List Fact:=[.slot 2 (.pt 2 0),.row 2 true TQ,.slot 5 (.im (.bool h)),.slot 7 (.pt 7 0),.row 7 true [.q y],.slot 8 (.im (.int .i64 e))]
def Af (h:Bool) (y:Nat) (e:Int):List Fact:=[.slot 2 (.pt 2 0),.row 2 true [.q y],.slot 3 (.im (.bool h)),.slot 4 (.im (.int .i64 e))]
theorem JG:cM=.seq (cA cM) (.seq (cA (cB cM)) (.seq (cA (cB (cB cM))) (.seq (cA (cB (cB (cB cM)))) (.seq (cA (cB (cB (cB (cB cM))))) (.seq (cA (cB (cB (cB (cB (cB cM)))))) (.seq (cA (cB (cB (cB (cB (cB (cB cM))))))) ((cB (cB (cB (cB (cB (cB (cB cM)))))))))))))):=by kernel_rfl
theorem TP (g f:Nat→Nat) (d:Bool) (m:Nat):dP prog (qG prog) f54.ntmps (DG g d (fun _=>none)) 60 (cA cM) (kN 0 [.s (bj f) 32 m]) (ON f m)=some ([],.nrm,(ON f m)):=by kernel_rfl
theorem TO (g f:Nat→Nat) (d:Bool) (m:Nat):dP prog (qG prog) f54.ntmps (DG g d (fun _=>none)) 60 (cA (cB cM)) (ON f m) (ON f m)=some ([],.nrm,(ON f m)):=by kernel_rfl
theorem TN (g f:Nat→Nat) (d h:Bool) (m:Nat):dP prog (qG prog) f54.ntmps (DG g d (assoc [(16,.bool h)])) 60 (cA (cB (cB cM))) (ON f m) (XL f m h)=some ([bH .geq .u8 (Int.ofNat (f 31)) 128=some (.bool h)],.nrm,(XL f m h)):=by kernel_rfl
theorem TM (g f:Nat→Nat) (d h:Bool) (m:Nat):dP prog (qY prog (YD f g)) f54.ntmps (DG g d (fun _=>none)) 60 (cA (cB (cB (cB cM)))) (XL f m h) (SO f m h)=some ([32=32,aA (bj f)=aA (bj f)],.nrm,(SO f m h)):=by kernel_rfl
theorem TL (g f:Nat→Nat) (d h:Bool) (m cap:Nat):dP prog (qG prog) f54.ntmps (DG g d (assoc [(22,.int .u8 (Int.ofNat (f 31%128)))])) 60 (cA (cB (cB (cB (cB cM))))) (.slot 6 (.sl 18 0 32 cap)::SO f m h) (NE f m h cap (eH f))=some ([bH .rem .u8 (Int.ofNat (f 31)) 128=some (.int .u8 (Int.ofNat (f 31%128)))],.nrm,(NE f m h cap (eH f))):=by kernel_rfl
theorem TK (g f:Nat→Nat) (d h:Bool) (m cap b:Nat):dP prog (qY prog (YD f g)) f54.ntmps (DG g d (fun _=>none)) 60 (cA (cB (cB (cB (cB (cB cM)))))) (.at 18 b::NE f m h cap g) (NE f m h cap (dD g))=some ([0=0,32=32,aA (bj g)=aA (bj g)],.nrm,(NE f m h cap (dD g))):=by kernel_rfl
theorem OL (g f:Nat→Nat) (h:Bool) (m cap:Nat):dP prog (qG prog) f54.ntmps (DG g true (fun _=>none)) 60 (cA (cB (cB (cB (cB (cB (cB cM))))))) (NE f m h cap g) (TR h (Go.Proofs.Ytjeplinbleofnaa.iU g 0 32) 0)=some ([32=32,aA (bj g)=aA (bj g),∀k,g k<256,Go.Proofs.Ytjeplinbleofnaa.iU g 0 32<RM],.nrm,(TR h (Go.Proofs.Ytjeplinbleofnaa.iU g 0 32) 0)):=by kernel_rfl
theorem OM (g f:Nat→Nat) (h:Bool) (m cap:Nat):dP prog (qG prog) f54.ntmps (DG g false (fun _=>none)) 60 (cA (cB (cB (cB (cB (cB (cB cM))))))) (NE f m h cap g) (TR h 0 21)=some ([32=32,aA (bj g)=aA (bj g),∀k,g k<256,¬Go.Proofs.Ytjeplinbleofnaa.iU g 0 32<RM],.nrm,(TR h 0 21)):=by kernel_rfl
theorem ND (g:Nat→Nat) (d h:Bool) (y:Nat) (e:Int):dP prog (qG prog) f54.ntmps (DG g d (fun _=>none)) 60 (cB (cB (cB (cB (cB (cB (cB cM))))))) (TR h y e) (Af h y e)=some ([],.rt,(Af h y e)):=by kernel_rfl
theorem DE (p:Option Addr) (n m:Nat):cL prog (qG prog) (fun _=>⟨fun _=>T0,fun _=>true,assoc [(11,.bool true)]⟩) f54 60 [.v (.im (.slice p n m))]=some ([bH .neq .i64 (Int.ofNat n) 32=some (.bool true)],.many [.fl TQ,.im (.bool false),.im (.int .i64 3)]):=by kernel_rfl
theorem OI {a:Nat}:bH .geq .u8 (Int.ofNat a) 128=some (.bool (decide (128≤a))):=by
 show some (Value.bool (decide (Int.ofNat a≥128)))=_;congr 2;exact decide_eq_decide.2 (by show (128:Int)≤(a:Int)↔_; omega)
theorem OH {a:Nat}:bH .rem .u8 (Int.ofNat a) 128=some (.int .u8 (Int.ofNat (a%128))):=by
 show (if (128:Int)=0 then none else some (Value.int .u8 ((Int.ofNat a).tmod 128)))=_;rw[if_neg (by decide)];rfl
theorem xI {f:Nat→Nat} (h:∀k,f k<256) (k:Nat):dD (eH f) k<256:=by
 unfold dD eH;cases Nat.beq (31-k) 31
 ·exact h _
 ·exact Nat.lt_of_le_of_lt (Nat.mod_le _ _) (h 31)
def XK (f:Nat→Nat) (d:Bool):RV:=bif d then .many [.fl [.q (yJ f)],.im (.bool (mR f)),.im (.int .i64 0)]else .many [.fl [.q 0],.im (.bool (mR f)),.im (.int .i64 21)]
theorem DF (f:Nat→Nat) (m:Nat) (hf:∀k,f k<256) (d:Bool) (hd:bif d then yJ f<RM else ¬yJ f<RM) (args:List Value) (w:World) (ha:bZ w [.s (bj f) 32 m] args):bF prog 54 (XK f d) args w:=by
 have hG:dA prog (qG prog) w.heap.size w:=(aX _).w _ _;have hT:∀num (n x:Nat),TabOkW prog ((DG (dD (eH f)) d num n).T x) w.heap.size w:=fun _ _ _=>(EZ _ d).w _ _
 refine kE func54 (c:=cM) rfl ha (Nat.le_of_ble_eq_true (by kernel_rfl)) fun a w' hA => ?_
 rw[JG];refine wp_seq (aN aY (hT _) hG (TP (dD (eH f)) f d m) trivial hA fun a w' hA => ?_);refine wp_seq (aN aY (hT _) hG (TO (dD (eH f)) f d m) trivial hA fun a w' hA => ?_);refine wp_seq (aN aY (hT _) hG (TN (dD (eH f)) f d (mR f) m) ⟨OI,trivial⟩ hA fun a w' hA => ?_);have hT':∀g num (n x:Nat),TabOkW prog ((DG g d num n).T x) w.heap.size w:=fun g _ _ _=>(EZ g d).w _ _
 refine wp_seq (aN aY (hT' (eH f) _) (CW f (eH f) w) (TM (eH f) f d (mR f) m) ⟨rfl,rfl,trivial⟩ hA fun a w' hA => ?_);obtain⟨cap,hcap,hA⟩:=hA.soSl (s:=6) (k:=18) (n:=32) (e:=5) (sz:=1) (l:=bj f) (by simp[SO]) (by simp[SO]) (by simp[SO]);refine wp_seq (aN aY (hT _) hG (TL (dD (eH f)) f d (mR f) m cap) ⟨OH,trivial⟩ hA fun a w' hA => ?_);obtain⟨b,hA⟩:=hA.at (k:=18) (l:=bj (eH f)) (by simp[NE]);refine wp_seq (aN aY (hT' (eH f) _) (CW f (eH f) w) (TK (eH f) f d (mR f) m cap b) ⟨rfl,rfl,rfl,trivial⟩ hA fun a w' hA => ?_);cases d
 ·refine wp_seq (aN aY (hT _) hG (OM (dD (eH f)) f (mR f) m cap) ⟨rfl,rfl,xI hf,hd,trivial⟩ hA fun a w' hA => ?_);exact aN aY (hT _) hG (ND (dD (eH f)) false (mR f) 0 21) trivial hA fun a w' hA=>oA (l:=[.fl [.q 0],.im (.bool (mR f)),.im (.int .i64 21)]) (r:=XK f false) (by kernel_rfl) (by kernel_rfl) hA
 ·refine wp_seq (aN aY (hT _) hG (OL (dD (eH f)) f (mR f) m cap) ⟨rfl,rfl,xI hf,hd,trivial⟩ hA fun a w' hA => ?_);exact aN aY (hT _) hG (ND (dD (eH f)) true (mR f) (Go.Proofs.Ytjeplinbleofnaa.iU (dD (eH f)) 0 32) 0) trivial hA fun a w' hA=>oA (l:=[.fl [.q (yJ f)],.im (.bool (mR f)),.im (.int .i64 0)]) (r:=XK f true) (by kernel_rfl) (by kernel_rfl) hA
def QO (f:Nat→Nat) (d:Bool):jO
 | [.s l n m]=>some ([n=32,aA l=aA (bj f),∀k,f k<256,(bif d then yJ f<RM else ¬yJ f<RM)],XK f d)
 | [.v (.im (.slice p n m))]=>some ([bH .neq .i64 (Int.ofNat n) 32=some (.bool true)],.many [.fl TQ,.im (.bool false),.im (.int .i64 3)])
 | _=>none
theorem ZG (f:Nat→Nat) (d:Bool):∀cs pre r,QO f d cs=some (pre,r)→aQ pre→∀(args:List Value) (w:World),bZ w cs args→bF prog 54 r args w:=by
 intro cs pre r hg hp args w ha;unfold QO at hg;split at hg
 ·rename_i l n m;cases hg;obtain⟨rfl,he,hf,hd,_⟩:=hp;exact DF f m hf d hd args w (IH he ha)
 ·rename_i p n m;cases hg;exact aK aY (fun _ _=>jA _) (aX _) func54 (DE p n m) hp ha
 ·cases hg
def QN (d:Bool) (V:Nat) (P:NP) (e:Int):jO
 | [.v (.fl l),.v (.im (.bool h))]=>match oR l with
  | some y=>bif d then some ([y<RM,V<RM,aM V V=lL y,bP RM V=true,yC y V h=dW P e],dW P e)else some ([y<RM,rE RM (lL y) = -1],dW (0,0) 41)
  | none=>none
 | _=>none
theorem VT (d:Bool) (V:Nat) (P:NP) (e:Int):∀cs pre r,QN d V P e cs=some (pre,r)→aQ pre→∀(args:List Value) (w:World),bZ w cs args→bF prog 55 r args w:=by
 intro cs pre r hg hp args w ha;unfold QN at hg;split at hg
 ·rename_i l h;split at hg
  ·rename_i y hy;cases d
   ·cases hg;exact VU false V [.v (.fl l),.v (.im (.bool h))] _ _ (by simp only[XT,hy]; rfl) hp args w ha
   ·cases hg;obtain⟨h1,h2,h3,h4,h5,_⟩:=hp;have:=VU true V [.v (.fl l),.v (.im (.bool h))] [y<RM,V<RM,aM V V=lL y,bP RM V=true] (yC y V h) (by simp only[XT,hy]; rfl) ⟨h1,h2,h3,h4,trivial⟩ args w ha;rw[h5]at this;exact this
  ·cases hg
 ·cases hg
def oN (f:Nat→Nat) (t d:Bool) (V:Nat) (P:NP) (e k:Int):Tab:=((T0.add 54 (QO f t)).add 55 (QN d V P e)).add 16 (LP k)
theorem kY (f:Nat→Nat) (t d:Bool) (V:Nat) (P:NP) (e k:Int):TabOk prog (oN f t d V P e k):=(((jA _).ad func54 (ZG f t)).ad func55 (VT d V P e)).ad func16 (rK jJ k)
theorem YK (f:Nat→Nat) (p:Option Addr) (n m:Nat):cL prog (qG prog) (fun _=>⟨fun _=>oN f true true 0 (0,0) 0 0,fun _=>true,fun _=>none⟩) f27 60 [.v (.im (.slice p n m))]=some ([bH .neq .i64 (Int.ofNat n) 32=some (.bool true)],.many [.fl oS,.im (.int .i64 3)]):=by kernel_rfl
theorem YP (f:Nat→Nat) (m:Nat):cL prog (qG prog) (fun _=>⟨fun _=>oN f false true 0 (0,0) 0 0,fun _=>true,fun _=>none⟩) f27 60 [.s (bj f) 32 m]=some ([32=32,aA (bj f)=aA (bj f),∀k,f k<256,¬yJ f<RM],.many [.fl oS,.im (.int .i64 21)]):=by kernel_rfl
theorem YM (f:Nat→Nat) (m:Nat):cL prog (qG prog) (fun _=>⟨fun _=>oN f true false 0 (0,0) 0 0,fun _=>true,fun _=>none⟩) f27 60 [.s (bj f) 32 m]=some ([32=32,aA (bj f)=aA (bj f),∀k,f k<256,yJ f<RM,yJ f<RM,rE RM (lL (yJ f)) = -1],.many [.fl oS,.im (.int .i64 41)]):=by kernel_rfl
theorem YO (f:Nat→Nat) (m V:Nat) (P:NP):cL prog (qG prog) (fun _=>⟨fun _=>oN f true true V P 44 0,fun _=>true,fun _=>none⟩) f27 60 [.s (bj f) 32 m]=some ([32=32,aA (bj f)=aA (bj f),∀k,f k<256,yJ f<RM,yJ f<RM,V<RM,aM V V=lL (yJ f),bP RM V=true,yC (yJ f) V (mR f)=dW P 44],.many [.fl oS,.im (.int .i64 44)]):=by kernel_rfl
theorem YN (f:Nat→Nat) (m V:Nat) (P:NP) (k:Int):cL prog (qG prog) (fun _=>⟨fun _=>oN f true true V P 0 k,fun _=>true,assoc [(32,.bool true)]⟩) f27 60 [.s (bj f) 32 m]=some ([32=32,aA (bj f)=aA (bj f),∀k,f k<256,yJ f<RM,yJ f<RM,V<RM,aM V V=lL (yJ f),bP RM V=true,yC (yJ f) V (mR f)=dW P 0,P.1<bE,P.2<bE,eI P=k,bH .neq .i64 k 0=some (.bool true)],.many [.fl oS,.im (.int .i64 k)]):=by kernel_rfl
theorem YL (f:Nat→Nat) (m V:Nat) (P:NP):cL prog (qG prog) (fun _=>⟨fun _=>oN f true true V P 0 0,fun _=>true,fun _=>none⟩) f27 60 [.s (bj f) 32 m]=some ([32=32,aA (bj f)=aA (bj f),∀k,f k<256,yJ f<RM,yJ f<RM,V<RM,aM V V=lL (yJ f),bP RM V=true,yC (yJ f) V (mR f)=dW P 0,P.1<bE,P.2<bE,eI P=0],dW P 0):=by kernel_rfl
def CP (f:Nat→Nat) (R:RV):Prop:=∀m args w,bZ w [.s (bj f) 32 m] args→bF prog 27 R args w
theorem EB (p:Option Addr) (n m:Nat) (hn:n≠32) (w:World):bF prog 27 (dW (0,0) 3) [.slice p n m] w :=
 aK aY (fun _ _=>kY _ _ _ _ _ _ _) (aX _) func27 (YK (fun _=>0) p n m) ⟨by
  show some (Value.bool ((n:Int) != 32))=_;rw[bne_iff_ne.2 (by omega)],trivial⟩ (args:=[.slice p n m]) ⟨rfl,trivial⟩
theorem YT {f:Nat→Nat} (hf:∀k,f k<256) (hy:¬yJ f<RM):CP f (dW (0,0) 21):=fun m args w ha =>
 aK aY (fun _ _=>kY _ _ _ _ _ _ _) (aX _) func27 (YP f m) ⟨rfl,rfl,hf,hy,trivial⟩ ha
theorem YQ {f:Nat→Nat} (hf:∀k,f k<256) (hy:yJ f<RM) (hl:rE RM (lL (yJ f)) = -1):CP f (dW (0,0) 41):=fun m args w ha =>
 aK aY (fun _ _=>kY _ _ _ _ _ _ _) (aX _) func27 (YM f m) ⟨rfl,rfl,hf,hy,hy,hl,trivial⟩ ha
theorem YS {f:Nat→Nat} {V:Nat} {P:NP} (hf:∀k,f k<256) (hy:yJ f<RM) (hV:V<RM) (hVV:aM V V=lL (yJ f)) (hl:bP RM V=true) (hw:yC (yJ f) V (mR f)=dW P 44):CP f (dW (0,0) 44):=fun m args w ha =>
 aK aY (fun _ _=>kY _ _ _ _ _ _ _) (aX _) func27 (YO f m V P) ⟨rfl,rfl,hf,hy,hy,hV,hVV,hl,hw,trivial⟩ ha
theorem YR {f:Nat→Nat} {V:Nat} {P:NP} {k:Int} (hf:∀k,f k<256) (hy:yJ f<RM) (hV:V<RM) (hVV:aM V V=lL (yJ f)) (hl:bP RM V=true) (hw:yC (yJ f) V (mR f)=dW P 0) (hP:w2 P) (hk:eI P=k) (h0:k≠0):CP f (dW (0,0) k):=fun m args w ha =>
 aK aY (fun _ _=>kY _ _ _ _ _ _ _) (aX _) func27 (YN f m V P k) ⟨rfl,rfl,hf,hy,hy,hV,hVV,hl,hw,hP.1,hP.2,hk,by
  show some (Value.bool (k != 0))=_;rw[bne_iff_ne.2 h0],trivial⟩ ha
theorem UE {f:Nat→Nat} {V:Nat} {P:NP} (hf:∀k,f k<256) (hy:yJ f<RM) (hV:V<RM) (hVV:aM V V=lL (yJ f)) (hl:bP RM V=true) (hw:yC (yJ f) V (mR f)=dW P 0) (hP:w2 P) (hk:eI P=0):CP f (dW P 0):=fun m args w ha =>
 aK aY (fun _ _=>kY _ _ _ _ _ _ _) (aX _) func27 (YL f m V P) ⟨rfl,rfl,hf,hy,hy,hV,hVV,hl,hw,hP.1,hP.2,hk,trivial⟩ ha
theorem BC {M g:Nat} (hr:Root M g) (h2:2<M) (ho:M%2=1) {a:Nat} (h0:0<a) (h:a<M) (hl:a^(M/2)%M=1):∃V,V<M∧V*V%M=a:=by
 obtain⟨k,hk,e⟩:=hr.2.2.2 a h0 h;obtain⟨j,hj|hj⟩:∃j,k=2*j∨k=2*j+1:=⟨k/2,by omega⟩
 ·refine⟨g^j%M,Nat.mod_lt _ (by omega),?_⟩;rw[←Nat.mul_mod,←Nat.pow_add,←Nat.two_mul,←hj,e]
 ·exfalso;have hm:M/2+M/2=M-1:=by omega
  have e1:a^(M/2)%M=g^(k*(M/2))%M:=by
   rw[←e,Nat.pow_mul,Nat.pow_mod (g^k%M),Nat.mod_mod,←Nat.pow_mod]
  have e2:k*(M/2)=(M-1)*j+M/2:=by
   rw[hj,←hm,Nat.add_mul,Nat.one_mul,Nat.add_mul,Nat.mul_assoc,Nat.mul_comm j (M/2)];omega
  rw[e1,e2,Nat.pow_add,Nat.mul_mod,Nat.pow_mul,Nat.pow_mod (g^(M-1)),hr.2.1,Nat.one_pow,Nat.mod_eq_of_lt hr.1,Nat.one_mul,Nat.mod_mod]at hl;exact hr.2.2.1 (M/2) (by omega) (by omega) hl
theorem vT:RM%2=1:=by decide
theorem yM {V:Nat} (hV:V<RM):aM (dU 0 V) (dU 0 V)=aM V V:=by
 have h:cR (aM (dU 0 V) (dU 0 V))=cR (aM V V):=by
  rw[cC,cC,cH 0 hV];exact aI KR (bA KR [cR V]) ((RE.zero-Z0)*(RE.zero-Z0)) (Z0*Z0) (by kernel_rfl)
 exact mK (aC _ _) (aC _ _) h
theorem sQ {V:Nat} (hV:V<RM) (h0:V≠0):dU 0 V=RM-V:=by
 unfold dU;rw[Nat.zero_add,Nat.mod_eq_of_lt (by omega)]
theorem pM:bP RM 0=true:=(eT cO).2 (by decide)
theorem JW {x:Nat} (hx:x<RM):rE RM x = -1∨∃V,V<RM∧aM V V=x∧bP RM V=true:=by
 by_cases h0:x=0
 ·exact Or.inr ⟨0,cO,by rw[h0]; rfl,pM⟩
 ·by_cases h1:x^(RM/2)%RM=1
  ·obtain⟨V,hV,hVV⟩:=BC SR (by decide) vT (Nat.pos_of_ne_zero h0) hx h1;have hVV:aM V V=x:=hVV;have hv0:V≠0:=fun q=>h0 (by rw[←hVV,q]; rfl)
   cases hl:bP RM V
   ·refine Or.inr ⟨dU 0 V,bD _ _,by rw[yM hV,hVV],?_⟩;rw[sQ hV hv0];have h2:¬ 2*V<RM:=fun q=>by rw[(eT hV).2 q]at hl; cases hl
    have ho:=vT;exact (eT (by omega)).2 (by omega)
   ·exact Or.inr ⟨V,hV,hVV,hl⟩
  ·refine Or.inl ?_;unfold rE;rw[if_neg h0,if_neg h1]
theorem UM {x y:Nat} (h:OnJ x y):aM x x=lL y:=by
 have e:=EW h.2;have hd:=oI h.1.2;have e1:cR (gI y)=KR.sub aR (KR.mul dR (KR.mul (cR y) (cR y))):=by
  unfold gI;rw[cH _ (aC _ _),cC,cC];rfl
 have e2:cR (lL y)=KR.mul (KR.sub KR.one (KR.mul (cR y) (cR y))) (BD (cR (gI y))):=by
  have e3:lL y=aM (dU 1 (aM y y)) (qV 1 (gI y)):=by
   show dU 1 (aM y y)*gI y^(RM-2)%RM=dU 1 (aM y y)*(1*gI y^(RM-2)%RM)%RM;rw[Nat.one_mul,Nat.mul_mod_mod]
  rw[e3,cC,vE (show gI y<RM from bD _ _),cH _ (aC _ _),cC,yG]
 refine mK (aC _ _) (fQ _ _) ?_;rw[cC,e2];have e0:KR.add (KR.mul aR (KR.mul (cR x) (cR x))) (KR.mul (cR y) (cR y))=KR.add KR.one (KR.mul dR (KR.mul (KR.mul (cR x) (cR x)) (KR.mul (cR y) (cR y)))):=e;have hi:=VO.inv _ (HU (cR y));rw[e1];generalize BD (KR.sub aR (KR.mul dR (KR.mul (cR y) (cR y))))=k at hi ⊢;generalize KR.mul (cR x) (cR x)=u at e0 ⊢;generalize KR.mul (cR y) (cR y)=w at e0 hi ⊢;exact gP (K:=KR) (c1:=k) (c2:=(KR.neg u)) e0 hi (aI KR (bA KR [u,w,k,aR,dR]) (Z0-(RE.one-Z1)*Z2) (Z2*(Z3*Z0+Z1-(RE.one+Z4*(Z0*Z1)))+(-Z0)*((Z3-Z4*Z1)*Z2-RE.one)) (by kernel_rfl))
theorem JE {x y:Nat} (h:OnJ x y):∃V,V<RM∧aM V V=lL y∧bP RM V=true∧yC y V (!bP RM x)=dW (x,y) 0:=by
 have hs:=UM h;cases hl:bP RM x
 ·have hx0:x≠0:=fun q=>by rw[q,pM]at hl; cases hl
  have hx:=h.1.1;have h2:¬ 2*x<RM:=fun q=>by rw[(eT hx).2 q]at hl; cases hl
  have ho:=vT;refine⟨dU 0 x,bD _ _,by rw[yM hx,hs],?_,?_⟩
  ·rw[sQ hx hx0];exact (eT (by omega)).2 (by omega)
  ·show (if dU 0 x=0 then dW (0,0) 44 else dW (dU 0 (dU 0 x),y) 0)=_;rw[sQ hx hx0,if_neg (show ¬RM-x=0 by omega),sQ (show RM-x<RM by omega) (show RM-x≠0 by omega),show RM-(RM-x)=x by omega]
 ·exact⟨x,h.1.1,hs,hl,rfl⟩
theorem uC {B C:Nat→Nat} (hB:∀k,B k<256) (hC:∀k,C k<256):∀n,Go.Proofs.Ytjeplinbleofnaa.iU B 0 n=Go.Proofs.Ytjeplinbleofnaa.iU C 0 n→∀k,k<n→B k=C k
 | 0,_,k,hk=>by omega
 | n+1,e,k,hk=>by
  have e:Go.Proofs.Ytjeplinbleofnaa.iU B 0 n*256+B (0+n)=Go.Proofs.Ytjeplinbleofnaa.iU C 0 n*256+C (0+n):=e;rw[Nat.zero_add]at e;have h1:=hB n;have h2:=hC n
  by_cases q:k=n
  ·subst q; omega
  ·exact uC hB hC n (by omega) k (by omega)
theorem uD {B C:Nat→Nat}:∀n,(∀k,k<n→B k=C k)→Go.Proofs.Ytjeplinbleofnaa.iU B 0 n=Go.Proofs.Ytjeplinbleofnaa.iU C 0 n
 | 0,_=>rfl
 | n+1,h=>by
  show Go.Proofs.Ytjeplinbleofnaa.iU B 0 n*256+B (0+n)=Go.Proofs.Ytjeplinbleofnaa.iU C 0 n*256+C (0+n);rw[uD n (fun k hk=>h k (by omega)),Nat.zero_add,h n (by omega)]
theorem VI {B:Nat→Nat} (hB:∀k,B k<256):Go.Proofs.Ytjeplinbleofnaa.iU B 0 32<bE:=by
 have:=GA hB 0 32;exact Nat.lt_of_lt_of_eq this (by decide)
theorem uQ {B:Nat→Nat} (hB:∀k,B k<256) (k:Nat) (hk:k<32):aS (Go.Proofs.Ytjeplinbleofnaa.iU B 0 32) k=B k :=
 uC (fun k=>iS _ k) hB 32 (uE (VI hB)) k hk
theorem mI {y:Nat} (hy:y<RM):aS y 0<128:=by
 unfold aS;have h:y/256^(31-0)<128:=by
  rw[Nat.div_lt_iff_lt_mul (by decide)];exact Nat.lt_trans hy (by decide)
 rw[Nat.mod_eq_of_lt (by omega)];exact h
theorem NM:∀b,b<128→b ||| 128=b+128:=by decide
theorem MG (p:NP) (hy:p.2<RM) (k:Nat):eU p k<256:=by
 unfold eU;cases bP RM p.1
 ·show tO (dD (aS p.2)) k<256;unfold tO;cases Nat.beq k 31
  ·exact iS _ _
  ·show aS p.2 0 ||| 128<256
   have:=mI hy;rw[NM _ this];omega
 ·exact iS _ _
theorem mT (p:NP) (hy:p.2<RM):eU p 31=bif bP RM p.1 then aS p.2 0 else aS p.2 0+128:=by
 unfold eU;cases bP RM p.1
 ·show aS p.2 0 ||| 128=_
  rw[NM _ (mI hy)];rfl
 ·rfl
theorem xN (p:NP) {k:Nat} (hk:k≠31):eU p k=aS p.2 (31-k):=by
 unfold eU;cases bP RM p.1
 ·show tO (dD (aS p.2)) k=_;unfold tO;rw[show Nat.beq k 31=false from Bool.eq_false_iff.2 fun q=>hk (Nat.eq_of_beq_eq_true q)];rfl
 ·rfl
theorem QM (p:NP) (hy:p.2<RM):mR (eU p) = !bP RM p.1:=by
 unfold mR;rw[mT p hy];have:=mI hy;cases bP RM p.1
 ·exact decide_eq_true (by show 128≤aS p.2 0+128; omega)
 ·exact decide_eq_false (by show ¬ 128≤aS p.2 0; omega)
theorem CV (p:NP) (hy:p.2<RM):yJ (eU p)=p.2:=by
 have e:yJ (eU p)=Go.Proofs.Ytjeplinbleofnaa.iU (aS p.2) 0 32:=by
  unfold yJ;refine uD 32 fun k hk => ?_
  unfold dD eH
  by_cases h:k=0
  ·subst h;show eU p 31%128=aS p.2 0;rw[mT p hy];have:=mI hy;cases bP RM p.1
   ·show (aS p.2 0+128)%128=_; omega
   ·show aS p.2 0%128=_; omega
  ·rw[show Nat.beq (31-k) 31=false from Bool.eq_false_iff.2 fun q=>by have:=Nat.eq_of_beq_eq_true q; omega];show eU p (31-k)=_;rw[xN p (by omega),show 31-(31-k)=k by omega]
 rw[e,uE (fB hy)]
theorem rQ {p q:NP} {a b:Int} (h:dW p a=dW q b):p=q∧a=b:=by
 unfold dW at h;simp only[RV.many.injEq,List.cons.injEq,TV.fl.injEq,At.q.injEq,TV.im.injEq,Value.int.injEq,true_and,and_true]at h;exact⟨Prod.ext h.1.1 h.1.2,h.2⟩
theorem RX {f:Nat→Nat} (hf:∀k,f k<256) (hy:yJ f<RM) {V:Nat} {P:NP} (hV:V<RM) (hl:bP RM V=true) (hw:yC (yJ f) V (mR f)=dW P 0):∀k,k<32→eU P k=f k:=by
 have hby:∀k,k<32→aS (yJ f) k=dD (eH f) k:=uQ (xI hf)
 have h31:=hf 31;intro k hk;have h2:=(eT hV).1 hl;cases hh:mR f
 ·rw[hh]at hw;obtain⟨rfl,_⟩:=rQ (show dW (V,yJ f) 0=dW P 0 from hw);have hlt:f 31<128:=by
   have:=of_decide_eq_false hh;omega
  by_cases q:k=31
  ·subst q;rw[mT _ hy,hl];show aS (yJ f) 0=_;rw[hby 0 (by decide)];show f 31%128=f 31;omega
  ·rw[xN _ q,hby (31-k) (by omega)];unfold dD eH;rw[show 31-(31-k)=k by omega,show Nat.beq k 31=false from Bool.eq_false_iff.2 fun e=>q (Nat.eq_of_beq_eq_true e)];rfl
 ·rw[hh]at hw;have hge:128≤f 31:=of_decide_eq_true hh;have hw:(if V=0 then dW (0,0) 44 else dW (dU 0 V,yJ f) 0)=dW P 0:=hw
  by_cases hz:V=0
  ·rw[if_pos hz]at hw;have:=(rQ hw).2;omega
  ·rw[if_neg hz]at hw;obtain⟨rfl,_⟩:=rQ hw;have hlx:bP RM (dU 0 V)=false:=by
    rw[Bool.eq_false_iff];intro q;have:=(eT (bD 0 V)).1 q;rw[sQ hV hz]at this;omega
   by_cases q:k=31
   ·subst q;rw[mT _ hy];show (bif bP RM (dU 0 V)then aS (yJ f) 0 else aS (yJ f) 0+128)=_;rw[hlx,hby 0 (by decide)];show f 31%128+128=f 31;omega
   ·rw[xN _ q,hby (31-k) (by omega)];unfold dD eH;rw[show 31-(31-k)=k by omega,show Nat.beq k 31=false from Bool.eq_false_iff.2 fun e=>q (Nat.eq_of_beq_eq_true e)];rfl
def LL (f:Nat→Nat) (R:RV):jO
 | [.s l n m]=>some ([n=32,aA l=aA (bj f),CP f R],R)
 | [.v (.im v)]=>some ([∀w,bF prog 27 R [v] w],R)
 | _=>none
theorem NX (f:Nat→Nat) (R:RV):∀cs pre r,LL f R cs=some (pre,r)→aQ pre→∀(args:List Value) (w:World),bZ w cs args→bF prog 27 r args w:=by
 intro cs pre r hg hp args w ha;unfold LL at hg;split at hg
 ·rename_i l n m;cases hg;obtain⟨rfl,he,hR,_⟩:=hp;exact hR m args w (IH he ha)
 ·rename_i v;cases hg
  match args,ha with
  | [u],ha =>
   have e:u=v:=ha.1;subst e;exact hp.1 w
  | [],ha=>exact ha.elim
  | _::_::_,ha=>exact ha.2.elim
 ·cases hg
def RB:List CA→Option (List Prop×FR)
 | [.v (.fl l)]=>match PA l with
  | some p=>some ([OnJ p.1 p.2,eI p=0],⟨bj (eU p),32,32,[.im (.int .i64 0)]⟩)
  | none=>none
 | _=>none
theorem LQ:∀cs pre r,RB cs=some (pre,r)→aQ pre→∀(args:List Value) (w:World),bZ w cs args→Calls prog 26 args.toArray w (fun e w'=>r.ok w e w'):=by
 intro cs pre r hg hp args w ha;unfold RB at hg;split at hg
 ·rename_i l;split at hg
  ·rename_i p hx;cases hg;refine BV p hp.1 hp.2.1 args w ?_
   match args,ha with
   | [v],ha =>
    refine⟨?_,trivial⟩;show v=.agg (aA (q2 p)).toArray;rw[←nF l p hx]; exact ha.1
   | [],ha=>exact ha.elim
   | _::_::_,ha=>exact ha.2.elim
  ·cases hg
 ·cases hg
def Bc:Tab2:=TH.add 26 RB
theorem SN:FrOk prog Bc:=(yA _).ad func26 LQ
def XJ:Ext:={ Ext.none with T2:=Bc,T3:=TG,T4:=WY,T5:=XD,T6:=YB }
theorem vD (w:World):dA prog (qY prog XJ) w.heap.size w:=EE SN (fun _ _ _ h=>h.elim) (xY _) (sB _) (lK _) (oO _)
def MP (f1 f2:Nat→Nat) (R1 R2:RV) (s:Nat):Tab:=(((((T0.add 15 LN).add 22 (g0 (.one (.im (.bool true))))).add 18 (g0 (.one (.fl [.q bX,.q bY])))).add 11 (QT true)).add 28 GD).add 27 (bif Nat.beq s 30 then LL f1 R1 else LL f2 R2)
theorem FA (f1 f2:Nat→Nat) (R1 R2:RV) (s:Nat):TabOk prog (MP f1 f2 R1 R2 s):=((((((jA _).ad func15 VX).ad func22 (nZ IU)).ad func18 (nZ mB)).ad func11 (zG nQ true)).ad func28 GC).ad func27 (by
 cases Nat.beq s 30
 ·exact NX f2 R2
 ·exact NX f1 R1)
def pN (n:Nat):NP:=oZ (bX,bY) n
def XY (n:Nat):List Prop:=[bX<bE,bY<bE,kP bX bY=true,OnJ (pN n).1 (pN n).2,eI (pN n)=0,32=32,aA (bj (eU (pN n)))=aA (bj (eU (pN n))),CP (eU (pN n)) (dW (pN n) 0),aA [At.q (pN n).1,.q (pN n).2]=aA [At.q (pN n).1,.q (pN n).2]]
theorem ZS (f:Nat→Nat) (n:Nat) (v:Value) (c:Int):cL prog (qY prog XJ) (fun _=>⟨MP (eU (pN n)) f (dW (pN n) 0) (dW (0,0) c),fun _=>true,assoc [(54,.bool true)]⟩) f6 120 [.v (.fl [.q n]),.v (.im v)]=some (XY n++[∀w,bF prog 27 (dW (0,0) c) [v] w,bH .neq .i64 c 0=some (.bool true),aA [At.q 0,.q 0]=aA oS],.one (.im (.bool true))):=by kernel_rfl
theorem ZU (f:Nat→Nat) (n m:Nat) (c:Int):cL prog (qY prog XJ) (fun _=>⟨MP (eU (pN n)) f (dW (pN n) 0) (dW (0,0) c),fun _=>true,assoc [(54,.bool true)]⟩) f6 120 [.v (.fl [.q n]),.s (bj f) 32 m]=some (XY n++[32=32,aA (bj f)=aA (bj f),CP f (dW (0,0) c),bH .neq .i64 c 0=some (.bool true),aA [At.q 0,.q 0]=aA oS],.one (.im (.bool true))):=by kernel_rfl
theorem ZT (f:Nat→Nat) (n m:Nat) (P:NP):cL prog (qY prog XJ) (fun _=>⟨MP (eU (pN n)) f (dW (pN n) 0) (dW P 0),fun _=>true,fun _=>none⟩) f6 120 [.v (.fl [.q n]),.s (bj f) 32 m]=some (XY n++[32=32,aA (bj f)=aA (bj f),CP f (dW P 0),OnJ P.1 P.2,eI P=0,32=32,32<4611686018427387904,∃Q,YA (bj (eU P)) 32 Q∧YA (bj f) 32 Q],.one (.im (.bool true))):=by kernel_rfl
theorem NL (n:Nat):pN n=cj (gH.grp.ns (wv n) (jp jL)):=yZ (p:=(bX,bY)) jL n
theorem EQ (n:Nat):eI (pN n)=0:=by
 rw[NL,rW (xL _),VD,if_pos];rw[←gH.grp.ns_mul,Nat.mul_comm,gH.grp.ns_mul,show gH.grp.ns lJ (jp jL)=gH.grp.zero from IQ,gH.grp.ns_zero]
theorem NK (n:Nat):OnJ (pN n).1 (pN n).2:=by rw[NL]; exact xL _
theorem KB {p:NP} (hp:OnJ p.1 p.2) (hk:eI p=0):CP (eU p) (dW p 0):=by
 obtain⟨V,hV,hVV,hl,hw⟩:=JE hp;refine UE (V:=V) (P:=p) (MG p hp.1.2) ?_ hV ?_ hl ?_ hp.w hk
 ·rw[CV p hp.1.2]; exact hp.1.2
 ·rw[CV p hp.1.2]; exact hVV
 ·rw[CV p hp.1.2,QM p hp.1.2]; exact hw
theorem xQ (n:Nat):aQ (XY n):=⟨(OnJ.w jL).1,(OnJ.w jL).2,EX jL,NK n,EQ n,rfl,rfl,KB (NK n) (EQ n),rfl,trivial⟩
theorem PE {f:Nat→Nat} (hf:∀k,f k<256):(∃c:Int,c≠0∧CP f (dW (0,0) c))∨∃P,CP f (dW P 0)∧OnJ P.1 P.2∧eI P=0∧∀k,k<32→eU P k=f k:=by
 by_cases hy:yJ f<RM
 ·rcases JW (show lL (yJ f)<RM from fQ _ _)with h|⟨V,hV,hVV,hl⟩
  ·exact Or.inl ⟨41,by decide,YQ hf hy h⟩
  ·obtain⟨P,e,hw,he⟩:∃P e,yC (yJ f) V (mR f)=dW P e∧(e=44∨(e=0∧P.1<RM∧P.2<RM)):=by
    unfold yC;cases mR f
    ·exact⟨_,_,rfl,Or.inr ⟨rfl,hV,hy⟩⟩
    ·by_cases hz:V=0
     ·exact⟨(0,0),44,if_pos hz,Or.inl rfl⟩
     ·exact⟨(dU 0 V,yJ f),0,if_neg hz,Or.inr ⟨rfl,bD _ _,hy⟩⟩
   rcases he with rfl|⟨rfl,h1,h2⟩
   ·exact Or.inl ⟨44,by decide,YS hf hy hV hVV hl hw⟩
   ·by_cases hk:eI P=0
    ·refine Or.inr ⟨P,UE hf hy hV hVV hl hw ⟨fB h1,fB h2⟩ hk,?_,hk,RX hf hy hV hl hw⟩;apply Classical.byContradiction;intro hn;rw[ID hn]at hk;exact absurd hk (by decide)
    ·exact Or.inl ⟨_,hk,YR hf hy hV hVV hl hw ⟨fB h1,fB h2⟩ rfl hk⟩
 ·exact Or.inl ⟨21,by decide,YT hf hy⟩
theorem NT {c:Int} (h:c≠0):bH .neq .i64 c 0=some (.bool true):=by
 show some (Value.bool (c != 0))=_;rw[bne_iff_ne.2 h]
theorem oM {l m:List Prop} (h1:aQ l) (h2:aQ m):aQ (l++m):=(bT (l:=l)).2 ⟨h1,h2⟩
theorem xS (n:Nat) (p:Option Addr) (N m:Nat) (hN:N≠32) (w:World):Calls prog 6 #[.agg (aA (q1 n)).toArray,.slice p N m] w (fun e w'=>e=.returned (.bool true)∧Below w.heap.size w w') :=
 fP aY (fun _ s=>(FA _ _ _ _ s).w _ _) (vD w) func6 (ZS (fun _=>0) n (.slice p N m) 3) (oM (xQ n) ⟨fun w=>EB p N m hN w,NT (by decide),rfl,trivial⟩) (args:=[.agg (aA (q1 n)).toArray,.slice p N m]) ⟨rfl,rfl,trivial⟩
theorem MH (n b o m:Nat) (f:Nat→Nat) (hf:∀k,f k<256) (w:World) (hb:b<w.heap.size) (hc:∀k,k<32→w.cell? ⟨b,o+k,none⟩=some (.int .u8 (Int.ofNat (f k)))):Calls prog 6 #[.agg (aA (q1 n)).toArray,.slice (some ⟨b,o,none⟩) 32 m] w (fun e w'=>e=.returned (.bool true)∧Below w.heap.size w w'):=by
 have hr:w.rangeAt b o (aA (bj f)):=fun j v hj=>by
  have hlt:j<32:=by
   have h1:=(List.getElem?_eq_some_iff.1 hj).1
   rwa [aF,show dV (bj f)=32 by kernel_rfl]at h1
  rw[hc j hlt,←hj,iT f j hlt]
 have ha:bZ w [.v (.fl [.q n]),.s (bj f) 32 m] [.agg (aA (q1 n)).toArray,.slice (some ⟨b,o,none⟩) 32 m]:=⟨rfl,⟨b,o,rfl,hb,hr⟩,trivial⟩
 rcases PE hf with⟨c,hc0,hR⟩|⟨P,hR,hP,hk,hby⟩
 ·exact fP aY (fun _ s=>(FA _ _ _ _ s).w _ _) (vD w) func6 (ZU f n m c) (oM (xQ n) ⟨rfl,rfl,hR,NT hc0,rfl,trivial⟩) ha
 ·exact fP aY (fun _ s=>(FA _ _ _ _ s).w _ _) (vD w) func6 (ZT f n m P) (oM (xQ n) ⟨rfl,rfl,hR,hP,hk,rfl,by decide,⟨fun k=>Int.ofNat (f k),fun k hk=>by rw[iT _ k hk,hby k hk],fun k hk=>iT f k hk⟩,trivial⟩) ha
end Go.Proofs.Ytjeplinbleofnaa.Ex
namespace Go.Proofs.Ytjeplinbleofnaa
open Go.Proofs.Try
open Go.ChangeShapes Go.WideShapes Go.ChangeAt Go.RowKit
theorem mP:ownKnob prog.godebug=none:=by kernel_rfl
theorem zC:laidOutB prog=true:=by kernel_rfl
theorem AE:prog.cellsOf 22=1:=by kernel_rfl
theorem VA {α:Type} (l:List α) (h:(⟨l⟩:Array α).size=4):∃a b c d,l=[a,b,c,d]:=by
 match l,h with
 | [a,b,c,d],_=>exact⟨a,b,c,d,rfl⟩
theorem iO {n:Int} (h:(Lit.int .u64 n).wf=true):∃k:Nat,n=(k:Int)∧k<18446744073709551616:=by
 obtain⟨h1,h2⟩:=bounds_u64 h;obtain⟨k,rfl⟩:=Int.eq_ofNat_of_zero_le h1;exact⟨k,rfl,by omega⟩
end Go.Proofs.Ytjeplinbleofnaa
namespace Go.Proofs.Ytjeplinbleofnaa.Ex
open Go.Proofs.Try
open Go.Deep Go.ChangeShapes Go.WideShapes Go.ChangeAt Go.RowKit
theorem MK {P:Program} {W:World} {base:Nat} {t n e:TypeId} {v:Value} (ht:P.underlying t=some (.array n e)) (h:Value.okWide P W .any base t v):∃cs,v=.agg cs:=by
 obtain⟨cs,rfl,_⟩:∃cs,v=.agg cs∧cs.size=P.cellsOf t∧Row.okWide P W .any base t cs:=by
  simpa[Value.okWide,ht]using h
 exact⟨cs,rfl⟩
section
variable {H:Type} {enc:TypeId×Value→H} {W:World}
theorem YV {fuel:Nat} {cs:List Value} {x:DataW H×List MemPlace} (hl:cs.length=4) (h:DataW.trod enc prog W 0 (fun _=>true) true fuel 27 cs=some x):∃n:Nat,cs=aA (q1 n):=by
 obtain⟨c0,c1,c2,c3,rfl⟩:=VA cs hl;obtain⟨y0,y1,y2,y3,m,hx,hy0,hy1,hy2,hy3⟩:=trod_array4 underlying27 AE h;obtain⟨x0,e0,rfl,w0⟩:=DataW.trod_int underlying22 hy0;obtain⟨x1,e1,rfl,w1⟩:=DataW.trod_int underlying22 hy1;obtain⟨x2,e2,rfl,w2⟩:=DataW.trod_int underlying22 hy2;obtain⟨x3,e3,rfl,w3⟩:=DataW.trod_int underlying22 hy3;simp at e0 e1 e2 e3;obtain⟨a0,rfl,k0⟩:=iO w0;obtain⟨a1,rfl,k1⟩:=iO w1;obtain⟨a2,rfl,k2⟩:=iO w2;obtain⟨a3,rfl,k3⟩:=iO w3;subst e0 e1 e2 e3;have hv:aB a0 a1 a2 a3<115792089237316195423570985008687907853269984665640564039457584007913129639936:=by unfold aB; omega
 obtain⟨q0,q1',q2',q3⟩:=gO ⟨k0,k1,k2,k3⟩ hv rfl;refine⟨aB a0 a1 a2 a3,?_⟩;show _=w4 (aB a0 a1 a2 a3);unfold w4;rw[←q0,←q1',←q2',←q3]
theorem PT {base:Nat} {v:Value} {d:DataW H} {ps:List MemPlace} {pt:Array TypeId} {args:Array Value} (hval:∀(j:Nat) t v,pt[j]?=some t→args[j]?=some v→Value.okWide prog W .any base t v) (j:Nat) (hj:pt[j]?=some 27) (ha:args[j]?=some v)
  (h:DataW.Trod enc prog W 0 (fun _=>true) true 27 v d ps):∃x:Nat,v=.agg (aA (q1 x)).toArray:=by
 have hv:=hval j 27 v hj ha;obtain⟨cs,rfl⟩:=MK (t:=27) underlying27 hv;obtain⟨fuel,hf⟩:=h;obtain⟨l⟩:=cs;have hl:l.length=4:=by
  obtain⟨cs',e,hs,_⟩:∃cs,Value.agg ⟨l⟩=.agg cs∧cs.size=prog.cellsOf 27∧Row.okWide prog W .any base 27 cs:=by
   simpa[Value.okWide,underlying27]using hv
  cases e;rw[show prog.cellsOf 27=4 by kernel_rfl]at hs;exact hs
 obtain⟨x,hx⟩:=YV hl hf;subst hx;exact⟨x,rfl⟩
end
end Go.Proofs.Ytjeplinbleofnaa.Ex
