/- Eb12 -/
import Derived.LoopTactic
import Derived.Deep.LoopGhost
import Derived.Outline
import Derived.Deep.RegionWith
import Derived.Test.YtpjlhhpjpnacmaaGreatEb09
import Derived.Test.YtpjlhhpjpnacmaaGreatEb11
import Derived.Test.YtpjlhhpjpnacmaaGreatEb08
import Derived.Test.YtpjlhhpjpnacmaaGreatEb05
import Derived.Test.YtpjlhhpjpnacmaaGreatEb03
import Derived.Test.YtpjlhhpjpnacmaaGreatEb04
import Derived.Test.YtpjlhhpjpnacmaaGreatEb10
import Derived.Test.YtpjlhhpjpnacmaaGreatProg
set_option maxRecDepth 100000
set_option linter.unusedVariables false
set_option linter.unusedSimpArgs false
set_option linter.unnecessarySimpa false
noncomputable section
namespace Go.Proofs.YtpjlhhpjpnacmaaGreat.Ex
open Go.Proofs.Tryz
open Go.RowKit
theorem mP {U:Nat} (hU:U<RM):cR RM U=true↔2*U<RM:=by
 have ho:RM%2=1:=by decide
 unfold cR;rw[decide_eq_true_iff]
 rcases Nat.eq_zero_or_pos U with h|h
 ·subst h;exact⟨fun _=>dJ,fun _=>Nat.zero_le _⟩
 ·rw[Nat.mod_eq_of_lt (by omega)];omega
theorem AX {U V:Nat} (hU:U<RM) (hV:V<RM) (lU:cR RM U=true) (lV:cR RM V=true) (e:U*U%RM=V*V%RM):U=V:=by
 have l1:=(mP hU).1 lU;have l2:=(mP hV).1 lV
 rcases QB Cz DM hU hV e with h|h
 ·exact h
 ·omega
def Jg (d:Bool) (V:Nat):gP
 | [.v (.im (.int .i64 2)),.v (.fl l)]=>match jV l with
  | some x=>bif d then some ([x<RM,V<RM,aI V V=x,cR RM V=true],.many [.fl [.q V],.im (.int .i64 0)])else some ([x<RM,qC RM x = -1],.many [.fl [.q 0],.im (.int .i64 23)])
  | none=>none
 | _=>none
theorem Wz (d:Bool) (V:Nat):∀cs pre r,Jg d V cs=some (pre,r)→aS pre→∀(args:List Value) (w:World),cH w cs args→bC prog 61 r args w:=by
 intro cs pre r hg hp args w ha;unfold Jg at hg;split at hg
 ·rename_i l;split at hg
  ·rename_i x hx
   match args,ha with
   | [t,v],ha =>
    have h1:t=.int .i64 2:=ha.1;have h2:v=.agg (aB l).toArray:=ha.2.1;rw[bQ l x hx]at h2;subst h1; subst h2;cases d
    ·cases hg;obtain⟨hxr,hleg,_⟩:=hp;unfold qC at hleg
     by_cases hz:x=0
     ·rw[if_pos hz]at hleg; omega
     ·rw[if_neg hz]at hleg;refine (BH 2 _ kF _ _ _ _ (cP x) (by rw[iM hxr]; exact hxr) (by rw[iM hxr]; exact hz) (by
       rw[iM hxr];intro q;rw[if_pos q]at hleg; omega) w).mono ?_
      rintro e w' ⟨s0,s1,s2,s3,rfl,hs,hv,hb⟩
      obtain⟨rfl,rfl,rfl,rfl⟩:=fN hs (gG dJ) hv;exact⟨rfl,hb⟩
    ·cases hg;obtain⟨hxr,hV,hVV,hl,_⟩:=hp;have hVV:V*V%RM=x:=hVV
     by_cases hz:x=0
     ·have hv0:V=0:=by
       by_cases h:V=0
       ·exact h
       ·have:=mul_ne Cz DM (Nat.pos_of_ne_zero h) hV (Nat.pos_of_ne_zero h) hV;omega
      refine (NE 2 _ kF _ _ _ _ (cP x) (by rw[iM hxr]; exact hxr) (by rw[iM hxr]; exact hz) w).mono ?_
      rintro e w' ⟨s0,s1,s2,s3,rfl,hs,hv,hb⟩
      obtain⟨rfl,rfl,rfl,rfl⟩:=fN hs (gG dJ) hv;rw[hv0];exact⟨rfl,hb⟩
     ·have hv0:V≠0:=fun q=>hz (by rw[←hVV,q]; rfl)
      refine (xZ 2 _ kF _ _ _ _ (cP x) (by rw[iM hxr]; exact hxr) (by rw[iM hxr]; exact hz) (by
       rw[iM hxr,←hVV];exact EV Cz (by decide) (Nat.pos_of_ne_zero hv0) hV) w).mono ?_
      rintro e w' ⟨U,⟨s0,s1,s2,s3,rfl,hs,hv,hb⟩,k1,k2,k3⟩
      rw[iM hxr]at k1;have e1:U=V:=AX k2 hV k3 hl (k1.trans hVV.symm);rw[e1]at hv;obtain⟨rfl,rfl,rfl,rfl⟩:=fN hs (gG hV) hv;exact⟨rfl,hb⟩
   | [],ha=>exact ha.elim
   | [_],ha=>exact ha.2.elim
   | _::_::_::_,ha=>exact ha.2.2.elim
  ·cases hg
 ·cases hg
def VY (d:Bool) (V:Nat):Tab:=mH.add 61 (Jg d V)
theorem IV (d:Bool) (V:Nat):TabOk prog (VY d V):=hJ.ad func61 (Wz d V)
def gZ (y:Nat):Nat:=dQ 168700 (aI 168696 (aI y y))
def oA (y:Nat):Nat:=xH (dQ 1 (aI y y)) (gZ y)
theorem Va (y V:Nat) (h:Bool):bR prog (qG prog) (fun _=>⟨fun _=>VY false V,fun _=>true,fun _=>none⟩) f34 60 [.v (.fl [.q y]),.v (.im (.bool h))]=some ([y<RM,1<18446744073709551616,1<RM,aI y y<RM,168700<18446744073709551616,aI y y<RM,168700<RM,aI 168696 (aI y y)<RM,dQ 1 (aI y y)<RM,gZ y<RM,gZ y≠0,oA y<RM,qC RM (oA y) = -1],.many [.fl kX,.im (.int .i64 41)]):=by kernel_rfl
theorem Vd (y V:Nat):bR prog (qG prog) (fun _=>⟨fun _=>VY true V,fun _=>true,fun _=>none⟩) f34 60 [.v (.fl [.q y]),.v (.im (.bool true))]=some ([y<RM,1<18446744073709551616,1<RM,aI y y<RM,168700<18446744073709551616,aI y y<RM,168700<RM,aI 168696 (aI y y)<RM,dQ 1 (aI y y)<RM,gZ y<RM,gZ y≠0,oA y<RM,V<RM,aI V V=oA y,cR RM V=true,aB [At.q V]=aB [At.f ⟨0,cN⟩]],.many [.fl kX,.im (.int .i64 44)]):=by kernel_rfl
theorem Vc (y V:Nat):bR prog (qG prog) (fun _=>⟨fun _=>VY true V,fun _=>false,fun _=>none⟩) f34 60 [.v (.fl [.q y]),.v (.im (.bool true))]=some ([y<RM,1<18446744073709551616,1<RM,aI y y<RM,168700<18446744073709551616,aI y y<RM,168700<RM,aI 168696 (aI y y)<RM,dQ 1 (aI y y)<RM,gZ y<RM,gZ y≠0,oA y<RM,V<RM,aI V V=oA y,cR RM V=true,aB [At.q V]≠aB [At.f ⟨0,cN⟩],V<RM],.many [.fl [.q (dQ 0 V),.q y],.im (.int .i64 0)]):=by kernel_rfl
theorem Vb (y V:Nat):bR prog (qG prog) (fun _=>⟨fun _=>VY true V,fun _=>true,fun _=>none⟩) f34 60 [.v (.fl [.q y]),.v (.im (.bool false))]=some ([y<RM,1<18446744073709551616,1<RM,aI y y<RM,168700<18446744073709551616,aI y y<RM,168700<RM,aI 168696 (aI y y)<RM,dQ 1 (aI y y)<RM,gZ y<RM,gZ y≠0,oA y<RM,V<RM,aI V V=oA y,cR RM V=true],.many [.fl [.q V,.q y],.im (.int .i64 0)]):=by kernel_rfl
theorem qI {y:Nat} (hy:y<RM):gZ y≠0:=fun h=>by
 have e:eN (gZ y)=KR.sub aR (KR.mul dR (KR.mul (eN y) (eN y))):=by
  unfold gZ;rw[eF _ (aF _ _),dP,dP];rfl
 rw[h]at e;exact UQ (eN y) e.symm
def KW (y V:Nat) (h:Bool):RV:=bif h then (if V=0 then gF (0,0) 44 else gF (dQ 0 V,y) 0)else gF (V,y) 0
def Uq (d:Bool) (V:Nat):gP
 | [.v (.fl l),.v (.im (.bool h))]=>match jV l with
  | some y=>bif d then some ([y<RM,V<RM,aI V V=oA y,cR RM V=true],KW y V h)else some ([y<RM,qC RM (oA y) = -1],gF (0,0) 41)
  | none=>none
 | _=>none
theorem Rw (d:Bool) (V:Nat):∀cs pre r,Uq d V cs=some (pre,r)→aS pre→∀(args:List Value) (w:World),cH w cs args→bC prog 34 r args w:=by
 intro cs pre r hg hp args w ha;unfold Uq at hg;split at hg
 ·rename_i l h;split at hg
  ·rename_i y hy;have ha':cH w [.v (.fl [.q y]),.v (.im (.bool h))] args:=by
    match args,ha with
    | [v,u],ha =>
     refine⟨?_,ha.2.1,trivial⟩;show v=.agg (aB (q1 y)).toArray;rw[←bQ l y hy]; exact ha.1
    | [],ha=>exact ha.elim
    | [_],ha=>exact ha.2.elim
    | _::_::_::_,ha=>exact ha.2.2.elim
   cases d
   ·cases hg;obtain⟨hy,hl,_⟩:=hp;exact aG aQ (fun _ _=>IV _ _) (aT _) func34 (Va y V h) ⟨hy,by decide,dG,aF _ _,by decide,aF _ _,by decide,aF _ _,bK _ _,bK _ _,qI hy,jY _ _,hl,trivial⟩ ha'
   ·cases hg;obtain⟨hy,hV,hVV,hl,_⟩:=hp;unfold KW;cases h
    ·exact aG aQ (fun _ _=>IV _ _) (aT _) func34 (Vb y V) ⟨hy,by decide,dG,aF _ _,by decide,aF _ _,by decide,aF _ _,bK _ _,bK _ _,qI hy,jY _ _,hV,hVV,hl,trivial⟩ ha'
    ·by_cases hz:V=0
     ·rw[if_pos hz];exact aG aQ (fun _ _=>IV _ _) (aT _) func34 (Vd y V) ⟨hy,by decide,dG,aF _ _,by decide,aF _ _,by decide,aF _ _,bK _ _,bK _ _,qI hy,jY _ _,hV,hVV,hl,by rw[hz]; rfl,trivial⟩ ha'
     ·rw[if_neg hz];exact aG aQ (fun _ _=>IV _ _) (aT _) func34 (Vc y V) ⟨hy,by decide,dG,aF _ _,by decide,aF _ _,by decide,aF _ _,bK _ _,bK _ _,qI hy,jY _ _,hV,hVV,hl,fun e=>hz (Dt hV dJ e),hV,trivial⟩ ha'
  ·cases hg
 ·cases hg
def Jr (g:Nat→Nat) (d:Bool):gP
 | [.v (.im (.int .i64 2)),.s l n m]=>bif d then some ([n=32,aB l=aB (bj g),∀k,g k<256,Go.Proofs.YtpjlhhpjpnacmaaGreat.gL g 0 32<RM],.many [.fl [.q (Go.Proofs.YtpjlhhpjpnacmaaGreat.gL g 0 32)],.im (.int .i64 0)])else some ([n=32,aB l=aB (bj g),∀k,g k<256,¬Go.Proofs.YtpjlhhpjpnacmaaGreat.gL g 0 32<RM],.many [.fl [.q 0],.im (.int .i64 21)])
 | _=>none
theorem pM {w:World} {b o:Nat} {g:Nat→Nat} (h:w.rangeAt b o (aB (bj g))):∀k,k<32→w.cell? ⟨b,o+k,none⟩=some (.int .u8 (g k:Nat)):=fun k hk=>h k _ (mT g k hk)
theorem Se (g:Nat→Nat) (d:Bool):∀cs pre r,Jr g d cs=some (pre,r)→aS pre→∀(args:List Value) (w:World),cH w cs args→bC prog 59 r args w:=by
 intro cs pre r hg hp args w ha;unfold Jr at hg;split at hg
 ·rename_i l n m
  match args,ha with
  | [v,u],ha =>
   have e1:v=.int .i64 2:=ha.1;obtain⟨b,o,e2,hb,hr⟩:=ha.2.1;subst e1; subst e2;cases d
   ·cases hg;obtain⟨rfl,he,hlt,hn,_⟩:=hp;rw[he]at hr;refine (NF 2 _ kF _ _ hn w (vC w b o m g hlt hb (pM hr))).mono ?_
    rintro e w' ⟨s0,s1,s2,s3,rfl,hs,hv,hbl⟩
    obtain⟨rfl,rfl,rfl,rfl⟩:=fN hs (gG dJ) hv;exact⟨rfl,hbl⟩
   ·cases hg;obtain⟨rfl,he,hlt,hn,_⟩:=hp;rw[he]at hr;refine (TN 2 _ kF _ _ hn w (vC w b o m g hlt hb (pM hr))).mono ?_
    rintro e w' ⟨s0,s1,s2,s3,rfl,hs,hv,hbl⟩
    obtain⟨rfl,rfl,rfl,rfl⟩:=fN hs (gG hn) hv;exact⟨rfl,hbl⟩
  | [],ha=>exact ha.elim
  | [_],ha=>exact ha.2.elim
  | _::_::_::_,ha=>exact ha.2.2.elim
 ·cases hg
def En (g:Nat→Nat) (d:Bool):Tab:=T0.add 59 (Jr g d)
theorem SD (g:Nat→Nat) (d:Bool):TabOk prog (En g d):=(dV _).ad func59 (Se g d)
def PQ (g:Nat→Nat) (d:Bool) (num:Nat→Option Value) (_:Nat):Cfg:=⟨fun _=>En g d,fun _=>true,num⟩
def Yy (f:Nat→Nat):Tab3:=WK.add 58 (Wn f)
theorem Ly (f:Nat→Nat):FsOk prog (Yy f):=(qM _).ad func58 (Ju f)
def Uy (f g:Nat→Nat):Ext:={ Ext.none with ky:=assoc [(25,18)],T2:=WL,T3:=Yy f,T4:=Cg,T5:=Cm,T6:=B6 g }
theorem PA (f g:Nat→Nat) (w:World):dC prog (qY prog (Uy f g)) w.heap.size w:=vD (qN _) (fun _ _ _ h=>h.elim) (Ly f) (nZ _) (kO _) (Ey g)
def gE (f:Nat→Nat):Nat→Nat:=fun k=>bif Nat.beq k 31 then f 31%128 else f k
def qX (f:Nat→Nat):Bool:=decide (128≤f 31)
def yJ (f:Nat→Nat):Nat:=Go.Proofs.YtpjlhhpjpnacmaaGreat.gL (dM (gE f)) 0 32
def eO:Code:=(f33.body).getD .skip
def Na:List At:=[.f ⟨0,cN⟩]
def Fk (f:Nat→Nat) (m:Nat):List Fact:=[.slot 0 (.sl 0 0 32 m),.row 0 false (bj f),.slot 2 (.pt 2 0),.row 2 true Na]
def Ub (f:Nat→Nat) (m:Nat) (h:Bool):List Fact:=Fk f m++[.slot 5 (.im (.bool h))]
def Ma (f:Nat→Nat) (m:Nat) (h:Bool):List Fact:=Ub f m h++[.slot 6 (.so 18 32),.row 18 true (bj f),.app 18 5 1 32]
def Cu (f:Nat→Nat) (m:Nat) (h:Bool) (cap:Nat) (g:Nat→Nat):List Fact:=[.slot 2 (.pt 2 0),.row 2 true Na,.slot 5 (.im (.bool h)),.slot 6 (.sl 18 0 32 cap),.row 18 true (bj g)]
def Nb (h:Bool) (y:Nat) (e:Int):List Fact:=[.slot 2 (.pt 2 0),.row 2 true Na,.slot 5 (.im (.bool h)),.slot 7 (.pt 7 0),.row 7 true [.q y],.slot 8 (.im (.int .i64 e))]
def Xu (h:Bool) (y:Nat) (e:Int):List Fact:=[.slot 2 (.pt 2 0),.row 2 true [.q y],.slot 3 (.im (.bool h)),.slot 4 (.im (.int .i64 e))]
theorem WW:eO=.seq (cA eO) (.seq (cA (cB eO)) (.seq (cA (cB (cB eO))) (.seq (cA (cB (cB (cB eO)))) (.seq (cA (cB (cB (cB (cB eO))))) (.seq (cA (cB (cB (cB (cB (cB eO)))))) (.seq (cA (cB (cB (cB (cB (cB (cB eO))))))) ((cB (cB (cB (cB (cB (cB (cB eO)))))))))))))):=by kernel_rfl
theorem Mz (g f:Nat→Nat) (d:Bool) (m:Nat):bJ prog (qG prog) f33.ntmps (PQ g d (fun _=>none)) 60 (cA eO) (iO 0 [.s (bj f) 32 m]) (Fk f m)=some ([],.nrm,(Fk f m)):=by kernel_rfl
theorem My (g f:Nat→Nat) (d:Bool) (m:Nat):bJ prog (qG prog) f33.ntmps (PQ g d (fun _=>none)) 60 (cA (cB eO)) (Fk f m) (Fk f m)=some ([],.nrm,(Fk f m)):=by kernel_rfl
theorem Mx (g f:Nat→Nat) (d h:Bool) (m:Nat):bJ prog (qG prog) f33.ntmps (PQ g d (assoc [(16,.bool h)])) 60 (cA (cB (cB eO))) (Fk f m) (Ub f m h)=some ([aW .geq .u8 (Int.ofNat (f 31)) 128=some (.bool h)],.nrm,(Ub f m h)):=by kernel_rfl
theorem Mw (g f:Nat→Nat) (d h:Bool) (m:Nat):bJ prog (qY prog (Uy f g)) f33.ntmps (PQ g d (fun _=>none)) 60 (cA (cB (cB (cB eO)))) (Ub f m h) (Ma f m h)=some ([32=32,aB (bj f)=aB (bj f)],.nrm,(Ma f m h)):=by kernel_rfl
theorem Mv (g f:Nat→Nat) (d h:Bool) (m cap:Nat):bJ prog (qG prog) f33.ntmps (PQ g d (assoc [(22,.int .u8 (Int.ofNat (f 31%128)))])) 60 (cA (cB (cB (cB (cB eO))))) (.slot 6 (.sl 18 0 32 cap)::Ma f m h) (Cu f m h cap (gE f))=some ([aW .rem .u8 (Int.ofNat (f 31)) 128=some (.int .u8 (Int.ofNat (f 31%128)))],.nrm,(Cu f m h cap (gE f))):=by kernel_rfl
theorem Mu (g f:Nat→Nat) (d h:Bool) (m cap b:Nat):bJ prog (qY prog (Uy f g)) f33.ntmps (PQ g d (fun _=>none)) 60 (cA (cB (cB (cB (cB (cB eO)))))) (.at 18 b::Cu f m h cap g) (Cu f m h cap (dM g))=some ([0=0,32=32,aB (bj g)=aB (bj g)],.nrm,(Cu f m h cap (dM g))):=by kernel_rfl
theorem Fi (g f:Nat→Nat) (h:Bool) (m cap:Nat):bJ prog (qG prog) f33.ntmps (PQ g true (fun _=>none)) 60 (cA (cB (cB (cB (cB (cB (cB eO))))))) (Cu f m h cap g) (Nb h (Go.Proofs.YtpjlhhpjpnacmaaGreat.gL g 0 32) 0)=some ([32=32,aB (bj g)=aB (bj g),∀k,g k<256,Go.Proofs.YtpjlhhpjpnacmaaGreat.gL g 0 32<RM],.nrm,(Nb h (Go.Proofs.YtpjlhhpjpnacmaaGreat.gL g 0 32) 0)):=by kernel_rfl
theorem Fj (g f:Nat→Nat) (h:Bool) (m cap:Nat):bJ prog (qG prog) f33.ntmps (PQ g false (fun _=>none)) 60 (cA (cB (cB (cB (cB (cB (cB eO))))))) (Cu f m h cap g) (Nb h 0 21)=some ([32=32,aB (bj g)=aB (bj g),∀k,g k<256,¬Go.Proofs.YtpjlhhpjpnacmaaGreat.gL g 0 32<RM],.nrm,(Nb h 0 21)):=by kernel_rfl
theorem Ct (g:Nat→Nat) (d h:Bool) (y:Nat) (e:Int):bJ prog (qG prog) f33.ntmps (PQ g d (fun _=>none)) 60 (cB (cB (cB (cB (cB (cB (cB eO))))))) (Nb h y e) (Xu h y e)=some ([],.rt,(Xu h y e)):=by kernel_rfl
theorem PN (p:Option Addr) (n m:Nat):bR prog (qG prog) (fun _=>⟨fun _=>T0,fun _=>true,assoc [(11,.bool true)]⟩) f33 60 [.v (.im (.slice p n m))]=some ([aW .neq .i64 (Int.ofNat n) 32=some (.bool true)],.many [.fl Na,.im (.bool false),.im (.int .i64 3)]):=by kernel_rfl
theorem PH {a:Nat}:aW .geq .u8 (Int.ofNat a) 128=some (.bool (decide (128≤a))):=by
 show some (Value.bool (decide (Int.ofNat a≥128)))=_;congr 2;exact decide_eq_decide.2 (by show (128:Int)≤(a:Int)↔_; omega)
theorem Ff {a:Nat}:aW .rem .u8 (Int.ofNat a) 128=some (.int .u8 (Int.ofNat (a%128))):=by
 show (if (128:Int)=0 then none else some (Value.int .u8 ((Int.ofNat a).tmod 128)))=_;rw[if_neg (by decide)];rfl
theorem yK {f:Nat→Nat} (h:∀k,f k<256) (k:Nat):dM (gE f) k<256:=by
 unfold dM gE;cases Nat.beq (31-k) 31
 ·exact h _
 ·exact Nat.lt_of_le_of_lt (Nat.mod_le _ _) (h 31)
def Ua (f:Nat→Nat) (d:Bool):RV:=bif d then .many [.fl [.q (yJ f)],.im (.bool (qX f)),.im (.int .i64 0)]else .many [.fl [.q 0],.im (.bool (qX f)),.im (.int .i64 21)]
theorem PO (f:Nat→Nat) (m:Nat) (hf:∀k,f k<256) (d:Bool) (hd:bif d then yJ f<RM else ¬yJ f<RM) (args:List Value) (w:World) (ha:cH w [.s (bj f) 32 m] args):bC prog 33 (Ua f d) args w:=by
 have hG:dC prog (qG prog) w.heap.size w:=(aT _).w _ _;have hT:∀num (n x:Nat),TabOkW prog ((PQ (dM (gE f)) d num n).T x) w.heap.size w:=fun _ _ _=>(SD _ d).w _ _
 refine eT func33 (c:=eO) rfl ha (Nat.le_of_ble_eq_true (by kernel_rfl)) fun a w' hA => ?_
 rw[WW];refine wp_seq (aE aQ (hT _) hG (Mz (dM (gE f)) f d m) trivial hA fun a w' hA => ?_);refine wp_seq (aE aQ (hT _) hG (My (dM (gE f)) f d m) trivial hA fun a w' hA => ?_);refine wp_seq (aE aQ (hT _) hG (Mx (dM (gE f)) f d (qX f) m) ⟨PH,trivial⟩ hA fun a w' hA => ?_);have hT':∀g num (n x:Nat),TabOkW prog ((PQ g d num n).T x) w.heap.size w:=fun g _ _ _=>(SD g d).w _ _
 refine wp_seq (aE aQ (hT' (gE f) _) (PA f (gE f) w) (Mw (gE f) f d (qX f) m) ⟨rfl,rfl,trivial⟩ hA fun a w' hA => ?_);obtain⟨cap,hcap,hA⟩:=hA.soSl (s:=6) (k:=18) (n:=32) (e:=5) (sz:=1) (l:=bj f) (by simp[Ma]) (by simp[Ma]) (by simp[Ma]);refine wp_seq (aE aQ (hT _) hG (Mv (dM (gE f)) f d (qX f) m cap) ⟨Ff,trivial⟩ hA fun a w' hA => ?_);obtain⟨b,hA⟩:=hA.at (k:=18) (l:=bj (gE f)) (by simp[Cu]);refine wp_seq (aE aQ (hT' (gE f) _) (PA f (gE f) w) (Mu (gE f) f d (qX f) m cap b) ⟨rfl,rfl,rfl,trivial⟩ hA fun a w' hA => ?_);cases d
 ·refine wp_seq (aE aQ (hT _) hG (Fj (dM (gE f)) f (qX f) m cap) ⟨rfl,rfl,yK hf,hd,trivial⟩ hA fun a w' hA => ?_);exact aE aQ (hT _) hG (Ct (dM (gE f)) false (qX f) 0 21) trivial hA fun a w' hA=>lT (l:=[.fl [.q 0],.im (.bool (qX f)),.im (.int .i64 21)]) (r:=Ua f false) (by kernel_rfl) (by kernel_rfl) hA
 ·refine wp_seq (aE aQ (hT _) hG (Fi (dM (gE f)) f (qX f) m cap) ⟨rfl,rfl,yK hf,hd,trivial⟩ hA fun a w' hA => ?_);exact aE aQ (hT _) hG (Ct (dM (gE f)) true (qX f) (Go.Proofs.YtpjlhhpjpnacmaaGreat.gL (dM (gE f)) 0 32) 0) trivial hA fun a w' hA=>lT (l:=[.fl [.q (yJ f)],.im (.bool (qX f)),.im (.int .i64 0)]) (r:=Ua f true) (by kernel_rfl) (by kernel_rfl) hA
def Je (f:Nat→Nat) (d:Bool):gP
 | [.s l n m]=>some ([n=32,aB l=aB (bj f),∀k,f k<256,(bif d then yJ f<RM else ¬yJ f<RM)],Ua f d)
 | [.v (.im (.slice p n m))]=>some ([aW .neq .i64 (Int.ofNat n) 32=some (.bool true)],.many [.fl Na,.im (.bool false),.im (.int .i64 3)])
 | _=>none
theorem Ww (f:Nat→Nat) (d:Bool):∀cs pre r,Je f d cs=some (pre,r)→aS pre→∀(args:List Value) (w:World),cH w cs args→bC prog 33 r args w:=by
 intro cs pre r hg hp args w ha;unfold Je at hg;split at hg
 ·rename_i l n m;cases hg;obtain⟨rfl,he,hf,hd,_⟩:=hp;exact PO f m hf d hd args w (Ee he ha)
 ·rename_i p n m;cases hg;exact aG aQ (fun _ _=>dV _) (aT _) func33 (PN p n m) hp ha
 ·cases hg
def Jd (d:Bool) (V:Nat) (P:NP) (e:Int):gP
 | [.v (.fl l),.v (.im (.bool h))]=>match jV l with
  | some y=>bif d then some ([y<RM,V<RM,aI V V=oA y,cR RM V=true,KW y V h=gF P e],gF P e)else some ([y<RM,qC RM (oA y) = -1],gF (0,0) 41)
  | none=>none
 | _=>none
theorem Rv (d:Bool) (V:Nat) (P:NP) (e:Int):∀cs pre r,Jd d V P e cs=some (pre,r)→aS pre→∀(args:List Value) (w:World),cH w cs args→bC prog 34 r args w:=by
 intro cs pre r hg hp args w ha;unfold Jd at hg;split at hg
 ·rename_i l h;split at hg
  ·rename_i y hy;cases d
   ·cases hg;exact Rw false V [.v (.fl l),.v (.im (.bool h))] _ _ (by simp only[Uq,hy]; rfl) hp args w ha
   ·cases hg;obtain⟨h1,h2,h3,h4,h5,_⟩:=hp;have:=Rw true V [.v (.fl l),.v (.im (.bool h))] [y<RM,V<RM,aI V V=oA y,cR RM V=true] (KW y V h) (by simp only[Uq,hy]; rfl) ⟨h1,h2,h3,h4,trivial⟩ args w ha;rw[h5]at this;exact this
  ·cases hg
 ·cases hg
def wL (f:Nat→Nat) (t d:Bool) (V:Nat) (P:NP) (e k:Int):Tab:=((T0.add 33 (Je f t)).add 34 (Jd d V P e)).add 26 (Aj k)
theorem tD (f:Nat→Nat) (t d:Bool) (V:Nat) (P:NP) (e k:Int):TabOk prog (wL f t d V P e k):=(((dV _).ad func33 (Ww f t)).ad func34 (Rv d V P e)).ad func26 (xY nT k)
theorem Vs (f:Nat→Nat) (m:Nat):bR prog (qG prog) (fun _=>⟨fun _=>wL f false true 0 (0,0) 0 0,fun _=>true,fun _=>none⟩) f17 60 [.s (bj f) 32 m]=some ([32=32,aB (bj f)=aB (bj f),∀k,f k<256,¬yJ f<RM],.many [.fl kX,.im (.int .i64 21)]):=by kernel_rfl
theorem Vp (f:Nat→Nat) (m:Nat):bR prog (qG prog) (fun _=>⟨fun _=>wL f true false 0 (0,0) 0 0,fun _=>true,fun _=>none⟩) f17 60 [.s (bj f) 32 m]=some ([32=32,aB (bj f)=aB (bj f),∀k,f k<256,yJ f<RM,yJ f<RM,qC RM (oA (yJ f)) = -1],.many [.fl kX,.im (.int .i64 41)]):=by kernel_rfl
theorem Vr (f:Nat→Nat) (m V:Nat) (P:NP):bR prog (qG prog) (fun _=>⟨fun _=>wL f true true V P 44 0,fun _=>true,fun _=>none⟩) f17 60 [.s (bj f) 32 m]=some ([32=32,aB (bj f)=aB (bj f),∀k,f k<256,yJ f<RM,yJ f<RM,V<RM,aI V V=oA (yJ f),cR RM V=true,KW (yJ f) V (qX f)=gF P 44],.many [.fl kX,.im (.int .i64 44)]):=by kernel_rfl
theorem Vq (f:Nat→Nat) (m V:Nat) (P:NP) (k:Int):bR prog (qG prog) (fun _=>⟨fun _=>wL f true true V P 0 k,fun _=>true,assoc [(32,.bool true)]⟩) f17 60 [.s (bj f) 32 m]=some ([32=32,aB (bj f)=aB (bj f),∀k,f k<256,yJ f<RM,yJ f<RM,V<RM,aI V V=oA (yJ f),cR RM V=true,KW (yJ f) V (qX f)=gF P 0,P.1<aO,P.2<aO,eE P=k,aW .neq .i64 k 0=some (.bool true)],.many [.fl kX,.im (.int .i64 k)]):=by kernel_rfl
theorem Vo (f:Nat→Nat) (m V:Nat) (P:NP):bR prog (qG prog) (fun _=>⟨fun _=>wL f true true V P 0 0,fun _=>true,fun _=>none⟩) f17 60 [.s (bj f) 32 m]=some ([32=32,aB (bj f)=aB (bj f),∀k,f k<256,yJ f<RM,yJ f<RM,V<RM,aI V V=oA (yJ f),cR RM V=true,KW (yJ f) V (qX f)=gF P 0,P.1<aO,P.2<aO,eE P=0],gF P 0):=by kernel_rfl
def Eu (f:Nat→Nat) (R:RV):Prop:=∀m args w,cH w [.s (bj f) 32 m] args→bC prog 17 R args w
theorem Vv {f:Nat→Nat} (hf:∀k,f k<256) (hy:¬yJ f<RM):Eu f (gF (0,0) 21):=fun m args w ha =>
 aG aQ (fun _ _=>tD _ _ _ _ _ _ _) (aT _) func17 (Vs f m) ⟨rfl,rfl,hf,hy,trivial⟩ ha
theorem Vt {f:Nat→Nat} (hf:∀k,f k<256) (hy:yJ f<RM) (hl:qC RM (oA (yJ f)) = -1):Eu f (gF (0,0) 41):=fun m args w ha =>
 aG aQ (fun _ _=>tD _ _ _ _ _ _ _) (aT _) func17 (Vp f m) ⟨rfl,rfl,hf,hy,hy,hl,trivial⟩ ha
theorem Vu {f:Nat→Nat} {V:Nat} {P:NP} (hf:∀k,f k<256) (hy:yJ f<RM) (hV:V<RM) (hVV:aI V V=oA (yJ f)) (hl:cR RM V=true) (hw:KW (yJ f) V (qX f)=gF P 44):Eu f (gF (0,0) 44):=fun m args w ha =>
 aG aQ (fun _ _=>tD _ _ _ _ _ _ _) (aT _) func17 (Vr f m V P) ⟨rfl,rfl,hf,hy,hy,hV,hVV,hl,hw,trivial⟩ ha
theorem Om {f:Nat→Nat} {V:Nat} {P:NP} {k:Int} (hf:∀k,f k<256) (hy:yJ f<RM) (hV:V<RM) (hVV:aI V V=oA (yJ f)) (hl:cR RM V=true) (hw:KW (yJ f) V (qX f)=gF P 0) (hP:w2 P) (hk:eE P=k) (h0:k≠0):Eu f (gF (0,0) k):=fun m args w ha =>
 aG aQ (fun _ _=>tD _ _ _ _ _ _ _) (aT _) func17 (Vq f m V P k) ⟨rfl,rfl,hf,hy,hy,hV,hVV,hl,hw,hP.1,hP.2,hk,by
  show some (Value.bool (k != 0))=_;rw[bne_iff_ne.2 h0],trivial⟩ ha
theorem Ol {f:Nat→Nat} {V:Nat} {P:NP} (hf:∀k,f k<256) (hy:yJ f<RM) (hV:V<RM) (hVV:aI V V=oA (yJ f)) (hl:cR RM V=true) (hw:KW (yJ f) V (qX f)=gF P 0) (hP:w2 P) (hk:eE P=0):Eu f (gF P 0):=fun m args w ha =>
 aG aQ (fun _ _=>tD _ _ _ _ _ _ _) (aT _) func17 (Vo f m V P) ⟨rfl,rfl,hf,hy,hy,hV,hVV,hl,hw,hP.1,hP.2,hk,trivial⟩ ha
theorem ML {M g:Nat} (hr:Root M g) (h2:2<M) (ho:M%2=1) {a:Nat} (h0:0<a) (h:a<M) (hl:a^(M/2)%M=1):∃V,V<M∧V*V%M=a:=by
 obtain⟨k,hk,e⟩:=hr.2.2.2 a h0 h;obtain⟨j,hj|hj⟩:∃j,k=2*j∨k=2*j+1:=⟨k/2,by omega⟩
 ·refine⟨g^j%M,Nat.mod_lt _ (by omega),?_⟩;rw[←Nat.mul_mod,←Nat.pow_add,←Nat.two_mul,←hj,e]
 ·exfalso;have hm:M/2+M/2=M-1:=by omega
  have e1:a^(M/2)%M=g^(k*(M/2))%M:=by
   rw[←e,Nat.pow_mul,Nat.pow_mod (g^k%M),Nat.mod_mod,←Nat.pow_mod]
  have e2:k*(M/2)=(M-1)*j+M/2:=by
   rw[hj,←hm,Nat.add_mul,Nat.one_mul,Nat.add_mul,Nat.mul_assoc,Nat.mul_comm j (M/2)];omega
  rw[e1,e2,Nat.pow_add,Nat.mul_mod,Nat.pow_mul,Nat.pow_mod (g^(M-1)),hr.2.1,Nat.one_pow,Nat.mod_eq_of_lt hr.1,Nat.one_mul,Nat.mod_mod]at hl;exact hr.2.2.1 (M/2) (by omega) (by omega) hl
theorem xD:RM%2=1:=by decide
theorem IG {V:Nat} (hV:V<RM):aI (dQ 0 V) (dQ 0 V)=aI V V:=by
 have h:eN (aI (dQ 0 V) (dQ 0 V))=eN (aI V V):=by
  rw[dP,dP,eF 0 hV];exact aP KR (bT KR [eN V]) ((RE.zero-Z0)*(RE.zero-Z0)) (Z0*Z0) (by kernel_rfl)
 exact wO (aF _ _) (aF _ _) h
theorem Nv {V:Nat} (hV:V<RM) (h0:V≠0):dQ 0 V=RM-V:=by
 unfold dQ;rw[Nat.zero_add,Nat.mod_eq_of_lt (by omega)]
theorem MJ:cR RM 0=true:=(mP dJ).2 (by decide)
theorem XS {x:Nat} (hx:x<RM):qC RM x = -1∨∃V,V<RM∧aI V V=x∧cR RM V=true:=by
 by_cases h0:x=0
 ·exact Or.inr ⟨0,dJ,by rw[h0]; rfl,MJ⟩
 ·by_cases h1:x^(RM/2)%RM=1
  ·obtain⟨V,hV,hVV⟩:=ML Cz (by decide) xD (Nat.pos_of_ne_zero h0) hx h1;have hVV:aI V V=x:=hVV;have hv0:V≠0:=fun q=>h0 (by rw[←hVV,q]; rfl)
   cases hl:cR RM V
   ·refine Or.inr ⟨dQ 0 V,bK _ _,by rw[IG hV,hVV],?_⟩;rw[Nv hV hv0];have h2:¬ 2*V<RM:=fun q=>by rw[(mP hV).2 q]at hl; cases hl
    have ho:=xD;exact (mP (by omega)).2 (by omega)
   ·exact Or.inr ⟨V,hV,hVV,hl⟩
  ·refine Or.inl ?_;unfold qC;rw[if_neg h0,if_neg h1]
theorem Dn {B:Nat→Nat} (hB:∀k,B k<256):Go.Proofs.YtpjlhhpjpnacmaaGreat.gL B 0 32<aO:=by
 have:=xU hB 0 32;exact Nat.lt_of_lt_of_eq this (by decide)
def pN (n:Nat):NP:=kV (bX,bY) n
theorem Ph (n:Nat):pN n=cj (kQ.grp.ns (wv n) (jp CE)):=xQ (p:=(bX,bY)) CE n
theorem TD {c:Int} (h:c≠0):aW .neq .i64 c 0=some (.bool true):=by
 show some (Value.bool (c != 0))=_;rw[bne_iff_ne.2 h]
theorem mG {l m:List Prop} (h1:aS l) (h2:aS m):aS (l++m):=(dK (l:=l)).2 ⟨h1,h2⟩
end Go.Proofs.YtpjlhhpjpnacmaaGreat.Ex
namespace Go.Proofs.YtpjlhhpjpnacmaaGreat.R1
open Go.Proofs.Tryz
open Go.RowKit
theorem len_down {A m:Nat} (h:A<2^(m+1)) (hb:cS A m=0):A<2^m:=by
 unfold cS at hb;have h1:A/2^m<2:=by rw[Nat.div_lt_iff_lt_mul (Nat.pow_pos (by omega)),Nat.mul_comm,←Nat.pow_succ]; exact h
 have h2:A/2^m=0:=by generalize A/2^m=q at h1 hb; omega
 have h3:=Nat.div_add_mod A (2^m);have h4:=Nat.mod_lt A (show 0<2^m from Nat.pow_pos (by omega));rw[h2]at h3; omega
theorem len_is {A m:Nat} (h:A<2^(m+1)) (hb:cS A m=1):LenIs A (m+1):=by
 refine⟨h,fun _ => ?_⟩;unfold cS at hb;have h1:1≤A/2^m:=by
  rcases Nat.eq_zero_or_pos (A/2^m)with e|e
  ·rw[e]at hb; omega
  ·exact e
 exact (Nat.one_le_div_iff (Nat.pow_pos (by omega))).1 h1
def LenP (A:Nat) (w:World) (e:Ending) (w':World):Prop :=
 ∃L:Nat,e=.returned (.int .i64 L)∧L≤256∧LenIs A L∧Below w.heap.size w w'
theorem refLen_calls (a0 a1 a2 a3:Nat) (ha:aZ a0 a1 a2 a3) (w:World) :
  Calls prog 93 #[.agg #[.int .u64 a0,.int .u64 a1,.int .u64 a2,.int .u64 a3]] w (LenP (aA a0 a1 a2 a3) w):=by
 have h256:aA a0 a1 a2 a3<2^256:=by have:=cE ha; simpa using this
 have HB:=Lib.hid (fun i h (w:World)=>pW a0 a1 a2 a3 i ha h w);generalize hA:aA a0 a1 a2 a3=A at *;have H256:=Lib.hid h256;clear h256 hA
 go_enter func93,ntmps93
 go_wp2_with fail
 go_loopw [3] (fun i wr=>∃n:Int,-1≤n∧n≤255∧i=.int .i64 n∧Hid (A<2^(n+1).toNat)∧Mem w wr [(w.heap.size,a0,a1,a2,a3)]) (fun i _=>(intOf i+1).toNat)
 case atStart=>exact⟨255,by omega,by omega,rfl,H256,(Mem.nil w).new w.heap.size a0 a1 a2 a3 27 rfl⟩
 case round =>
  obtain⟨n,h1,h2,rfl,hA,m⟩:=hrel;have M:=Lib.hid m;obtain⟨lt_a,c0,c1,c2,c3,cf⟩:=m.get (b:=w.heap.size) (c0:=a0) (c1:=a1) (c2:=a2) (c3:=a3) (by simp);clear m
  by_cases h0:0≤n
  ·obtain⟨i,rfl⟩:=Int.eq_ofNat_of_zero_le h0;have hA':=Lib.hid (show A<2^(i+1)from hA.out);clear hA
   rcases iK A i with hb|hb
   ·have hB:=HB.out i (by omega);rw[hb]at hB;have HN:=Lib.hid (len_down hA'.out hb);clear hb hA';go_wp2_with fail;refine (hB _).mono ?_
    rintro e w1 ⟨rfl,hbl⟩
    have M':=M.out.on hbl;clear hbl;go_wp2_with fail
    go_roundw
    case rel=>exact⟨(i:Int)-1,by omega,by omega,by first|rfl|go_num,Lib.hid (by rw[show ((i:Int)-1+1).toNat=i by omega]; exact HN.out),M'⟩
    case measure=>first|(simp[intOf]; done)|(simp[intOf]; omega)
   ·have hB:=HB.out i (by omega);rw[hb]at hB;have HN:=Lib.hid (len_is hA'.out hb);clear hb hA';go_wp2_with fail;refine (hB _).mono ?_
    rintro e w1 ⟨rfl,hbl⟩
    have M':=M.out.on hbl;clear hbl;go_wp2_with fail;go_ret;exact⟨i+1,rfl,by omega,HN.out,M'.1⟩
  ·obtain rfl:n = -1:=by omega
   go_wp2_with fail;go_ret;exact⟨0,rfl,by omega,⟨hA.out,fun h=>absurd h (by omega)⟩,M.out.1⟩
set_option maxHeartbeats 2000000 in
theorem refShr_calls (a0 a1 a2 a3 n:Nat) (ha:aZ a0 a1 a2 a3) (hn:n<256) (w:World) :
  Calls prog 57 #[.agg #[.int .u64 a0,.int .u64 a1,.int .u64 a2,.int .u64 a3],.int .i64 n] w (KT (aA a0 a1 a2 a3/2^n) w):=by
 have t0:decide ((n:Int)<0)=false:=decide_eq_false (by omega);have t1:decide (255<(n:Int))=false:=decide_eq_false (by omega);obtain⟨T,hT⟩:∃T,T=aA a0 a1 a2 a3/2^n:=⟨_,rfl⟩
 rw[←hT];have HEnd:=Lib.hid (show ∀i,256≤i+n→jB T i=T from fun i h=>Nat.mod_eq_of_lt (by
  rw[hT,Nat.div_lt_iff_lt_mul (Nat.pow_pos (by omega)),←Nat.pow_add];exact Nat.lt_of_lt_of_le (show _<2^256 by have:=cE ha; simpa using this) (Nat.pow_le_pow_right (by omega) h)))
 have HBit:=Lib.hid (fun i=>(show cS T i=cS (aA a0 a1 a2 a3) (i+n) by rw[hT]; exact Cb _ n i));have HB:=Lib.hid (fun i h (w:World)=>pW a0 a1 a2 a3 i ha h w);clear hT;generalize aA a0 a1 a2 a3=A at *
 go_enter func57,ntmps57
 go_wp2_with fail
 go_loopw [6] (fun x wr=>∃i o0 o1 o2 o3:Nat,i≤256∧x=.int .i64 i∧aZ o0 o1 o2 o3∧Hid (aA o0 o1 o2 o3=jB T i)∧Mem w wr [(w.heap.size+2,o0,o1,o2,o3),(w.heap.size+1,0,0,0,0),(w.heap.size,a0,a1,a2,a3)]) (fun x _=>256-(intOf x).toNat)
 case atStart =>
  exact⟨0,0,0,0,0,by omega,rfl,⟨by omega,by omega,by omega,by omega⟩,Lib.hid (by unfold jB; rw[Nat.pow_zero,Nat.mod_one]; rfl),(((Mem.nil w).new w.heap.size a0 a1 a2 a3 27 rfl).new (w.heap.size+1) 0 0 0 0 27 (by simp)).new (w.heap.size+2) 0 0 0 0 27 (by simp)⟩
 case round =>
  obtain⟨i,o0,o1,o2,o3,h2,rfl,ho,hv,mm⟩:=hrel;have M:=Lib.hid mm;obtain⟨lt_a,c0,c1,c2,c3,cf⟩:=mm.get (b:=w.heap.size) (c0:=a0) (c1:=a1) (c2:=a2) (c3:=a3) (by simp);obtain⟨lt_r,r0,r1,r2,r3,rf⟩:=mm.get (b:=w.heap.size+1) (c0:=0) (c1:=0) (c2:=0) (c3:=0) (by simp);obtain⟨lt_o,d0,d1,d2,d3,df⟩:=mm.get (b:=w.heap.size+2) (c0:=o0) (c1:=o1) (c2:=o2) (c3:=o3) (by simp);clear mm
  by_cases h0:i+n<256
  ·obtain⟨k,hk,hki⟩:∃k:Nat,(i:Int)+(n:Int)=(k:Int)∧k=i+n:=⟨i+n,by omega,rfl⟩
   have hB:=HB.out k (by omega);have hbit:=HBit.out i;have hst:=GP T i;have hfb:=OB T i;rw[←hv.out]at hst hfb;rw[←hki]at hbit;have hki':=Lib.hid hki;have t2:decide ((k:Int)<256)=true:=decide_eq_true (by omega);clear hki hv
   rcases iK A k with hb|hb
   ·rw[hb]at hB hbit;rw[hbit]at hst;have HN:=Lib.hid (show aA o0 o1 o2 o3=jB T (i+1) by rw[hst]; omega);clear hb hst hfb hbit;go_wp2_with fail;refine (hB _).mono ?_
    rintro e w1 ⟨rfl,hbl⟩
    have M':=M.out.on hbl;clear hbl;go_wp2_with fail
    go_roundw
    case rel=>exact⟨i+1,o0,o1,o2,o3,by omega,by go_num,ho,HN,M'⟩
    case measure=>first|(simp[intOf]; done)|(simp[intOf]; omega)
   ·rw[hb]at hB hbit;rw[hbit]at hst;have hP:=fun w=>LP o0 o1 o2 o3 i ho (by omega) hfb w
    have HN:=Lib.hid (show aA o0 o1 o2 o3+2^i=jB T (i+1) by rw[hst]; omega);clear hb hst hfb hbit;go_wp2_with fail;refine (hB _).mono ?_
    rintro e w1 ⟨rfl,hbl⟩
    have M':=Lib.hid (M.out.on hbl);clear hbl M c0 c1 c2 c3 cf d0 d1 d2 d3 df r0 r1 r2 r3 rf;obtain⟨lt_o',d0,d1,d2,d3,df⟩:=M'.out.get (b:=w.heap.size+2) (c0:=o0) (c1:=o1) (c2:=o2) (c3:=o3) (by simp);go_wp2_with fail;refine (hP _).mono ?_
    rintro e w2 ⟨s0,s1,s2,s3,rfl,hs,es,hbl⟩
    have M:=Lib.hid (M'.out.on hbl);have Hes:=Lib.hid (es.trans HN.out);clear hbl M' d0 d1 d2 d3 df es lt_o';obtain⟨lt_o',d0,d1,d2,d3,df⟩:=M.out.get (b:=w.heap.size+2) (c0:=o0) (c1:=o1) (c2:=o2) (c3:=o3) (by simp);go_wp2_with fail
    go_roundw
    case rel=>exact⟨i+1,s0,s1,s2,s3,by omega,by go_num,hs,Hes,M.out.put s0 s1 s2 s3 (by omega) (by simp)⟩
    case measure=>first|(simp[intOf]; done)|(simp[intOf]; omega)
  ·obtain⟨k,hk,hki⟩:∃k:Nat,(i:Int)+(n:Int)=(k:Int)∧k=i+n:=⟨i+n,by omega,rfl⟩
   have t2:decide ((k:Int)<256)=false:=decide_eq_false (by omega);have bk:k≤512:=by omega
   have HF:=Lib.hid (show aA o0 o1 o2 o3=T by rw[hv.out]; exact HEnd.out _ (by omega));clear hv hki;go_wp2_with fail;refine bodyPost_ret (v:=.agg #[.int .u64 o0,.int .u64 o1,.int .u64 o2,.int .u64 o3]) (by simp[results,results57,go_sem, *]) rfl ?_;exact⟨o0,o1,o2,o3,rfl,ho,HF.out,aM M.out.1 (by omega) _ _ _ _⟩
end Go.Proofs.YtpjlhhpjpnacmaaGreat.R1
namespace Go.Proofs.YtpjlhhpjpnacmaaGreat.Ex
open Go.Proofs.Tryz
open Go.RowKit
theorem XU:∀cs pre r,NC cs=some (pre,r)→aS pre→∀(args:List Value) (w:World),cH w cs args→bC prog 93 r args w:=by
 intro cs pre r hg hp args w ha;unfold NC at hg;split at hg
 ·rename_i l;split at hg
  ·rename_i n hn;cases hg;rw[VR ha,bQ l _ hn];refine (R1.refLen_calls _ _ _ _ (cP n) w).mono ?_
   rintro e w' ⟨L,rfl,_,h,hbl⟩
   cases h.uniq (oX n);exact⟨rfl,hbl⟩
  ·cases hg
 ·cases hg
theorem XZ:∀cs pre r,Jx cs=some (pre,r)→aS pre→∀(args:List Value) (w:World),cH w cs args→bC prog 95 r args w:=by
 intro cs pre r hg hp args w ha;unfold Jx at hg;split at hg
 ·rename_i l i;split at hg
  ·rename_i n hn;cases hg
   match args,ha with
   | [v,u],ha =>
    have h1:v=.agg (aB l).toArray:=ha.1;have h2:u=.int .i64 (Int.ofNat i):=ha.2.1;rw[bQ l _ hn]at h1;subst h1; subst h2;exact pW _ _ _ _ i (cP n) hp.1 w
   | [],ha=>exact ha.elim
   | [_],ha=>exact ha.2.elim
   | _::_::_::_,ha=>exact ha.2.2.elim
  ·cases hg
 ·cases hg
end Go.Proofs.YtpjlhhpjpnacmaaGreat.Ex
namespace Go.Proofs.YtpjlhhpjpnacmaaGreat
open Go.Proofs.Tryz
open Go.RowKit
def lZ (c:UInt8):Bool:=decide (48≤c.toNat∧c.toNat≤57)
def JL:List UInt8→Bool
 | []=>false
 | c::_=>decide (c.toNat≠48)
def mV (l:List UInt8):Bool:=l.all lZ&&(decide (l=[48])||JL l)
theorem oT {l:List UInt8} {k:Nat} (hk:k<l.length) (h:lZ l[k]=false):mV l=false:=by
 unfold mV;have:l.all lZ=false:=by
  rw[List.all_eq_false];exact⟨l[k],List.getElem_mem hk,by simp[h]⟩
 rw[this]; rfl
theorem SK {l:List UInt8} (h:∀k (hk:k<l.length),lZ l[k]=true):mV l=(decide (l=[48])||JL l):=by
 unfold mV;have:l.all lZ=true:=by
  rw[List.all_eq_true];intro x hx;obtain⟨k,hk,rfl⟩:=List.getElem_of_mem hx;exact h k hk
 rw[this]; rfl
theorem vN (l:List UInt8) (h:0<l.length):JL l=decide (l[0].toNat≠48):=by
 match l,h with
 | c::t,_=>rfl
def oS (v:Nat) (c:UInt8):Nat:=v*10+(c.toNat-48)
def cM (l:List UInt8):Nat:=l.foldl oS 0
theorem Am (l:List UInt8):∀v,v≤l.foldl oS v:=by
 induction l with
 | nil=>intro v; exact Nat.le_refl _
 | cons c t ih=>intro v; exact Nat.le_trans (by unfold oS; omega) (ih (oS v c))
theorem iW (l:List UInt8) (k:Nat):cM (l.take k)≤cM l:=by
 have h:cM l=(l.drop k).foldl oS (cM (l.take k)):=by
  unfold cM;rw[←List.foldl_append,List.take_append_drop]
 rw[h]; exact Am _ _
theorem qV {l:List UInt8} {k:Nat} (h:k<l.length):cM (l.take (k+1))=cM (l.take k)*10+(l[k].toNat-48):=by
 rw[List.take_succ_eq_append_getElem h];unfold cM;rw[List.foldl_append];rfl
def dS (l:List UInt8):Nat×Nat :=
 if mV l=false then (0,11)else if 78<l.length then (0,4)else if 115792089237316195423570985008687907853269984665640564039457584007913129639936≤cM l then (0,4)else (cM l,0)
theorem kB {l:List UInt8} (h:mV l=false):dS l=(0,11):=by unfold dS; rw[if_pos h]
theorem qT {l:List UInt8} (h:mV l=true) (h2:78<l.length):dS l=(0,4):=by unfold dS; rw[if_neg (by simp[h]),if_pos h2]
theorem sX {l:List UInt8} (h:mV l=true) (h2:¬ 78<l.length) (h3:115792089237316195423570985008687907853269984665640564039457584007913129639936≤cM l):dS l=(0,4):=by unfold dS; rw[if_neg (by simp[h]),if_neg h2,if_pos h3]
theorem vI {l:List UInt8} (h:mV l=true) (h2:¬ 78<l.length) (h3:cM l<115792089237316195423570985008687907853269984665640564039457584007913129639936):dS l=(cM l,0):=by unfold dS; rw[if_neg (by simp[h]),if_neg h2,if_neg (by omega)]
theorem AR {l:List UInt8} (h:mV l=true) {k:Nat} (hk:k<l.length):48≤l[k].toNat∧l[k].toNat≤57:=by
 unfold mV at h;rw[Bool.and_eq_true]at h;have:=List.all_eq_true.1 h.1 _ (List.getElem_mem hk);unfold lZ at this;exact of_decide_eq_true this
set_option maxHeartbeats 1000000 in
theorem gM (a0 a1 a2 a3:Nat) (ha:aZ a0 a1 a2 a3) (w:World) :
  Calls prog 128 #[.agg #[.int .u64 a0,.int .u64 a1,.int .u64 a2,.int .u64 a3]] w (uE (aA a0 a1 a2 a3) w):=by
 obtain⟨h0,h1,d0,d1,b0,b1,e0⟩:=fL ha.1;obtain⟨h2,h3,d2,d3,b2,b3,e1⟩:=fL ha.2.1;obtain⟨h4,h5,d4,d5,b4,b5,e2⟩:=fL ha.2.2.1;obtain⟨h6,h7,d6,d7,b6,b7,e3⟩:=fL ha.2.2.2
 go_enter func128,ntmps128
 go_wp2_with fail;refine wp_loop_rounds 5 ?_;rw[rounds_succ];go_wp2_with fail;rw[rounds_succ];go_wp2_with fail;rw[rounds_succ];go_wp2_with fail;rw[rounds_succ];go_wp2_with fail;rw[rounds_succ];go_wp2_with fail;refine bodyPost_ret (v:=.agg #[.int .u64 h0,.int .u64 h1,.int .u64 h2,.int .u64 h3,.int .u64 h4,.int .u64 h5,.int .u64 h6,.int .u64 h7]) (by simp[results,results128,go_sem]) rfl ?_;refine⟨h0,h1,h2,h3,h4,h5,h6,h7,rfl,⟨b0,b1,b2,b3,b4,b5,b6,b7⟩,?_,?_⟩
 ·have:=e0.out; have:=e1.out; have:=e2.out; have:=e3.out;exact Lib.hid (by unfold aA jD; omega)
 repeat (first|exact Below.refl _ _|refine Below.drew ?_|refine Below.alloc ?_ (by first|(simp; done)|(simp; omega)) _)
end Go.Proofs.YtpjlhhpjpnacmaaGreat
namespace Go.Proofs.YtpjlhhpjpnacmaaGreat.R1
open Go.Proofs.Tryz
open Go.RowKit
theorem readyB_at {ops:Array Oper} {got:Nat→Bool} {i:Nat} {o:Oper} {e:Edge} (h:nJ .any ops got i=true) (ho:ops[i]?=some o) (he:e∈o.after) (hb:Region.binds .any e=true):got e.on=true:=by
 unfold nJ at h;rw[ho]at h;have:=(Array.all_eq_true_iff_forall_mem.1 h) e he;simpa[hb]using this
def HalfV (A:Nat) (t:Value):Prop:=∃x0 x1 x2 x3 x4 x5 x6 x7:Nat,t=.agg #[.int .u64 x0,.int .u64 x1,.int .u64 x2,.int .u64 x3,.int .u64 x4,.int .u64 x5,.int .u64 x6,.int .u64 x7]∧MD x0 x1 x2 x3 x4 x5 x6 x7∧Hid (jD x0 x1 x2 x3 x4 x5 x6 x7=A)
def FreshZ (wr u:World) (t:Value):Prop:=∃p,t=.pointer (some ⟨p,0,none⟩)∧wr.heap.size≤p∧p<u.heap.size∧RowIs u p 8 (fun _=>0)
theorem FreshZ.grow {wr u u':World} {t:Value} (h:FreshZ wr u t) (hb:Below u.heap.size u u'):FreshZ wr u' t:=by
 obtain⟨p,e,h1,h2,r⟩:=h;exact⟨p,e,h1,Nat.lt_of_lt_of_le h2 hb.size,r.below hb h2⟩
structure RI (got:Nat→Bool) (wr:World) (a0 a1 a2 a3 b0 b1 b2 b3:Nat) (t6 t7 s0 s1 s2 s3:Value) (u:World):Prop where
 below:Below wr.heap.size wr u
 g0:got 0=true→s0=.agg #[.int .u64 a0,.int .u64 a1,.int .u64 a2,.int .u64 a3]
 g1:got 1=true→HalfV (aA a0 a1 a2 a3) s1
 g2:got 2=true→s2=.agg #[.int .u64 b0,.int .u64 b1,.int .u64 b2,.int .u64 b3]
 g3:got 3=true→HalfV (aA b0 b1 b2 b3) s3
 g4:got 4=true→FreshZ wr u t6
 g5:got 5=true→FreshZ wr u t7
 g45:got 4=true→got 5=true→t6≠t7
section
variable {got:Nat→Bool} {wr u u':World} {a0 a1 a2 a3 b0 b1 b2 b3:Nat} {t6 t7 s0 s1 s2 s3:Value}
theorem RI.start (wr:World) (a0 a1 a2 a3 b0 b1 b2 b3:Nat):RI (fun _=>false) wr a0 a1 a2 a3 b0 b1 b2 b3 undef undef undef undef undef undef wr.drew :=
 ⟨(Below.refl _ _).drew,fun h=>Bool.noConfusion h,fun h=>Bool.noConfusion h,fun h=>Bool.noConfusion h,fun h=>Bool.noConfusion h,fun h=>Bool.noConfusion h,fun h=>Bool.noConfusion h,fun h=>Bool.noConfusion h⟩
theorem RI.op0 (h:RI got wr a0 a1 a2 a3 b0 b1 b2 b3 t6 t7 s0 s1 s2 s3 u):RI (fun j=>j==0||got j) wr a0 a1 a2 a3 b0 b1 b2 b3 t6 t7 (.agg #[.int .u64 a0,.int .u64 a1,.int .u64 a2,.int .u64 a3]) s1 s2 s3 u :=
 ⟨h.below,fun _=>rfl,fun e=>h.g1 (by simpa using e),fun e=>h.g2 (by simpa using e),fun e=>h.g3 (by simpa using e),fun e=>h.g4 (by simpa using e),fun e=>h.g5 (by simpa using e),fun e f=>h.g45 (by simpa using e) (by simpa using f)⟩
theorem RI.op2 (h:RI got wr a0 a1 a2 a3 b0 b1 b2 b3 t6 t7 s0 s1 s2 s3 u):RI (fun j=>j==2||got j) wr a0 a1 a2 a3 b0 b1 b2 b3 t6 t7 s0 s1 (.agg #[.int .u64 b0,.int .u64 b1,.int .u64 b2,.int .u64 b3]) s3 u :=
 ⟨h.below,fun e=>h.g0 (by simpa using e),fun e=>h.g1 (by simpa using e),fun _=>rfl,fun e=>h.g3 (by simpa using e),fun e=>h.g4 (by simpa using e),fun e=>h.g5 (by simpa using e),fun e f=>h.g45 (by simpa using e) (by simpa using f)⟩
theorem RI.op1 (h:RI got wr a0 a1 a2 a3 b0 b1 b2 b3 t6 t7 s0 s1 s2 s3 u) {x:Value} (hx:HalfV (aA a0 a1 a2 a3) x):RI (fun j=>j==1||got j) wr a0 a1 a2 a3 b0 b1 b2 b3 t6 t7 s0 x s2 s3 u :=
 ⟨h.below,fun e=>h.g0 (by simpa using e),fun _=>hx,fun e=>h.g2 (by simpa using e),fun e=>h.g3 (by simpa using e),fun e=>h.g4 (by simpa using e),fun e=>h.g5 (by simpa using e),fun e f=>h.g45 (by simpa using e) (by simpa using f)⟩
theorem RI.op3 (h:RI got wr a0 a1 a2 a3 b0 b1 b2 b3 t6 t7 s0 s1 s2 s3 u) {x:Value} (hx:HalfV (aA b0 b1 b2 b3) x):RI (fun j=>j==3||got j) wr a0 a1 a2 a3 b0 b1 b2 b3 t6 t7 s0 s1 s2 x u :=
 ⟨h.below,fun e=>h.g0 (by simpa using e),fun e=>h.g1 (by simpa using e),fun e=>h.g2 (by simpa using e),fun _=>hx,fun e=>h.g4 (by simpa using e),fun e=>h.g5 (by simpa using e),fun e f=>h.g45 (by simpa using e) (by simpa using f)⟩
theorem RI.grow (h:RI got wr a0 a1 a2 a3 b0 b1 b2 b3 t6 t7 s0 s1 s2 s3 u) (hb:Below u.heap.size u u'):RI got wr a0 a1 a2 a3 b0 b1 b2 b3 t6 t7 s0 s1 s2 s3 u' :=
 ⟨h.below.trans (hb.mono h.below.size),h.g0,h.g1,h.g2,h.g3,fun e=>(h.g4 e).grow hb,fun e=>(h.g5 e).grow hb,h.g45⟩
theorem fresh_new (wr u:World) (hs:wr.heap.size≤u.heap.size) (t:TypeId):FreshZ wr (u.alloc (.cells #[.int .u64 0,.int .u64 0,.int .u64 0,.int .u64 0,.int .u64 0,.int .u64 0,.int .u64 0,.int .u64 0] t)) (.pointer (some ⟨u.heap.size,0,none⟩)) :=
 ⟨_,rfl,hs,by simp,by
  intro k hk;refine⟨?_,World.frozen?_alloc_new _ _ _ _⟩;rw[World.cell?_alloc_new]
  match k,hk with
  | 0,_|1,_|2,_|3,_|4,_|5,_|6,_|7,_=>rfl⟩
theorem below_alloc (u:World) (o:Obj):Below u.heap.size u (u.alloc o):=(Below.refl _ _).alloc (Nat.le_refl _) o
theorem fresh_ne {wr u:World} {t:Value} (h:FreshZ wr u t):t ≠ .pointer (some ⟨u.heap.size,0,none⟩):=by
 obtain⟨p,rfl,_,h2,_⟩:=h;intro e;injection e with e;injection e with e;injection e with e;omega
theorem RI.op4 (h:RI got wr a0 a1 a2 a3 b0 b1 b2 b3 t6 t7 s0 s1 s2 s3 u) (t:TypeId):RI (fun j=>j==4||got j) wr a0 a1 a2 a3 b0 b1 b2 b3 (.pointer (some ⟨u.heap.size,0,none⟩)) t7 s0 s1 s2 s3 (u.alloc (.cells #[.int .u64 0,.int .u64 0,.int .u64 0,.int .u64 0,.int .u64 0,.int .u64 0,.int .u64 0,.int .u64 0] t)) :=
 ⟨h.below.alloc h.below.size _,fun e=>h.g0 (by simpa using e),fun e=>h.g1 (by simpa using e),fun e=>h.g2 (by simpa using e),fun e=>h.g3 (by simpa using e),
  fun _=>fresh_new wr u h.below.size t,fun e=>(h.g5 (by simpa using e)).grow (below_alloc _ _),fun _ f=>(fresh_ne (h.g5 (by simpa using f))).symm⟩
theorem RI.op5 (h:RI got wr a0 a1 a2 a3 b0 b1 b2 b3 t6 t7 s0 s1 s2 s3 u) (t:TypeId):RI (fun j=>j==5||got j) wr a0 a1 a2 a3 b0 b1 b2 b3 t6 (.pointer (some ⟨u.heap.size,0,none⟩)) s0 s1 s2 s3 (u.alloc (.cells #[.int .u64 0,.int .u64 0,.int .u64 0,.int .u64 0,.int .u64 0,.int .u64 0,.int .u64 0,.int .u64 0] t)) :=
 ⟨h.below.alloc h.below.size _,fun e=>h.g0 (by simpa using e),fun e=>h.g1 (by simpa using e),fun e=>h.g2 (by simpa using e),fun e=>h.g3 (by simpa using e),
  fun e=>(h.g4 (by simpa using e)).grow (below_alloc _ _),fun _=>fresh_new wr u h.below.size t,fun e _=>fresh_ne (h.g4 (by simpa using e))⟩
theorem RI.all (h:RI got wr a0 a1 a2 a3 b0 b1 b2 b3 t6 t7 s0 s1 s2 s3 u) (hg:∀j,j<6→got j=true) :
  ∃p q x0 x1 x2 x3 x4 x5 x6 x7 y0 y1 y2 y3 y4 y5 y6 y7:Nat,t6=.pointer (some ⟨p,0,none⟩)∧t7=.pointer (some ⟨q,0,none⟩) ∧
   s1=.agg #[.int .u64 x0,.int .u64 x1,.int .u64 x2,.int .u64 x3,.int .u64 x4,.int .u64 x5,.int .u64 x6,.int .u64 x7]∧s3=.agg #[.int .u64 y0,.int .u64 y1,.int .u64 y2,.int .u64 y3,.int .u64 y4,.int .u64 y5,.int .u64 y6,.int .u64 y7] ∧
   MD x0 x1 x2 x3 x4 x5 x6 x7∧MD y0 y1 y2 y3 y4 y5 y6 y7∧Hid (jD x0 x1 x2 x3 x4 x5 x6 x7=aA a0 a1 a2 a3)∧Hid (jD y0 y1 y2 y3 y4 y5 y6 y7=aA b0 b1 b2 b3) ∧
   wr.heap.size≤p∧wr.heap.size≤q∧p<u.heap.size∧q<u.heap.size∧¬p=q∧RowIs u p 8 (fun _=>0)∧RowIs u q 8 (fun _=>0)∧Below wr.heap.size wr u:=by
 obtain⟨x0,x1,x2,x3,x4,x5,x6,x7,e1,hx,ex⟩:=h.g1 (hg 1 (by omega));obtain⟨y0,y1,y2,y3,y4,y5,y6,y7,e2,hy,ey⟩:=h.g3 (hg 3 (by omega));obtain⟨p,e3,lp,up,rp⟩:=h.g4 (hg 4 (by omega));obtain⟨q,e4,lq,uq,rq⟩:=h.g5 (hg 5 (by omega));refine⟨p,q,x0,x1,x2,x3,x4,x5,x6,x7,y0,y1,y2,y3,y4,y5,y6,y7,e3,e4,e1,e2,hx,hy,ex,ey,lp,lq,up,uq,fun e => ?_,rp,rq,h.below⟩;subst e;exact h.g45 (hg 4 (by omega)) (hg 5 (by omega)) (e3.trans e4.symm)
end
structure TwoH (wr u:World) (p q:Nat) (X Y:Nat→Nat) (A B:Nat):Prop where
 below:Below wr.heap.size wr u
 lp:wr.heap.size≤p
 lq:wr.heap.size≤q
 up:p<u.heap.size
 uq:q<u.heap.size
 ne:¬p=q
 rowX:RowIs u p 8 X
 rowY:RowIs u q 8 Y
 ltX:∀k,X k<4294967296
 ltY:∀k,Y k<4294967296
 eX:cD 4294967296 X 8=A
 eY:cD 4294967296 Y 8=B
def set8 (w:World) (b:Nat) (d0 d1 d2 d3 d4 d5 d6 d7:Nat):World :=
 (((((((w.setCell ⟨b,0,none⟩ (.int .u64 d0)).setCell ⟨b,1,none⟩ (.int .u64 d1)).setCell ⟨b,2,none⟩ (.int .u64 d2)).setCell ⟨b,3,none⟩ (.int .u64 d3)).setCell ⟨b,4,none⟩ (.int .u64 d4)).setCell ⟨b,5,none⟩ (.int .u64 d5)).setCell ⟨b,6,none⟩ (.int .u64 d6)).setCell ⟨b,7,none⟩ (.int .u64 d7)
theorem RowIs.ext {w:World} {b n:Nat} {P R:Nat→Nat} (h:RowIs w b n P) (e:∀k,k<n→P k=R k):RowIs w b n R:=fun k hk=>⟨by rw[←e k hk]; exact h.cell hk,h.free hk⟩
theorem RowIs.set8 {w:World} {b:Nat} {P:Nat→Nat} (h:RowIs w b 8 P) (d0 d1 d2 d3 d4 d5 d6 d7:Nat):RowIs (Go.Proofs.YtpjlhhpjpnacmaaGreat.set8 w b d0 d1 d2 d3 d4 d5 d6 d7) b 8 (cQ [d0,d1,d2,d3,d4,d5,d6,d7]):=by
 have r:=(((((((h.set (show 0<8 by omega) (v:=d0)).set (show 1<8 by omega) (v:=d1)).set (show 2<8 by omega) (v:=d2)).set (show 3<8 by omega) (v:=d3)).set (show 4<8 by omega) (v:=d4)).set (show 5<8 by omega) (v:=d5)).set (show 6<8 by omega) (v:=d6)).set (show 7<8 by omega) (v:=d7);unfold Go.Proofs.YtpjlhhpjpnacmaaGreat.set8;refine r.ext fun k hk => ?_
 match k,hk with
 | 0,_|1,_|2,_|3,_|4,_|5,_|6,_|7,_=>rfl
theorem RowIs.set8_other {w:World} {b c n:Nat} {P:Nat→Nat} (h:RowIs w b n P) (hc:c≠b) (d0 d1 d2 d3 d4 d5 d6 d7:Nat):RowIs (Go.Proofs.YtpjlhhpjpnacmaaGreat.set8 w c d0 d1 d2 d3 d4 d5 d6 d7) b n P :=
 (((((((h.other hc _).other hc _).other hc _).other hc _).other hc _).other hc _).other hc _).other hc _
theorem below_set8 {B:Nat} {w w':World} {b:Nat} (h:Below B w w') (hb:B≤b) (d0 d1 d2 d3 d4 d5 d6 d7:Nat):Below B w (set8 w' b d0 d1 d2 d3 d4 d5 d6 d7) :=
 (((((((h.setCell (p:=⟨b,0,none⟩) hb _).setCell (p:=⟨b,1,none⟩) hb _).setCell (p:=⟨b,2,none⟩) hb _).setCell (p:=⟨b,3,none⟩) hb _).setCell (p:=⟨b,4,none⟩) hb _).setCell (p:=⟨b,5,none⟩) hb _).setCell (p:=⟨b,6,none⟩) hb _).setCell (p:=⟨b,7,none⟩) hb _
theorem size_set8 (w:World) (b d0 d1 d2 d3 d4 d5 d6 d7:Nat):(set8 w b d0 d1 d2 d3 d4 d5 d6 d7).heap.size=w.heap.size:=by
 unfold set8; simp only[World.size_setCell]
theorem fnOf8_lt {x0 x1 x2 x3 x4 x5 x6 x7:Nat} (h:MD x0 x1 x2 x3 x4 x5 x6 x7) (k:Nat):cQ [x0,x1,x2,x3,x4,x5,x6,x7] k<4294967296:=by
 obtain⟨h0,h1,h2,h3,h4,h5,h6,h7⟩:=h;unfold cQ
 match k with
 | 0=>exact h0
 | 1=>exact h1
 | 2=>exact h2
 | 3=>exact h3
 | 4=>exact h4
 | 5=>exact h5
 | 6=>exact h6
 | 7=>exact h7
 | k+8=>simp
theorem val8_tot (P:Nat→Nat):jD (P 0) (P 1) (P 2) (P 3) (P 4) (P 5) (P 6) (P 7)=cD 4294967296 P 8:=by
 unfold jD;simp only[cD];omega
theorem TwoH.store {wr u:World} {p q A B x0 x1 x2 x3 x4 x5 x6 x7 y0 y1 y2 y3 y4 y5 y6 y7:Nat} (hx:MD x0 x1 x2 x3 x4 x5 x6 x7) (hy:MD y0 y1 y2 y3 y4 y5 y6 y7) (ex:Hid (jD x0 x1 x2 x3 x4 x5 x6 x7=A)) (ey:Hid (jD y0 y1 y2 y3 y4 y5 y6 y7=B))
  (lp:wr.heap.size≤p) (lq:wr.heap.size≤q) (up:p<u.heap.size) (uq:q<u.heap.size) (hpq:¬p=q) (rp:RowIs u p 8 (fun _=>0)) (rq:RowIs u q 8 (fun _=>0)) (hbl:Below wr.heap.size wr u) :
  TwoH wr (set8 (set8 u p x0 x1 x2 x3 x4 x5 x6 x7) q y0 y1 y2 y3 y4 y5 y6 y7) p q (cQ [x0,x1,x2,x3,x4,x5,x6,x7]) (cQ [y0,y1,y2,y3,y4,y5,y6,y7]) A B :=
 ⟨below_set8 (below_set8 hbl lp _ _ _ _ _ _ _ _) lq _ _ _ _ _ _ _ _,lp,lq,by rw[size_set8,size_set8]; exact up,by rw[size_set8,size_set8]; exact uq,hpq,
  (rp.set8 _ _ _ _ _ _ _ _).set8_other (fun e=>hpq e.symm) _ _ _ _ _ _ _ _,(rq.set8_other hpq _ _ _ _ _ _ _ _).set8 _ _ _ _ _ _ _ _,fnOf8_lt hx,fnOf8_lt hy,
  (val8_tot (cQ [x0,x1,x2,x3,x4,x5,x6,x7])).symm.trans ex.out,(val8_tot (cQ [y0,y1,y2,y3,y4,y5,y6,y7])).symm.trans ey.out⟩
def halvesOps12 (pos:String):List Oper:=[
  { dst:=some 12,op:=Op.load 27 (Operand.tmp 2),type:=27,pos:=pos,after:=#[],guard:=none },
  { dst:=some 13,op:=Op.call { callee:=Callee.value (Operand.func 128),args:=#[Operand.tmp 12],argTypes:=#[27] },type:=147,pos:=pos,after:=#[{ on:=0,ground:=Ground.data }],guard:=none },
  { dst:=some 14,op:=Op.load 27 (Operand.tmp 3),type:=27,pos:=pos,after:=#[],guard:=none },
  { dst:=some 15,op:=Op.call { callee:=Callee.value (Operand.func 128),args:=#[Operand.tmp 14],argTypes:=#[27] },type:=147,pos:=pos,after:=#[{ on:=2,ground:=Ground.data },{ on:=1,ground:=Ground.chain }],guard:=none },
  { dst:=some 6,op:=Op.alloc 147,type:=0,pos:=pos,after:=#[],guard:=none },
  { dst:=some 7,op:=Op.alloc 147,type:=0,pos:=pos,after:=#[],guard:=none },
  { dst:=none,op:=Op.store 147 (Operand.tmp 6) (Operand.tmp 13),type:=0,pos:=pos,after:=#[{ on:=4,ground:=Ground.data },{ on:=1,ground:=Ground.data },{ on:=3,ground:=Ground.chain },{ on:=0,ground:=Ground.phase },{ on:=1,ground:=Ground.phase },{ on:=2,ground:=Ground.textOnly Departure.lateStores },{ on:=3,ground:=Ground.textOnly Departure.lateStoresUnsure },{ on:=4,ground:=Ground.phase },{ on:=5,ground:=Ground.phase }],guard:=none },
  { dst:=none,op:=Op.store 147 (Operand.tmp 7) (Operand.tmp 15),type:=0,pos:=pos,after:=#[{ on:=5,ground:=Ground.data },{ on:=3,ground:=Ground.data },{ on:=6,ground:=Ground.chain },{ on:=0,ground:=Ground.phase },{ on:=1,ground:=Ground.phase },{ on:=2,ground:=Ground.phase },{ on:=3,ground:=Ground.phase },{ on:=4,ground:=Ground.phase },{ on:=5,ground:=Ground.phase },{ on:=6,ground:=Ground.phase }],guard:=none }]
set_option maxHeartbeats 400000 in
theorem two_halves12 {id:Nat} {pos:String} {Q:Exit→Act→World→Prop} (a0 a1 a2 a3 b0 b1 b2 b3:Nat) (ha:aZ a0 a1 a2 a3) (hb:aZ b0 b1 b2 b3) (gA gB:Nat) (wr:World) (v0 v1 v4 v5 v8 v9 v10 v11:Value) (rest:List Value) (ds:List Deferred)
  (rA:Row4 wr gA a0 a1 a2 a3) (rB:Row4 wr gB b0 b1 b2 b3) (lA:gA<wr.heap.size) (lB:gB<wr.heap.size)
  (next:∀(p q:Nat) (X Y:Nat→Nat) (s0 s1 s2 s3:Value) (u:World),TwoH wr u p q X Y (aA a0 a1 a2 a3) (aA b0 b1 b2 b3)→Q .normal { tmps:=(v0::v1 :: .pointer (some ⟨gA,0,none⟩) :: .pointer (some ⟨gB,0,none⟩)::v4::v5 :: .pointer (some ⟨p,0,none⟩) :: .pointer (some ⟨q,0,none⟩)::v8::v9::v10::v11::s0::s1::s2::s3::rest).toArray,defers:=ds } u) :
  (Code.region id (halvesOps12 pos).toArray true).wp prog Q { tmps:=(v0::v1 :: .pointer (some ⟨gA,0,none⟩) :: .pointer (some ⟨gB,0,none⟩)::v4::v5::undef::undef::v8::v9::v10::v11::undef::undef::undef::undef::rest).toArray,defers:=ds } wr:=by
 unfold halvesOps12;refine lH 6 (fun got b u=>∃t6 t7 s0 s1 s2 s3:Value,b={ tmps:=(v0::v1 :: .pointer (some ⟨gA,0,none⟩) :: .pointer (some ⟨gB,0,none⟩)::v4::v5::t6::t7::v8::v9::v10::v11::s0::s1::s2::s3::rest).toArray,defers:=ds }∧RI got wr a0 a1 a2 a3 b0 b1 b2 b3 t6 t7 s0 s1 s2 s3 u) (by kernel_rfl) (by simp) (by kernel_rfl) (by kernel_rfl) (by kernel_rfl) (by kernel_rfl) ?_ ?_ ?_
 ·exact⟨undef,undef,undef,undef,undef,undef,rfl,RI.start wr a0 a1 a2 a3 b0 b1 b2 b3⟩
 ·rintro got b u i hi h0 hr ⟨t6,t7,s0,s1,s2,s3,rfl,H⟩
  match i,hi with
  | 0,_ =>
   obtain⟨k0,k1,k2,k3,kf⟩:=rA.below H.below lA;have HH:=Lib.hid H;clear H hr;refine wpOp_step rfl fun K hK => ?_
   go_simp;exact hK _ _ ⟨_,_,_,_,_,_,rfl,HH.out.op0⟩
  | 1,_ =>
   have e:got 0=true:=readyB_at (e:={ on:=0,ground:=Ground.data }) hr rfl (by simp) rfl;obtain rfl:=H.g0 e;have HH:=Lib.hid H;clear H hr;refine wpOp_step rfl fun K hK => ?_
   go_simp;refine (gM a0 a1 a2 a3 ha _).mono ?_
   rintro e u' ⟨x0,x1,x2,x3,x4,x5,x6,x7,rfl,hx,ex,hbl⟩
   exact hK _ _ ⟨_,_,_,_,_,_,rfl,(HH.out.grow hbl).op1 ⟨x0,x1,x2,x3,x4,x5,x6,x7,rfl,hx,ex⟩⟩
  | 2,_ =>
   obtain⟨k0,k1,k2,k3,kf⟩:=rB.below H.below lB;have HH:=Lib.hid H;clear H hr;refine wpOp_step rfl fun K hK => ?_
   go_simp;exact hK _ _ ⟨_,_,_,_,_,_,rfl,HH.out.op2⟩
  | 3,_ =>
   have e:got 2=true:=readyB_at (e:={ on:=2,ground:=Ground.data }) hr rfl (by simp) rfl;obtain rfl:=H.g2 e;have HH:=Lib.hid H;clear H hr;refine wpOp_step rfl fun K hK => ?_
   go_simp;refine (gM b0 b1 b2 b3 hb _).mono ?_
   rintro e u' ⟨x0,x1,x2,x3,x4,x5,x6,x7,rfl,hx,ex,hbl⟩
   exact hK _ _ ⟨_,_,_,_,_,_,rfl,(HH.out.grow hbl).op3 ⟨x0,x1,x2,x3,x4,x5,x6,x7,rfl,hx,ex⟩⟩
  | 4,_ =>
   have HH:=Lib.hid H;clear H hr;refine wpOp_step rfl fun K hK => ?_
   go_simp;exact hK _ _ ⟨_,_,_,_,_,_,rfl,HH.out.op4 _⟩
  | 5,_ =>
   have HH:=Lib.hid H;clear H hr;refine wpOp_step rfl fun K hK => ?_
   go_simp;exact hK _ _ ⟨_,_,_,_,_,_,rfl,HH.out.op5 _⟩
 ·rintro got b u hall ⟨t6,t7,s0,s1,s2,s3,rfl,H⟩
  obtain⟨p,q,x0,x1,x2,x3,x4,x5,x6,x7,y0,y1,y2,y3,y4,y5,y6,y7,rfl,rfl,rfl,rfl,hx,hy,ex,ey,lp,lq,up,uq,hpq,rp,rq,hbl⟩:=H.all hall;have cp0:=rp.cell (show 0<8 by omega); have fp0:=rp.free (show 0<8 by omega);have cp1:=rp.cell (show 1<8 by omega); have fp1:=rp.free (show 1<8 by omega);have cp2:=rp.cell (show 2<8 by omega); have fp2:=rp.free (show 2<8 by omega);have cp3:=rp.cell (show 3<8 by omega); have fp3:=rp.free (show 3<8 by omega);have cp4:=rp.cell (show 4<8 by omega); have fp4:=rp.free (show 4<8 by omega);have cp5:=rp.cell (show 5<8 by omega); have fp5:=rp.free (show 5<8 by omega);have cp6:=rp.cell (show 6<8 by omega); have fp6:=rp.free (show 6<8 by omega);have cp7:=rp.cell (show 7<8 by omega); have fp7:=rp.free (show 7<8 by omega);have cq0:=rq.cell (show 0<8 by omega); have fq0:=rq.free (show 0<8 by omega);have cq1:=rq.cell (show 1<8 by omega); have fq1:=rq.free (show 1<8 by omega);have cq2:=rq.cell (show 2<8 by omega); have fq2:=rq.free (show 2<8 by omega);have cq3:=rq.cell (show 3<8 by omega); have fq3:=rq.free (show 3<8 by omega);have cq4:=rq.cell (show 4<8 by omega); have fq4:=rq.free (show 4<8 by omega);have cq5:=rq.cell (show 5<8 by omega); have fq5:=rq.free (show 5<8 by omega);have cq6:=rq.cell (show 6<8 by omega); have fq6:=rq.free (show 6<8 by omega);have cq7:=rq.cell (show 7<8 by omega); have fq7:=rq.free (show 7<8 by omega);have HF:=Lib.hid (TwoH.store hx hy ex ey lp lq up uq hpq rp rq hbl);have hqp:¬q=p:=fun e=>hpq e.symm
  clear H hx hy ex ey lp lq up uq rp rq hbl hall rA rB;refine wpList_step fun K hK => ?_
  go_simp;refine hK _ _ ?_;refine wpList_step fun K2 hK2 => ?_
  go_simp;refine hK2 _ _ ?_;refine wpList_nil ?_;exact next _ _ _ _ _ _ _ _ _ HF.out
def halvesOps13 (pos:String):List Oper:=[
  { dst:=some 13,op:=Op.load 27 (Operand.tmp 2),type:=27,pos:=pos,after:=#[],guard:=none },
  { dst:=some 14,op:=Op.call { callee:=Callee.value (Operand.func 128),args:=#[Operand.tmp 13],argTypes:=#[27] },type:=147,pos:=pos,after:=#[{ on:=0,ground:=Ground.data }],guard:=none },
  { dst:=some 15,op:=Op.load 27 (Operand.tmp 3),type:=27,pos:=pos,after:=#[],guard:=none },
  { dst:=some 16,op:=Op.call { callee:=Callee.value (Operand.func 128),args:=#[Operand.tmp 15],argTypes:=#[27] },type:=147,pos:=pos,after:=#[{ on:=2,ground:=Ground.data },{ on:=1,ground:=Ground.chain }],guard:=none },
  { dst:=some 6,op:=Op.alloc 147,type:=0,pos:=pos,after:=#[],guard:=none },
  { dst:=some 7,op:=Op.alloc 147,type:=0,pos:=pos,after:=#[],guard:=none },
  { dst:=none,op:=Op.store 147 (Operand.tmp 6) (Operand.tmp 14),type:=0,pos:=pos,after:=#[{ on:=4,ground:=Ground.data },{ on:=1,ground:=Ground.data },{ on:=3,ground:=Ground.chain },{ on:=0,ground:=Ground.phase },{ on:=1,ground:=Ground.phase },{ on:=2,ground:=Ground.textOnly Departure.lateStores },{ on:=3,ground:=Ground.textOnly Departure.lateStoresUnsure },{ on:=4,ground:=Ground.phase },{ on:=5,ground:=Ground.phase }],guard:=none },
  { dst:=none,op:=Op.store 147 (Operand.tmp 7) (Operand.tmp 16),type:=0,pos:=pos,after:=#[{ on:=5,ground:=Ground.data },{ on:=3,ground:=Ground.data },{ on:=6,ground:=Ground.chain },{ on:=0,ground:=Ground.phase },{ on:=1,ground:=Ground.phase },{ on:=2,ground:=Ground.phase },{ on:=3,ground:=Ground.phase },{ on:=4,ground:=Ground.phase },{ on:=5,ground:=Ground.phase },{ on:=6,ground:=Ground.phase }],guard:=none }]
set_option maxHeartbeats 400000 in
theorem two_halves13 {id:Nat} {pos:String} {Q:Exit→Act→World→Prop} (a0 a1 a2 a3 b0 b1 b2 b3:Nat) (ha:aZ a0 a1 a2 a3) (hb:aZ b0 b1 b2 b3) (gA gB:Nat) (wr:World) (v0 v1 v4 v5 v8 v9 v10 v11 v12:Value) (rest:List Value) (ds:List Deferred)
  (rA:Row4 wr gA a0 a1 a2 a3) (rB:Row4 wr gB b0 b1 b2 b3) (lA:gA<wr.heap.size) (lB:gB<wr.heap.size)
  (next:∀(p q:Nat) (X Y:Nat→Nat) (s0 s1 s2 s3:Value) (u:World),TwoH wr u p q X Y (aA a0 a1 a2 a3) (aA b0 b1 b2 b3)→Q .normal { tmps:=(v0::v1 :: .pointer (some ⟨gA,0,none⟩) :: .pointer (some ⟨gB,0,none⟩)::v4::v5 :: .pointer (some ⟨p,0,none⟩) :: .pointer (some ⟨q,0,none⟩)::v8::v9::v10::v11::v12::s0::s1::s2::s3::rest).toArray,defers:=ds } u) :
  (Code.region id (halvesOps13 pos).toArray true).wp prog Q { tmps:=(v0::v1 :: .pointer (some ⟨gA,0,none⟩) :: .pointer (some ⟨gB,0,none⟩)::v4::v5::undef::undef::v8::v9::v10::v11::v12::undef::undef::undef::undef::rest).toArray,defers:=ds } wr:=by
 unfold halvesOps13;refine lH 6 (fun got b u=>∃t6 t7 s0 s1 s2 s3:Value,b={ tmps:=(v0::v1 :: .pointer (some ⟨gA,0,none⟩) :: .pointer (some ⟨gB,0,none⟩)::v4::v5::t6::t7::v8::v9::v10::v11::v12::s0::s1::s2::s3::rest).toArray,defers:=ds }∧RI got wr a0 a1 a2 a3 b0 b1 b2 b3 t6 t7 s0 s1 s2 s3 u) (by kernel_rfl) (by simp) (by kernel_rfl) (by kernel_rfl) (by kernel_rfl) (by kernel_rfl) ?_ ?_ ?_
 ·exact⟨undef,undef,undef,undef,undef,undef,rfl,RI.start wr a0 a1 a2 a3 b0 b1 b2 b3⟩
 ·rintro got b u i hi h0 hr ⟨t6,t7,s0,s1,s2,s3,rfl,H⟩
  match i,hi with
  | 0,_ =>
   obtain⟨k0,k1,k2,k3,kf⟩:=rA.below H.below lA;have HH:=Lib.hid H;clear H hr;refine wpOp_step rfl fun K hK => ?_
   go_simp;exact hK _ _ ⟨_,_,_,_,_,_,rfl,HH.out.op0⟩
  | 1,_ =>
   have e:got 0=true:=readyB_at (e:={ on:=0,ground:=Ground.data }) hr rfl (by simp) rfl;obtain rfl:=H.g0 e;have HH:=Lib.hid H;clear H hr;refine wpOp_step rfl fun K hK => ?_
   go_simp;refine (gM a0 a1 a2 a3 ha _).mono ?_
   rintro e u' ⟨x0,x1,x2,x3,x4,x5,x6,x7,rfl,hx,ex,hbl⟩
   exact hK _ _ ⟨_,_,_,_,_,_,rfl,(HH.out.grow hbl).op1 ⟨x0,x1,x2,x3,x4,x5,x6,x7,rfl,hx,ex⟩⟩
  | 2,_ =>
   obtain⟨k0,k1,k2,k3,kf⟩:=rB.below H.below lB;have HH:=Lib.hid H;clear H hr;refine wpOp_step rfl fun K hK => ?_
   go_simp;exact hK _ _ ⟨_,_,_,_,_,_,rfl,HH.out.op2⟩
  | 3,_ =>
   have e:got 2=true:=readyB_at (e:={ on:=2,ground:=Ground.data }) hr rfl (by simp) rfl;obtain rfl:=H.g2 e;have HH:=Lib.hid H;clear H hr;refine wpOp_step rfl fun K hK => ?_
   go_simp;refine (gM b0 b1 b2 b3 hb _).mono ?_
   rintro e u' ⟨x0,x1,x2,x3,x4,x5,x6,x7,rfl,hx,ex,hbl⟩
   exact hK _ _ ⟨_,_,_,_,_,_,rfl,(HH.out.grow hbl).op3 ⟨x0,x1,x2,x3,x4,x5,x6,x7,rfl,hx,ex⟩⟩
  | 4,_ =>
   have HH:=Lib.hid H;clear H hr;refine wpOp_step rfl fun K hK => ?_
   go_simp;exact hK _ _ ⟨_,_,_,_,_,_,rfl,HH.out.op4 _⟩
  | 5,_ =>
   have HH:=Lib.hid H;clear H hr;refine wpOp_step rfl fun K hK => ?_
   go_simp;exact hK _ _ ⟨_,_,_,_,_,_,rfl,HH.out.op5 _⟩
 ·rintro got b u hall ⟨t6,t7,s0,s1,s2,s3,rfl,H⟩
  obtain⟨p,q,x0,x1,x2,x3,x4,x5,x6,x7,y0,y1,y2,y3,y4,y5,y6,y7,rfl,rfl,rfl,rfl,hx,hy,ex,ey,lp,lq,up,uq,hpq,rp,rq,hbl⟩:=H.all hall;have cp0:=rp.cell (show 0<8 by omega); have fp0:=rp.free (show 0<8 by omega);have cp1:=rp.cell (show 1<8 by omega); have fp1:=rp.free (show 1<8 by omega);have cp2:=rp.cell (show 2<8 by omega); have fp2:=rp.free (show 2<8 by omega);have cp3:=rp.cell (show 3<8 by omega); have fp3:=rp.free (show 3<8 by omega);have cp4:=rp.cell (show 4<8 by omega); have fp4:=rp.free (show 4<8 by omega);have cp5:=rp.cell (show 5<8 by omega); have fp5:=rp.free (show 5<8 by omega);have cp6:=rp.cell (show 6<8 by omega); have fp6:=rp.free (show 6<8 by omega);have cp7:=rp.cell (show 7<8 by omega); have fp7:=rp.free (show 7<8 by omega);have cq0:=rq.cell (show 0<8 by omega); have fq0:=rq.free (show 0<8 by omega);have cq1:=rq.cell (show 1<8 by omega); have fq1:=rq.free (show 1<8 by omega);have cq2:=rq.cell (show 2<8 by omega); have fq2:=rq.free (show 2<8 by omega);have cq3:=rq.cell (show 3<8 by omega); have fq3:=rq.free (show 3<8 by omega);have cq4:=rq.cell (show 4<8 by omega); have fq4:=rq.free (show 4<8 by omega);have cq5:=rq.cell (show 5<8 by omega); have fq5:=rq.free (show 5<8 by omega);have cq6:=rq.cell (show 6<8 by omega); have fq6:=rq.free (show 6<8 by omega);have cq7:=rq.cell (show 7<8 by omega); have fq7:=rq.free (show 7<8 by omega);have HF:=Lib.hid (TwoH.store hx hy ex ey lp lq up uq hpq rp rq hbl);have hqp:¬q=p:=fun e=>hpq e.symm
  clear H hx hy ex ey lp lq up uq rp rq hbl hall rA rB;refine wpList_step fun K hK => ?_
  go_simp;refine hK _ _ ?_;refine wpList_step fun K2 hK2 => ?_
  go_simp;refine hK2 _ _ ?_;refine wpList_nil ?_;exact next _ _ _ _ _ _ _ _ _ HF.out
theorem tot_put (B:Nat) (P:Nat→Nat) (k v:Nat):cD B (cV P k v) (k+1)=cD B P k+v*B^k:=by
 rw[bD,dW B P k v k (Nat.le_refl _)];unfold cV;rw[if_pos rfl]
theorem carry_step {B k s c c' X Y T:Nat} (e:s+B*c'=X+Y+c):s*B^k+c'*B^(k+1)=X*B^k+Y*B^k+c*B^k:=by
 rw[Nat.pow_succ,←Nat.add_mul,←Nat.add_mul,←e,Nat.add_mul];congr 1;rw[Nat.mul_comm (B^k) B,←Nat.mul_assoc,Nat.mul_comm c' B]
theorem add_tot {B k s c c':Nat} {P X Y:Nat→Nat} (h:cD B P k+c*B^k=cD B X k+cD B Y k) (e:s+B*c'=X k+Y k+c) :
  cD B (cV P k s) (k+1)+c'*B^(k+1)=cD B X (k+1)+cD B Y (k+1):=by
 rw[tot_put,bD,bD];have:=carry_step (T:=0) (k:=k) e;omega
theorem ex_and {t:Nat} (h:t<18446744073709551616):∃s c:Nat,bits .and .u64 (t:Int) 4294967295=(s:Int)∧(t:Int)/4294967296=(c:Int)∧s<4294967296∧Hid (c=t/4294967296)∧Hid (s+4294967296*c=t):=by
 obtain⟨l,h',e1,e2,h1,h2,e⟩:=fL h;exact⟨l,h',e1,e2,h1,Lib.hid (by have:=e.out; omega),e⟩
theorem ex_ra {x y c:Nat} (hx:x<4294967296) (hy:y<4294967296) (hc:c≤1):∃e t s c':Nat,(x:Int)+(y:Int)=(e:Int)∧(e:Int)+(c:Int)=(t:Int)∧bits .and .u64 (t:Int) 4294967295=(s:Int)∧(t:Int)/4294967296=(c':Int) ∧
  e<18446744073709551616∧t<18446744073709551616∧s<4294967296∧c'≤1∧Hid (s+4294967296*c'=x+y+c):=by
 obtain⟨s,c',e1,e2,hs,h1,h2⟩:=ex_and (t:=x+y+c) (by omega);have:=h1.out;exact⟨x+y,x+y+c,s,c',by omega,by omega,e1,e2,by omega,by omega,hs,by omega,Lib.hid (by have:=h2.out; omega)⟩
theorem ex_rm {x y p o:Nat} (hx:x<4294967296) (hy:y<4294967296) (hp:p<4294967296) (ho:o<4294967296):∃m e t s c':Nat,(x:Int)*(y:Int)=(m:Int)∧(p:Int)+(m:Int)=(e:Int)∧(e:Int)+(o:Int)=(t:Int)∧bits .and .u64 (t:Int) 4294967295=(s:Int)∧(t:Int)/4294967296=(c':Int) ∧
  m<18446744073709551616∧e<18446744073709551616∧t<18446744073709551616∧s<4294967296∧c'<4294967296∧Hid (s+4294967296*c'=x*y+p+o):=by
 have hm:=xP (show x≤4294967295 by omega) (show y≤4294967295 by omega);obtain⟨s,c',e1,e2,hs,h1,h2⟩:=ex_and (t:=p+x*y+o) (by omega);have:=h1.out;exact⟨x*y,p+x*y,p+x*y+o,s,c',(Int.natCast_mul x y).symm,by omega,by omega,e1,e2,by omega,by omega,by omega,hs,by omega,Lib.hid (by have:=h2.out; omega)⟩
structure RW (w wr:World) (p q o r n:Nat) (X Y P:Nat→Nat):Prop where
 below:Below w.heap.size w wr
 lo:w.heap.size≤o
 uo:o<wr.heap.size
 op:¬o=p
 oq:¬o=q
 or:¬o=r
 rowX:RowIs wr p 8 X
 rowY:RowIs wr q 8 Y
 rowH:∃H,RowIs wr r 4 H
 ur:r<wr.heap.size
 rowP:RowIs wr o n P
 lt:∀k,P k<4294967296
theorem RW.set {w wr:World} {p q o r n:Nat} {X Y P:Nat→Nat} (h:RW w wr p q o r n X Y P) {k d:Nat} (hk:k<n) (hd:d<4294967296) :
  RW w (wr.setCell ⟨o,k,none⟩ (.int .u64 (d:Nat))) p q o r n X Y (cV P k d) :=
 ⟨h.below.setCell (p:=⟨o,k,none⟩) h.lo _,h.lo,by rw[World.size_setCell]; exact h.uo,h.op,h.oq,h.or,h.rowX.other h.op _,h.rowY.other h.oq _,
  h.rowH.elim fun H x=>⟨H,x.other h.or _⟩,by rw[World.size_setCell]; exact h.ur,h.rowP.set hk,fun x=>by unfold cV; split; exact hd; exact h.lt x⟩
theorem RW.drewN {w wr:World} {p q o r n:Nat} {X Y P:Nat→Nat} (h:RW w wr p q o r n X Y P) (m:Nat):RW w (wr.drewN m) p q o r n X Y P :=
 ⟨h.below.trans (aN _ _ _),h.lo,h.uo,h.op,h.oq,h.or,h.rowX,h.rowY,h.rowH,h.ur,h.rowP,h.lt⟩
set_option maxHeartbeats 4000000 in
theorem refAdd_calls (a0 a1 a2 a3 b0 b1 b2 b3:Nat) (ha:aZ a0 a1 a2 a3) (hb:aZ b0 b1 b2 b3) (w:World) :
  Calls prog 113 #[.agg #[.int .u64 a0,.int .u64 a1,.int .u64 a2,.int .u64 a3],.agg #[.int .u64 b0,.int .u64 b1,.int .u64 b2,.int .u64 b3]] w (KV (aA a0 a1 a2 a3) (aA b0 b1 b2 b3) w):=by
 go_enter func113,ntmps113
 go_wp2_with fail;refine two_halves12 (pos:="ref.go:37") a0 a1 a2 a3 b0 b1 b2 b3 ha hb w.heap.size (w.heap.size+1) _ _ _ _ _ _ _ _ _ _ _ ?_ ?_ (by first|(simp; done)|(simp; omega)) (by first|(simp; done)|(simp; omega)) (fun p q X Y s0 s1 s2 s3 u T => ?_)
 ·exact⟨by simp[go_sem],by simp[go_sem],by simp[go_sem],by simp[go_sem],fun k=>by simp[go_sem]⟩
 ·exact⟨by simp[go_sem],by simp[go_sem],by simp[go_sem],by simp[go_sem],fun k=>by simp[go_sem]⟩
 have r0:∃H,RowIs u (w.heap.size+1+1) 4 H:=⟨cQ [0,0,0,0],RowIs.below (RowIs.mk4 (by simp[go_sem]) (by simp[go_sem]) (by simp[go_sem]) (by simp[go_sem]) (fun k=>by simp[go_sem])) T.below (by simp)⟩
 have h0:Below w.heap.size w u:=by
  refine Below.trans ?_ (T.below.mono (by simp; omega))
  repeat (first|exact Below.refl _ _|refine Below.alloc ?_ (by first|(simp; done)|(simp; omega)) _)
 have lp:=T.lp; have lq:=T.lq; have hs:=T.below.size;simp at lp lq hs;have up:=T.up; have uq:=T.uq; have hpq:=T.ne; have rX:=T.rowX; have rY:=T.rowY;have HlX:=Lib.hid T.ltX; have HlY:=Lib.hid T.ltY; have HeX:=Lib.hid T.eX; have HeY:=Lib.hid T.eY;have Hr0:=Lib.hid r0; have Hh0:=Lib.hid h0; have HX:=Lib.hid rX; have HY:=Lib.hid rY;clear T r0 h0 rX rY;go_wp2_with fail
 go_loopw [9,10] (fun cc i wr=>∃(k c:Nat) (P:Nat→Nat),k≤8∧c≤1∧cc=.int .u64 c∧i=.int .i64 k∧RW w wr p q u.heap.size (w.heap.size+1+1) 8 X Y P∧Hid (cD 4294967296 P k+c*4294967296^k=cD 4294967296 X k+cD 4294967296 Y k)) (fun _ i _=>8-(intOf i).toNat)
 case atStart =>
  refine⟨0,0,fun _=>0,by omega,by omega,rfl,rfl,⟨Hh0.out.alloc (by omega) _,by omega,by simp,by omega,by omega,by omega,HX.out.alloc up _,HY.out.alloc uq _,Hr0.out.elim fun H x=>⟨H,x.alloc (by omega) _⟩,by simp; omega,?_,fun _=>by omega⟩,Lib.hid rfl⟩;refine RowIs.mk8z (fun k hk => ?_) (fun k=>by simp[go_sem])
  match k,hk with
  | 0,_|1,_|2,_|3,_|4,_|5,_|6,_|7,_=>simp[go_sem]
 case round =>
  obtain⟨i,c,P,hi,hc,rfl,rfl,m,mo⟩:=hrel
  by_cases hlt:i<8
  ·have cx:=m.rowX.cell hlt;have cy:=m.rowY.cell hlt;have cp:=m.rowP.cell hlt;have fp:=m.rowP.free hlt;have bx:=HlX.out i;have by':=HlY.out i
   obtain⟨e1,t1,s1',c1,q1,q2,q3,q4,l1,l2,l3,l4,e⟩:=ex_ra bx by' hc
   have M:=Lib.hid m;clear m bx by'
   go_wp2_with fail
   go_quiet (fail)
   go_wp2_with fail
   go_roundw
   case rel=>exact⟨i+1,c1,cV P i s1',by omega,by omega,rfl,by go_num,(M.out.drewN _).set hlt l3,Lib.hid (add_tot mo.out e.out)⟩
   case measure=>simp[intOf]; omega
  ·obtain rfl:i=8:=by omega
   have M:=Lib.hid m;have c0:=m.rowP.cell (show 0<8 by omega);clear m;go_wp2_with fail;have m:=M.out;refine (nN (P 0) (P 1) (P 2) (P 3) (P 4) (P 5) (P 6) (P 7) ⟨m.lt 0,m.lt 1,m.lt 2,m.lt 3,m.lt 4,m.lt 5,m.lt 6,m.lt 7⟩ u.heap.size 0 8 _ (m.rowP.cell (by omega)) (m.rowP.cell (by omega)) (m.rowP.cell (by omega)) (m.rowP.cell (by omega)) (m.rowP.cell (by omega)) (m.rowP.cell (by omega)) (m.rowP.cell (by omega)) (m.rowP.cell (by omega)) m.uo).mono ?_
   rintro e w' ⟨j0,j1,j2,j3,rfl,hj,ej,hbl⟩
   obtain⟨H,rH⟩:=m.rowH;have rH:=rH.below hbl m.ur;have p0:=rH.cell (show 0<4 by omega); have q0:=rH.free (show 0<4 by omega);have p1:=rH.cell (show 1<4 by omega); have q1:=rH.free (show 1<4 by omega);have p2:=rH.cell (show 2<4 by omega); have q2:=rH.free (show 2<4 by omega);have p3:=rH.cell (show 3<4 by omega); have q3:=rH.free (show 3<4 by omega);have HB:=Lib.hid (m.below.trans (hbl.mono m.below.size));have Hej:=Lib.hid ej;clear rH hbl m ej;go_wp2_with fail;refine bodyPost_ret (v:=.tuple #[.agg #[.int .u64 j0,.int .u64 j1,.int .u64 j2,.int .u64 j3],.int .u64 c]) (by simp[results,results113,go_sem, *]) rfl ?_;refine⟨j0,j1,j2,j3,c,rfl,hj,hc,?_,?_⟩
   ·have h1:=Hej.out.trans (val8_tot P);have h2:=mo.out;have e8:4294967296^8=115792089237316195423570985008687907853269984665640564039457584007913129639936:=by simp
    rw[HeX.out,HeY.out,←h1,e8]at h2;omega
   ·iterate 4 refine Below.setCell ?_ (by simp; omega) _
    exact HB.out
structure RM (w wr:World) (p q o r n:Nat) (X Y P:Nat→Nat):Prop where
 rw:RW w wr p q o r n X Y P
 rowL:∃L,RowIs wr (r+1) 4 L
 ul:r+1<wr.heap.size
 ol:¬o=r+1
theorem RM.set {w wr:World} {p q o r n:Nat} {X Y P:Nat→Nat} (h:RM w wr p q o r n X Y P) {k d:Nat} (hk:k<n) (hd:d<4294967296) :
  RM w (wr.setCell ⟨o,k,none⟩ (.int .u64 (d:Nat))) p q o r n X Y (cV P k d) :=
 ⟨h.rw.set hk hd,h.rowL.elim fun H x=>⟨H,x.other h.ol _⟩,by rw[World.size_setCell]; exact h.ul,h.ol⟩
theorem RM.drewN {w wr:World} {p q o r n:Nat} {X Y P:Nat→Nat} (h:RM w wr p q o r n X Y P) (m:Nat):RM w (wr.drewN m) p q o r n X Y P :=
 ⟨h.rw.drewN m,h.rowL,h.ul,h.ol⟩
theorem RowIs.mk16z {w:World} {b:Nat} (h:∀k,k<16→w.cell? ⟨b,k,none⟩=some (.int .u64 0)) (hf:∀k,w.frozen? ⟨b,k,none⟩=false):RowIs w b 16 (fun _=>0) :=
 fun k hk=>⟨h k hk,hf k⟩
theorem sixteen {k:Nat} (h:k<16):k=0∨k=1∨k=2∨k=3∨k=4∨k=5∨k=6∨k=7∨k=8∨k=9∨k=10∨k=11∨k=12∨k=13∨k=14∨k=15:=by omega
theorem refmul_fin {X Y P:Nat→Nat} {A B h l:Nat} (eX:cD 4294967296 X 8=A) (eY:cD 4294967296 Y 8=B) (m:MO 4294967296 8 X Y 8 P) (eh:h=jD (P 8) (P 9) (P 10) (P 11) (P 12) (P 13) (P 14) (P 15)) (el:l=jD (P 0) (P 1) (P 2) (P 3) (P 4) (P 5) (P 6) (P 7)) :
  l+115792089237316195423570985008687907853269984665640564039457584007913129639936*h=A*B:=by
 have h1:=m.2;have e8:4294967296^8=115792089237316195423570985008687907853269984665640564039457584007913129639936:=by simp
 rw[jG,eX,eY,e8,←val8_tot P,←val8_tot (fun k=>P (8+k))]at h1;rw[eh,el];exact h1
set_option maxHeartbeats 4000000 in
theorem refMul_calls (a0 a1 a2 a3 b0 b1 b2 b3:Nat) (ha:aZ a0 a1 a2 a3) (hb:aZ b0 b1 b2 b3) (w:World) :
  Calls prog 112 #[.agg #[.int .u64 a0,.int .u64 a1,.int .u64 a2,.int .u64 a3],.agg #[.int .u64 b0,.int .u64 b1,.int .u64 b2,.int .u64 b3]] w (Co (aA a0 a1 a2 a3) (aA b0 b1 b2 b3) w):=by
 go_enter func112,ntmps112
 go_wp2_with fail;refine two_halves13 (pos:="ref.go:63") a0 a1 a2 a3 b0 b1 b2 b3 ha hb w.heap.size (w.heap.size+1) _ _ _ _ _ _ _ _ _ _ _ _ ?_ ?_ (by first|(simp; done)|(simp; omega)) (by first|(simp; done)|(simp; omega)) (fun p q X Y s0 s1 s2 s3 u T => ?_)
 ·exact⟨by simp[go_sem],by simp[go_sem],by simp[go_sem],by simp[go_sem],fun k=>by simp[go_sem]⟩
 ·exact⟨by simp[go_sem],by simp[go_sem],by simp[go_sem],by simp[go_sem],fun k=>by simp[go_sem]⟩
 have r0:∃H,RowIs u (w.heap.size+1+1) 4 H:=⟨cQ [0,0,0,0],RowIs.below (RowIs.mk4 (by simp[go_sem]) (by simp[go_sem]) (by simp[go_sem]) (by simp[go_sem]) (fun k=>by simp[go_sem])) T.below (by first|(simp; done)|(simp; omega))⟩
 have r1:∃H,RowIs u (w.heap.size+1+1+1) 4 H:=⟨cQ [0,0,0,0],RowIs.below (RowIs.mk4 (by simp[go_sem]) (by simp[go_sem]) (by simp[go_sem]) (by simp[go_sem]) (fun k=>by simp[go_sem])) T.below (by simp)⟩
 have h0:Below w.heap.size w u:=by
  refine Below.trans ?_ (T.below.mono (by simp; omega))
  repeat (first|exact Below.refl _ _|refine Below.alloc ?_ (by first|(simp; done)|(simp; omega)) _)
 have lp:=T.lp; have lq:=T.lq; have hs:=T.below.size;simp at lp lq hs;have up:=T.up; have uq:=T.uq; have hpq:=T.ne; have rX:=T.rowX; have rY:=T.rowY;have HlX:=Lib.hid T.ltX; have HlY:=Lib.hid T.ltY; have HeX:=Lib.hid T.eX; have HeY:=Lib.hid T.eY;have Hr0:=Lib.hid r0; have Hr1:=Lib.hid r1; have Hh0:=Lib.hid h0; have HX:=Lib.hid rX; have HY:=Lib.hid rY;clear T r0 r1 h0 rX rY;go_wp2_with fail
 go_loopw [9] (fun i wr=>∃(k:Nat) (P:Nat→Nat),k≤8∧i=.int .i64 k∧RM w wr p q u.heap.size (w.heap.size+1+1) 16 X Y P∧Hid (MO 4294967296 8 X Y k P)) (fun i _=>8-(intOf i).toNat)
 case atStart =>
  refine⟨0,fun _=>0,by omega,rfl,⟨⟨Hh0.out.alloc (by omega) _,by omega,by simp,by omega,by omega,by omega,HX.out.alloc up _,HY.out.alloc uq _,Hr0.out.elim fun H x=>⟨H,x.alloc (by omega) _⟩,by simp; omega,?_,fun _=>by omega⟩,Hr1.out.elim fun H x=>⟨H,x.alloc (by omega) _⟩,by simp; omega,by omega⟩,Lib.hid (SS fun _=>rfl)⟩;refine RowIs.mk16z (fun k hk => ?_) (fun k=>by simp[go_sem])
  rcases sixteen hk with rfl|rfl|rfl|rfl|rfl|rfl|rfl|rfl|rfl|rfl|rfl|rfl|rfl|rfl|rfl|rfl<;>simp[go_sem]
 case round =>
  obtain⟨i,P,hi,rfl,m,mo⟩:=hrel
  by_cases hlt:i<8
  ·go_wp2_with fail
   go_loopw [10,11] (fun cc jj wr=>∃(j o:Nat) (P:Nat→Nat),j≤8∧o<4294967296∧jj=.int .i64 j∧cc=.int .u64 o∧RM w wr p q u.heap.size (w.heap.size+1+1) 16 X Y P∧Hid (MI 4294967296 8 X Y i j o P)) (fun _ j _=>8-(intOf j).toNat)
   case atStart=>exact⟨0,0,P,by omega,by omega,rfl,rfl,m,Lib.hid (ST mo.out)⟩
   case round =>
    obtain⟨j,o,P,hj,ho,rfl,rfl,m,mi⟩:=hrel
    by_cases hlt':j<8
    ·have cx:=m.rw.rowX.cell hlt;have cy:=m.rw.rowY.cell hlt';have cp:=m.rw.rowP.cell (show i+j<16 by omega);have fp:=m.rw.rowP.free (show i+j<16 by omega);have bx:=HlX.out i;have by':=HlY.out j
     have bp:=m.rw.lt (i+j);obtain⟨m1,e1,t1,d1,c1,q1,q2,q3,q4,q5,l0,l1,l2,l3,l4,e⟩:=ex_rm bx by' bp ho
     have M:=Lib.hid m;clear m bx by' bp
     go_wp2_with fail
     go_quiet (fail)
     go_wp2_with fail
     go_roundw
     case rel=>exact⟨j+1,c1,cV P (i+j) d1,by omega,l4,by go_num,rfl,(M.out.drewN _).set (by omega) l3,Lib.hid (ZD hlt hlt' mi.out e.out)⟩
     case measure=>simp[intOf]; omega
    ·obtain rfl:j=8:=by omega
     have cp:=m.rw.rowP.cell (show i+8<16 by omega);have fp:=m.rw.rowP.free (show i+8<16 by omega);have M:=Lib.hid m;clear m;go_wp2_with fail
     go_roundw
     case rel=>exact⟨i+1,cV P (i+8) o,by omega,by go_num,M.out.set (by omega) ho,Lib.hid (Iq hlt mi.out)⟩
     case measure=>simp[intOf]; omega
  ·obtain rfl:i=8:=by omega
   have M:=Lib.hid m;have c0:=m.rw.rowP.cell (show 0<16 by omega);clear m;go_wp2_with fail;refine bM (fun _=>True) 5 (by kernel_rfl) ?_;refine aC (i:=0) (v:=.slice (some ⟨u.heap.size,8,none⟩) 8 8) rfl (by kernel_rfl) (by kernel_rfl) (by kernel_rfl) (by kernel_rfl) (fun _ _ _ h=>h) trivial (Or.inl ⟨by rfl,fun wx hx => ?_⟩) ?_
   ·go_simp
   simp only[Act.put,List.setIfInBounds_toArray,List.set_cons_zero,List.set_cons_succ];refine aC (i:=2) (v:=.slice (some ⟨u.heap.size,0,none⟩) 8 16) rfl (by kernel_rfl) (by kernel_rfl) (by kernel_rfl) (by kernel_rfl) (fun _ _ _ h=>h) trivial (Or.inl ⟨by rfl,fun wx hx => ?_⟩) ?_
   ·go_simp
   simp only[Act.put,List.setIfInBounds_toArray,List.set_cons_zero,List.set_cons_succ];obtain⟨H,rH⟩:=M.out.rw.rowH;obtain⟨L,rL⟩:=M.out.rowL;have HH:=Lib.hid rH; have HL:=Lib.hid rL;clear rH rL;have rP:RowIs wr.drew u.heap.size 16 P:=M.out.rw.rowP;have hlt:=M.out.rw.lt;have hul:=M.out.ul;have hur:=M.out.rw.ur;have huo:=M.out.rw.uo;have HP:=Lib.hid rP; have Hlt:=Lib.hid hlt;have HB:=Lib.hid M.out.rw.below;clear rP hlt M c0;refine aD (i:=1) (by kernel_rfl) rfl (fun K hK => ?_);go_simp;refine (nN (P 8) (P 9) (P 10) (P 11) (P 12) (P 13) (P 14) (P 15) ⟨Hlt.out _,Hlt.out _,Hlt.out _,Hlt.out _,Hlt.out _,Hlt.out _,Hlt.out _,Hlt.out _⟩ u.heap.size 8 8 _ (HP.out.cell (by omega)) (HP.out.cell (by omega)) (HP.out.cell (by omega)) (HP.out.cell (by omega)) (HP.out.cell (by omega)) (HP.out.cell (by omega)) (HP.out.cell (by omega)) (HP.out.cell (by omega)) huo).mono ?_
   rintro e w1 ⟨h0,h1,h2,h3,rfl,hh,eh,hbl⟩
   have Heh:=Lib.hid eh;have HP1:=Lib.hid (HP.out.below hbl huo);have HH1:=Lib.hid ((show RowIs wr.drew _ 4 H from HH.out).below hbl hur);have HL1:=Lib.hid ((show RowIs wr.drew _ 4 L from HL.out).below hbl hul);have hsz:=hbl.size;have HB1:=Lib.hid (HB.out.drew.trans (hbl.mono HB.out.size));clear hbl eh HP HH HL HB;refine hK.out _ _ (Or.inr trivial) (fun _ => ?_);clear hK K;refine aD (i:=3) (by kernel_rfl) rfl (fun K hK => ?_);go_simp;refine (nN (P 0) (P 1) (P 2) (P 3) (P 4) (P 5) (P 6) (P 7) ⟨Hlt.out _,Hlt.out _,Hlt.out _,Hlt.out _,Hlt.out _,Hlt.out _,Hlt.out _,Hlt.out _⟩ u.heap.size 0 16 _ (HP1.out.cell (by omega)) (HP1.out.cell (by omega)) (HP1.out.cell (by omega)) (HP1.out.cell (by omega)) (HP1.out.cell (by omega)) (HP1.out.cell (by omega)) (HP1.out.cell (by omega)) (HP1.out.cell (by omega)) (Nat.lt_of_lt_of_le huo hsz)).mono ?_
   rintro e w2 ⟨l0,l1,l2,l3,rfl,hl,el,hbl⟩
   have Hel:=Lib.hid el;have rH:=HH1.out.below hbl (Nat.lt_of_lt_of_le hur hsz);have rL:=HL1.out.below hbl (Nat.lt_of_lt_of_le hul hsz);have HB2:=Lib.hid (HB1.out.trans (hbl.mono HB1.out.size));clear hbl el HP1 HH1 HL1 HB1;refine hK.out _ _ (Or.inr trivial) (fun _ => ?_);clear hK K;have p0:=rH.cell (show 0<4 by omega); have q0:=rH.free (show 0<4 by omega);have p1:=rH.cell (show 1<4 by omega); have q1:=rH.free (show 1<4 by omega);have p2:=rH.cell (show 2<4 by omega); have q2:=rH.free (show 2<4 by omega);have p3:=rH.cell (show 3<4 by omega); have q3:=rH.free (show 3<4 by omega);have g0:=rL.cell (show 0<4 by omega); have f0:=rL.free (show 0<4 by omega);have g1:=rL.cell (show 1<4 by omega); have f1:=rL.free (show 1<4 by omega);have g2:=rL.cell (show 2<4 by omega); have f2:=rL.free (show 2<4 by omega);have g3:=rL.cell (show 3<4 by omega); have f3:=rL.free (show 3<4 by omega);clear rH rL;refine aD (i:=4) (by kernel_rfl) rfl (fun K hK => ?_);go_simp;refine hK.out _ _ (Or.inr trivial) (fun _ => ?_);clear hK K;refine aD (i:=5) (by kernel_rfl) rfl (fun K hK => ?_);go_simp;refine hK.out _ _ (Or.inr trivial) (fun _ => ?_);clear hK K;refine aU (by kernel_rfl) ?_;go_wp2_with fail;refine bodyPost_ret (v:=.tuple #[.agg #[.int .u64 h0,.int .u64 h1,.int .u64 h2,.int .u64 h3],.agg #[.int .u64 l0,.int .u64 l1,.int .u64 l2,.int .u64 l3]]) (by simp[results,results112,go_sem, *]) rfl ?_;refine⟨h0,h1,h2,h3,l0,l1,l2,l3,rfl,hh,hl,refmul_fin HeX.out HeY.out mo.out Heh.out Hel.out,?_⟩
   iterate 8 refine Below.setCell ?_ (by simp; omega) _
   exact HB2.out
end Go.Proofs.YtpjlhhpjpnacmaaGreat.R1
