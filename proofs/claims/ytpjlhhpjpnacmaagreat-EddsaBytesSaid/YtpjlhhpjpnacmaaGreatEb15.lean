/- Eb15 -/
import Derived.ProofKit
import Derived.LaidMore
import Derived.OpenShut
import Derived.Stop.Joined
import Derived.Carry
import Derived.RowKit
import Derived.ChangeSame
import Derived.JoinedOf
import Derived.JoinedAt
import Derived.Laws.IdiomArrays
import Derived.Deep.Strs
import Derived.SizedLaws
import Derived.ChangeSlices
import Derived.Test.YtpjlhhpjpnacmaaGreatEb12
import Derived.Test.YtpjlhhpjpnacmaaGreatEb13
import Derived.Test.YtpjlhhpjpnacmaaGreatEb14
import Derived.Test.YtpjlhhpjpnacmaaGreatRows
import Derived.Test.YtpjlhhpjpnacmaaGreatEb03
import Derived.Test.YtpjlhhpjpnacmaaGreatEb02
import Derived.Test.YtpjlhhpjpnacmaaGreatEb08
import Derived.Test.YtpjlhhpjpnacmaaGreatEb05
import Derived.Test.YtpjlhhpjpnacmaaGreatProg
set_option maxRecDepth 100000
set_option linter.unusedVariables false
set_option linter.unusedSimpArgs false
set_option linter.unnecessarySimpa false
noncomputable section
namespace Go.Proofs.YtpjlhhpjpnacmaaGreat.Ex
open Go.Proofs.Tryz
open Go.RowKit
def Jp:gP
 | [.v (.im (.int .i64 2))]=>some ([],.one (.fl [.q RM]))
 | _=>none
theorem Py:Value.agg (aB (q1 RM)).toArray=.agg #[.int .u64 Go.Proofs.YtpjlhhpjpnacmaaGreat.FR.m0,.int .u64 Go.Proofs.YtpjlhhpjpnacmaaGreat.FR.m1,.int .u64 Go.Proofs.YtpjlhhpjpnacmaaGreat.FR.m2,.int .u64 Go.Proofs.YtpjlhhpjpnacmaaGreat.FR.m3]:=by kernel_rfl
theorem Ae:∀cs pre r,Jp cs=some (pre,r)→aS pre→∀(args:List Value) (w:World),cH w cs args→bC prog 56 r args w:=by
 intro cs pre r hg hp args w ha;unfold Jp at hg;split at hg
 ·cases hg
  match args,ha with
  | [u],ha =>
   have e:u=.int .i64 2:=ha.1;subst e;refine (fJ 2 Go.Proofs.YtpjlhhpjpnacmaaGreat.FR (Or.inr ⟨rfl,rfl⟩) w).mono fun e w' h=>⟨?_,h.2⟩
   rw[h.1,←Py];rfl
  | [],ha=>exact ha.elim
  | _::_::_,ha=>exact ha.2.elim
 ·cases hg
def Ji:gP
 | [.v (.fl l),.v (.im (.int .i64 1))]=>match jV l with
  | some n=>some ([],.one (.fl [.q (wv n/2)]))
  | none=>none
 | _=>none
theorem Fc (n:Nat):wv n<aO:=cE (cP n)
theorem ZU:∀cs pre r,Ji cs=some (pre,r)→aS pre→∀(args:List Value) (w:World),cH w cs args→bC prog 57 r args w:=by
 intro cs pre r hg hp args w ha;unfold Ji at hg;split at hg
 ·rename_i l;split at hg
  ·rename_i n hn;cases hg
   match args,ha with
   | [v,u],ha =>
    have e1:u=.int .i64 1:=ha.2.1;have e2:v=.agg (aB l).toArray:=ha.1;rw[bQ l n hn]at e2;subst e1; subst e2;refine (R1.refShr_calls _ _ _ _ 1 (cP n) (by decide) w).mono ?_
    rintro e w' ⟨s0,s1,s2,s3,rfl,hs,hv,hb⟩
    have hv:aA s0 s1 s2 s3=wv n/2:=hv;obtain⟨rfl,rfl,rfl,rfl⟩:=fN hs (Nat.lt_of_le_of_lt (Nat.div_le_self _ _) (Fc n)) hv;exact⟨rfl,hb⟩
   | [],ha=>exact ha.elim
   | [_],ha=>exact ha.2.elim
   | _::_::_::_,ha=>exact ha.2.2.elim
  ·cases hg
 ·cases hg
def TL:gP
 | [.v (.fl l),.v (.fl m)]=>match jV l,jV m with
  | some a,some b=>some ([],.one (.im (.int .i64 (Go.Proofs.YtpjlhhpjpnacmaaGreat.bF (wv a) (wv b)))))
  | _,_=>none
 | _=>none
theorem xX:∀cs pre r,TL cs=some (pre,r)→aS pre→∀(args:List Value) (w:World),cH w cs args→bC prog 22 r args w:=by
 intro cs pre r hg hp args w ha;unfold TL at hg;split at hg
 ·rename_i l m;split at hg
  ·rename_i a b h1 h2;cases hg;rw[Tj ha,bQ l _ h1,bQ m _ h2];exact (R1.refCmp_calls _ _ _ _ _ _ _ _ (cP a) (cP b) w).mono fun e w' h=>h
  ·cases hg
 ·cases hg
def Ts:Tab:=((T0.add 56 Jp).add 57 Ji).add 22 TL
theorem Pp:TabOk prog Ts:=(((dV _).add func56 (by kernel_rfl) (by kernel_rfl) Ae).add func57 (by kernel_rfl) (by kernel_rfl) ZU).add func22 (by kernel_rfl) (by kernel_rfl) xX
theorem Iy (x:Nat) (c:Bool):bR prog (qG prog) (fun _=>⟨fun _=>Ts,fun _=>true,assoc [(9,.bool c)]⟩) f32 60 [.v (.fl [.q x])]=some ([aW .gtr .i64 (Go.Proofs.YtpjlhhpjpnacmaaGreat.bF (wv x) (wv (wv RM/2))) 0=some (.bool c)],.one (.im (.bool c))):=by kernel_rfl
theorem WP:wv (wv RM/2)=RM/2:=by kernel_rfl
theorem Iz {x:Nat} (hx:x<RM):aW .gtr .i64 (Go.Proofs.YtpjlhhpjpnacmaaGreat.bF (wv x) (wv (wv RM/2))) 0=some (.bool (!cR RM x)):=by
 show some (Value.bool (decide (Go.Proofs.YtpjlhhpjpnacmaaGreat.bF (wv x) (wv (wv RM/2))>0)))=_;congr 2;rw[WP,show wv x=x from iM hx];have h2:=mP hx;have ho:=xD;unfold Go.Proofs.YtpjlhhpjpnacmaaGreat.bF
 by_cases h:2*x<RM
 ·rw[h2.2 h];refine decide_eq_false ?_
  by_cases e:x=RM/2
  ·rw[if_pos e]; decide
  ·rw[if_neg e,if_pos (by omega)]; decide
 ·rw[show cR RM x=false from Bool.eq_false_iff.2 fun q=>h (h2.1 q)];refine decide_eq_true ?_;rw[if_neg (by omega),if_neg (by omega)];decide
def Jq (c:Bool):gP:=g1 jV fun x=>([x<RM,cR RM x = !c],.one (.im (.bool c)))
theorem Sd (c:Bool):∀cs pre r,Jq c cs=some (pre,r)→aS pre→∀(args:List Value) (w:World),cH w cs args→bC prog 32 r args w :=
 hZ (op:=fun x=>([x<RM,cR RM x = !c],.one (.im (.bool c)))) bQ fun x h args w ha=>by
  refine aG aQ (fun _ _=>Pp) (aT _) func32 (Iy x c) ⟨?_,trivial⟩ ha;rw[Iz h.1,h.2.1,Bool.not_not]
def JQ (c:Int):gP:=g1 WF fun p=>([p.1<aO,p.2<aO,eE p=c],.one (.im (.int .i64 c)))
theorem UK (c:Int):∀cs pre r,JQ c cs=some (pre,r)→aS pre→∀(args:List Value) (w:World),cH w cs args→bC prog 31 r args w :=
 hZ (op:=fun p=>([p.1<aO,p.2<aO,eE p=c],.one (.im (.int .i64 c)))) lF fun p h args w ha=>by
  have h':=DQ p ⟨h.1,h.2.1⟩ args w ha;rw[h.2.2.1]at h';exact h'
def Jf (d:Bool) (V:Nat):gP
 | [.v (.im (.int .i64 2)),.v (.fl l)]=>match jV l with
  | some x=>bif d then some ([x<RM,V<RM,aI V V=x,cR RM V=true],.many [.fl [.q V],.im (.int .i64 0)])else some ([x<RM,qC RM x = -1],.many [.fl [.q 0],.im (.int .i64 23)])
  | none=>none
 | _=>none
theorem Rx (d:Bool) (V:Nat):∀cs pre r,Jf d V cs=some (pre,r)→aS pre→∀(args:List Value) (w:World),cH w cs args→bC prog 41 r args w:=by
 intro cs pre r hg hp args w ha;unfold Jf at hg;split at hg
 ·rename_i l;split at hg
  ·rename_i x hx
   match args,ha with
   | [t,v],ha =>
    have h1:t=.int .i64 2:=ha.1;have h2:v=.agg (aB l).toArray:=ha.2.1;rw[bQ l x hx]at h2;subst h1; subst h2;cases d
    ·cases hg;obtain⟨hxr,hleg,_⟩:=hp;unfold qC at hleg
     by_cases hz:x=0
     ·rw[if_pos hz]at hleg; omega
     ·rw[if_neg hz]at hleg;have h1:¬x^(RM/2)%RM=1:=fun q=>by rw[if_pos q]at hleg; omega
      have h0:¬x^(RM/2)%RM=0:=fun q=>by
       rcases TE Cz (by decide) xD (show 0<x by omega) hxr with k|k
       ·omega
       ·rw[q]at k; exact absurd k (by decide)
      refine (QL 2 Go.Proofs.YtpjlhhpjpnacmaaGreat.FR kF _ _ _ _ (cP x) (by
       rw[iM hxr];show oY RM x = -1;unfold oY;rw[if_neg h0,if_neg h1]) w).mono ?_
      rintro e w' ⟨s0,s1,s2,s3,rfl,hs,hv,hb⟩
      obtain⟨rfl,rfl,rfl,rfl⟩:=fN hs (gG dJ) hv;exact⟨rfl,hb⟩
    ·cases hg;obtain⟨hxr,hV,hVV,hl,_⟩:=hp;have hVV:V*V%RM=x:=hVV;refine (DJ _ _ _ _ (cP x) (by rw[iM hxr]; exact hxr) (by
      rw[iM hxr]
      by_cases hz:x=0
      ·exact Or.inr hz
      ·have hv0:V≠0:=fun q=>hz (by rw[←hVV,q]; rfl)
       refine Or.inl ?_;rw[←hVV];exact EV Cz (by decide) (Nat.pos_of_ne_zero hv0) hV) w).mono ?_
     rintro e w' ⟨s0,s1,s2,s3,rfl,hs,k1,k2,k3,hb⟩
     rw[iM hxr]at k1;have e1:aA s0 s1 s2 s3=V:=AX k2 hV k3 hl (k1.trans hVV.symm);obtain⟨rfl,rfl,rfl,rfl⟩:=fN hs (gG hV) e1;exact⟨rfl,hb⟩
   | [],ha=>exact ha.elim
   | [_],ha=>exact ha.2.elim
   | _::_::_::_,ha=>exact ha.2.2.elim
  ·cases hg
 ·cases hg
def ZW (g:Nat→Nat):gP
 | [.s l n m]=>some ([n=32,aB l=aB (bj g),∀k,g k<256],.many [.fl [.q (Go.Proofs.YtpjlhhpjpnacmaaGreat.gL g 0 32)],.im (.int .i64 0)])
 | _=>none
theorem Dx (g:Nat→Nat):∀cs pre r,ZW g cs=some (pre,r)→aS pre→∀(args:List Value) (w:World),cH w cs args→bC prog 21 r args w:=by
 intro cs pre r hg hp args w ha;unfold ZW at hg;split at hg
 ·rename_i l n m;cases hg;obtain⟨rfl,he,hlt,_⟩:=hp
  match args,ha with
  | [u],ha =>
   obtain⟨b,o,e2,hb,hr⟩:=ha.1;subst e2;rw[he]at hr;refine (DP b o m g hlt w hb (pM hr)).mono ?_
   rintro e w' ⟨s0,s1,s2,s3,c',rfl,hs,⟨h1,rfl⟩,hbl⟩
   obtain⟨rfl,rfl,rfl,rfl⟩:=fN hs (Dn hlt) h1;exact⟨rfl,hbl⟩
  | [],ha=>exact ha.elim
  | _::_::_,ha=>exact ha.2.elim
 ·cases hg
def Ek (k:Int) (c:Bool):Tab:=(T0.add 31 (JQ k)).add 32 (Jq c)
theorem Ie (k:Int) (c:Bool):TabOk prog (Ek k c):=((dV _).add func31 (by kernel_rfl) (by kernel_rfl) (UK k)).add func32 (by kernel_rfl) (by kernel_rfl) (Sd c)
def Yv:Tab3:=WK.add 16 Aa
theorem Lv:FsOk prog Yv:=(qM _).add func16 (by kernel_rfl) (by kernel_rfl) JM
def Uz (gen:Nat→Option Value):Ext:={ Ext.none with gen:=gen,T2:=WL,T3:=Yv,T4:=Cg,T5:=Cm,T6:=Ev }
theorem PB (gen:Nat→Option Value) (w:World):dC prog (qY prog (Uz gen)) w.heap.size w:=vD (qN _) (fun _ _ _ h=>h.elim) Lv (nZ _) (kO _) (mI _)
def eQ:Code:=(f15.body).getD .skip
def DU (p:NP):List Fact:=[.slot 1 (.pt 1 0),.row 1 true [.q p.1,.q p.2]]
def Vw (p:NP) (f:Nat→Nat):List Fact:=DU p++[.slot 5 (.im (.slice none 0 0)),.slot 6 (.so 15 32),.row 15 true (bj f),.app 15 5 1 32]
def Hd (p:NP) (f:Nat→Nat):List Fact:=DU p++[.slot 5 (.so 26 32),.row 26 true (bj f),.app 26 5 1 32]
def Zn (p:NP) (cap:Nat) (f:Nat→Nat):List Fact:=DU p++[.slot 5 (.sl 26 0 32 cap),.row 26 true (bj f)]
def Uj (cap:Nat) (f:Nat→Nat):List Fact:=[.slot 2 (.sl 26 0 32 cap),.row 26 true (bj f),.slot 3 (.im (.int .i64 0))]
def WI (c:Bool) (_:Nat):Cfg:=⟨fun _=>Ek 0 c,fun _=>true,fun _=>none⟩
theorem YD:eQ=.seq (cA eQ) (.seq (cA (cB eQ)) (.seq (cA (cB (cB eQ))) (.seq (cA (cB (cB (cB eQ)))) (.seq (cA (cB (cB (cB (cB eQ))))) (.seq (cA (cB (cB (cB (cB (cB eQ)))))) (.seq (cA (cB (cB (cB (cB (cB (cB eQ))))))) ((cB (cB (cB (cB (cB (cB (cB eQ)))))))))))))):=by kernel_rfl
theorem Oz (p:NP) (c:Bool):bJ prog (qG prog) f15.ntmps (WI c) 60 (cA eQ) (iO 0 [.v (.fl [.q p.1,.q p.2])]) (DU p)=some ([],.nrm,(DU p)):=by kernel_rfl
theorem Oy (p:NP) (c:Bool):bJ prog (qG prog) f15.ntmps (WI c) 60 (cA (cB eQ)) (DU p) (DU p++[.slot 4 (.im (.int .i64 0))])=some ([p.1<aO,p.2<aO,eE p=0],.nrm,(DU p++[.slot 4 (.im (.int .i64 0))])):=by kernel_rfl
theorem Ox (p:NP) (c:Bool):bJ prog (qG prog) f15.ntmps (WI c) 60 (cA (cB (cB eQ))) (DU p++[.slot 4 (.im (.int .i64 0))]) (DU p)=some ([],.nrm,(DU p)):=by kernel_rfl
theorem Ow (p:NP) (c:Bool):bJ prog (qG prog) f15.ntmps (WI c) 60 (cA (cB (cB (cB eQ)))) (DU p) (DU p++[.slot 5 (.im (.slice none 0 0))])=some ([],.nrm,(DU p++[.slot 5 (.im (.slice none 0 0))])):=by kernel_rfl
theorem Ov (p:NP) (c:Bool):bJ prog (qY prog (Uz (fun _=>none))) f15.ntmps (WI c) 60 (cA (cB (cB (cB (cB eQ))))) (DU p++[.slot 5 (.im (.slice none 0 0))]) (Vw p (bE (wv p.2)))=some ([],.nrm,(Vw p (bE (wv p.2)))):=by kernel_rfl
theorem Ou (p:NP) (c:Bool) (f:Nat→Nat):bJ prog (qG prog) f15.ntmps (WI c) 200 (cA (cB (cB (cB (cB (cB eQ)))))) (Vw p f) (Hd p (dM f))=some ([],.nrm,(Hd p (dM f))):=by kernel_rfl
def Ej (g:Nat→Nat) (b d:Bool) (V:Nat) (k:Int):Tab:=((((rK.add 37 (Jw b)).add 21 (ZW g)).add 41 (Jf d V)).add 32 (Jq false)).add 31 (JQ k)
theorem Id (g:Nat→Nat) (b d:Bool) (V:Nat) (k:Int):TabOk prog (Ej g b d V k):=((((nM.add func37 (by kernel_rfl) (by kernel_rfl) (Ea b)).add func21 (by kernel_rfl) (by kernel_rfl) (Dx g)).add func41 (by kernel_rfl) (by kernel_rfl) (Rx d V)).add func32 (by kernel_rfl) (by kernel_rfl) (Sd false)).add func31 (by kernel_rfl) (by kernel_rfl) (UK k)
def dH:Code:=(f20.body).getD .skip
def XX (f:Nat→Nat) (m:Nat):List Fact:=[.slot 0 (.sl 0 0 32 m),.row 0 false (bj f),.slot 2 (.pt 2 0),.row 2 true kX]
def Md (f:Nat→Nat):List Fact:=[.slot 2 (.pt 2 0),.row 2 true kX,.slot 4 (.so 30 32),.row 30 true (bj f),.app 30 5 1 32]
def DN (f:Nat→Nat) (cap:Nat) (h:Bool):List Fact:=[.slot 2 (.pt 2 0),.row 2 true kX,.slot 6 (.im (.bool h)),.slot 4 (.sl 30 0 32 cap),.row 30 true (bj f)]
def Gr (P:NP) (e:Int):List Fact:=[.slot 2 (.pt 2 0),.row 2 true [.q P.1,.q P.2],.slot 3 (.im (.int .i64 e))]
def LF (e:Int):List Fact:=[.slot 2 (.pt 2 0),.row 2 true kX,.slot 3 (.im (.int .i64 e))]
def Gs (num:Nat→Option Value) (_:Nat):Cfg:=⟨fun _=>T0,fun _=>true,num⟩
def WH (g:Nat→Nat) (b d:Bool) (V:Nat) (k:Int) (hint:Nat→Bool) (num:Nat→Option Value) (_:Nat):Cfg:=⟨fun _=>Ej g b d V k,hint,num⟩
theorem XV:dH=.seq (cA dH) (.seq (cA (cB dH)) (.seq (cA (cB (cB dH))) (.seq (cA (cB (cB (cB dH)))) (.seq (cA (cB (cB (cB (cB dH))))) (.seq (cA (cB (cB (cB (cB (cB dH)))))) ((cB (cB (cB (cB (cB (cB dH)))))))))))):=by kernel_rfl
theorem Oi (f:Nat→Nat) (m:Nat):bJ prog (qG prog) f20.ntmps (Gs (fun _=>none)) 60 (cA dH) (iO 0 [.s (bj f) 32 m]) (XX f m)=some ([],.nrm,(XX f m)):=by kernel_rfl
theorem Oh (f:Nat→Nat) (m:Nat):bJ prog (qG prog) f20.ntmps (Gs (fun _=>none)) 60 (cA (cB dH)) (XX f m) (XX f m)=some ([],.nrm,(XX f m)):=by kernel_rfl
theorem Og (f:Nat→Nat) (m:Nat):bJ prog (qG prog) f20.ntmps (Gs (fun _=>none)) 60 (cA (cB (cB dH))) (XX f m) (XX f m++[.slot 4 (.im (.slice none 0 0))])=some ([],.nrm,(XX f m++[.slot 4 (.im (.slice none 0 0))])):=by kernel_rfl
theorem Oe (f:Nat→Nat) (m:Nat):bJ prog (qG prog) f20.ntmps (Gs (fun _=>none)) 200 (cA (cB (cB (cB dH)))) (XX f m++[.slot 4 (.im (.slice none 0 0))]) (Md (dM f))=some ([],.nrm,(Md (dM f))):=by kernel_rfl
theorem Od (f:Nat→Nat) (cap:Nat) (h:Bool):bJ prog (qG prog) f20.ntmps (Gs (assoc [(34,.bool h)])) 60 (cA (cB (cB (cB (cB dH))))) (.slot 4 (.sl 30 0 32 cap)::Md (dM f)) (DN (dM f) cap h)=some ([aW .geq .u8 (Int.ofNat (f 31)) 128=some (.bool h)],.nrm,(DN (dM f) cap h)):=by kernel_rfl
theorem Oc (f:Nat→Nat) (cap:Nat) (h:Bool):bJ prog (qY prog (Uz (assoc [(39,.int .u8 (Int.ofNat (f 31%128)))]))) f20.ntmps (Gs (fun _=>none)) 60 (cA (cB (cB (cB (cB (cB dH)))))) (DN (dM f) cap h) (DN (dM (gE f)) cap h)=some ([Ty .and 5 (.tmp 38) (.const (.int .u8 127)) (.int .u8 (Int.ofNat (f 31))) (.int .u8 (Int.ofNat 127)) (.int .u8 (Int.ofNat (f 31%128)))],.nrm,(DN (dM (gE f)) cap h)):=by kernel_rfl
def Uk (y:Nat):Nat:=aI (dQ 1 (aI y y)) (WG (gZ y))
theorem QZ (y:Nat):Uk y=oA y:=by
 show dQ 1 (aI y y)*(1*gZ y^(RM-2)%RM)%RM=dQ 1 (aI y y)*gZ y^(RM-2)%RM;rw[Nat.one_mul,Nat.mul_mod_mod]
def kP (g:Nat→Nat):Nat:=Go.Proofs.YtpjlhhpjpnacmaaGreat.gL g 0 32
def sR (g:Nat→Nat) (b:Bool):List Prop:=[32=32,aB (bj g)=aB (bj g),∀k,g k<256,kP g<aO,decide (kP g<RM)=b]
def uL (y:Nat):List Prop:=[y<RM,y<RM,168696<RM,aI y y<RM,168700<RM,aI 168696 (aI y y)<RM,gZ y<RM,gZ y≠0,1<RM,aI y y<RM,dQ 1 (aI y y)<RM,WG (gZ y)<RM,Uk y<RM]
def xF (y V:Nat):List Prop:=[V<RM,aI V V=Uk y,cR RM V=true]
theorem Vl (g:Nat→Nat) (cap:Nat) (h:Bool):bJ prog (qG prog) f20.ntmps (WH g false true 0 0 (fun _=>true) (fun _=>none)) 60 (cB (cB (cB (cB (cB (cB dH)))))) (DN g cap h) (LF 21)=some (sR g false,.rt,(LF 21)):=by kernel_rfl
theorem Vj (g:Nat→Nat) (cap:Nat) (h:Bool):bJ prog (qG prog) f20.ntmps (WH g true false 0 0 (fun _=>true) (fun _=>none)) 60 (cB (cB (cB (cB (cB (cB dH)))))) (DN g cap h) (LF 41)=some (sR g true++uL (kP g)++[qC RM (Uk (kP g)) = -1],.rt,(LF 41)):=by kernel_rfl
theorem Vk (g:Nat→Nat) (cap:Nat) (V:Nat):bJ prog (qG prog) f20.ntmps (WH g true true V 0 (fun _=>true) (fun _=>none)) 60 (cB (cB (cB (cB (cB (cB dH)))))) (DN g cap true) (LF 44)=some (sR g true++uL (kP g)++xF (kP g) V++[aB [At.q V]=aB [At.f ⟨0,cN⟩]],.rt,(LF 44)):=by kernel_rfl
theorem Gm (g:Nat→Nat) (cap:Nat) (V:Nat):bJ prog (qG prog) f20.ntmps (WH g true true V 0 (fun _=>true) (fun _=>none)) 60 (cB (cB (cB (cB (cB (cB dH)))))) (DN g cap false) (Gr (V,kP g) 0)=some (sR g true++uL (kP g)++xF (kP g) V++[aB [At.q V]=aB [At.f ⟨0,cN⟩],V<RM,cR RM V = !false,V<aO,kP g<aO,eE (V,kP g)=0],.rt,(Gr (V,kP g) 0)):=by kernel_rfl
theorem Gn (g:Nat→Nat) (cap:Nat) (V:Nat) (k:Int):bJ prog (qG prog) f20.ntmps (WH g true true V k (fun _=>true) (assoc [(97,.bool true)])) 60 (cB (cB (cB (cB (cB (cB dH)))))) (DN g cap false) (LF 111)=some (sR g true++uL (kP g)++xF (kP g) V++[aB [At.q V]=aB [At.f ⟨0,cN⟩],V<RM,cR RM V = !false,V<aO,kP g<aO,eE (V,kP g)=k,aW .neq .i64 k 0=some (.bool true)],.rt,(LF 111)):=by kernel_rfl
theorem Gp (g:Nat→Nat) (cap:Nat) (V:Nat):bJ prog (qG prog) f20.ntmps (WH g true true V 0 (fun _=>false) (fun _=>none)) 60 (cB (cB (cB (cB (cB (cB dH)))))) (DN g cap true) (Gr (dQ 0 V,kP g) 0)=some (sR g true++uL (kP g)++xF (kP g) V++[aB [At.q V]≠aB [At.f ⟨0,cN⟩],V<RM,cR RM V = !false,0<RM,V<RM,dQ 0 V<aO,kP g<aO,eE (dQ 0 V,kP g)=0],.rt,(Gr (dQ 0 V,kP g) 0)):=by kernel_rfl
theorem Gq (g:Nat→Nat) (cap:Nat) (V:Nat) (k:Int):bJ prog (qG prog) f20.ntmps (WH g true true V k (fun _=>false) (assoc [(97,.bool true)])) 60 (cB (cB (cB (cB (cB (cB dH)))))) (DN g cap true) (LF 111)=some (sR g true++uL (kP g)++xF (kP g) V++[aB [At.q V]≠aB [At.f ⟨0,cN⟩],V<RM,cR RM V = !false,0<RM,V<RM,dQ 0 V<aO,kP g<aO,eE (dQ 0 V,kP g)=k,aW .neq .i64 k 0=some (.bool true)],.rt,(LF 111)):=by kernel_rfl
theorem Gk (g:Nat→Nat) (cap:Nat) (V:Nat):bJ prog (qG prog) f20.ntmps (WH g true true V 0 (fun _=>false) (fun _=>none)) 60 (cB (cB (cB (cB (cB (cB dH)))))) (DN g cap false) (Gr (V,kP g) 0)=some (sR g true++uL (kP g)++xF (kP g) V++[aB [At.q V]≠aB [At.f ⟨0,cN⟩],V<RM,cR RM V = !false,V<aO,kP g<aO,eE (V,kP g)=0],.rt,(Gr (V,kP g) 0)):=by kernel_rfl
theorem Gl (g:Nat→Nat) (cap:Nat) (V:Nat) (k:Int):bJ prog (qG prog) f20.ntmps (WH g true true V k (fun _=>false) (assoc [(97,.bool true)])) 60 (cB (cB (cB (cB (cB (cB dH)))))) (DN g cap false) (LF 111)=some (sR g true++uL (kP g)++xF (kP g) V++[aB [At.q V]≠aB [At.f ⟨0,cN⟩],V<RM,cR RM V = !false,V<aO,kP g<aO,eE (V,kP g)=k,aW .neq .i64 k 0=some (.bool true)],.rt,(LF 111)):=by kernel_rfl
theorem Ip:∀b,b<256→b &&& 127=b%128:=by decide
def Cl (f:Nat→Nat) (R:RV):Prop:=∀m args w,cH w [.s (bj f) 32 m] args→bC prog 20 R args w
theorem oN {f:Nat→Nat} (hf:∀k,f k<256) {b:Bool} (hb:qX f=b) {C:Nat→Cfg} (hC:∀w n d,TabOkW prog ((C n).T d) (World.heap w).size w) {ps:List Prop} {L:List Fact} (hr:∀cap,bJ prog (qG prog) f20.ntmps C 60 (cB (cB (cB (cB (cB (cB dH)))))) (DN (dM (gE f)) cap b) L=some (ps,.rt,L)) (hp:aS ps) {l:List TV} {R:RV} (h1:iT prog L f20.results.toList=some l) (h2:rv l=some R):Cl f R:=by
 intro m args w ha;subst hb;have hG:dC prog (qG prog) w.heap.size w:=(aT _).w _ _;have hT:∀num (n d:Nat),TabOkW prog ((Gs num n).T d) w.heap.size w:=fun _ _ _=>(dV _).w _ _
 refine eT func20 (c:=dH) rfl ha (Nat.le_of_ble_eq_true (by kernel_rfl)) fun a w' hA => ?_
 rw[XV];refine wp_seq (aE aQ (hT _) hG (Oi f m) trivial hA fun a w' hA => ?_);refine wp_seq (aE aQ (hT _) hG (Oh f m) trivial hA fun a w' hA => ?_);refine wp_seq (aE aQ (hT _) hG (Og f m) trivial hA fun a w' hA => ?_);refine wp_seq (aE aQ (hT _) hG (Oe f m) trivial hA fun a w' hA => ?_);obtain⟨cap,hcap,hA⟩:=hA.soSl (s:=4) (k:=30) (n:=32) (e:=5) (sz:=1) (l:=bj (dM f)) (by simp[Md]) (by simp[Md]) (by simp[Md]);refine wp_seq (aE aQ (hT _) hG (Od f cap (qX f)) ⟨PH,trivial⟩ hA fun a w' hA => ?_);refine wp_seq (aE aQ (hT _) (PB _ w) (Oc f cap (qX f)) ⟨by have h:=Cc (t:=5) (x:=.tmp 38) (y:=.const (.int .u8 127)) (hf 31) (show 127<256 by decide); rw[Ip _ (hf 31)]at h; exact h,trivial⟩ hA fun a w' hA => ?_);exact aE aQ (hC w) hG (hr cap) hp hA fun a w' hA=>lT (l:=l) (r:=R) h1 h2 hA
theorem pV (e:Int):iT prog (LF e) f20.results.toList=some [.fl kX,.im (.int .i64 e)]:=by kernel_rfl
theorem uX (e:Int):rv [.fl kX,.im (.int .i64 e)]=some (.many [.fl kX,.im (.int .i64 e)]):=by kernel_rfl
theorem uZ {f:Nat→Nat} {e:Int} (h:Cl f (.many [.fl kX,.im (.int .i64 e)])):Cl f (gF (0,0) e):=fun m args w ha=>h m args w ha
theorem DO (P:NP):iT prog (Gr P 0) f20.results.toList=some [.fl [.q P.1,.q P.2],.im (.int .i64 0)]:=by kernel_rfl
theorem QI (P:NP):rv [.fl [.q P.1,.q P.2],.im (.int .i64 0)]=some (gF P 0):=by kernel_rfl
theorem pB (g:Nat→Nat) (b d:Bool) (V:Nat) (k:Int) (hint:Nat→Bool) (num:Nat→Option Value):∀w n d',TabOkW prog ((WH g b d V k hint num n).T d') (World.heap w).size w:=fun w _ _=>(Id g b d V k).w _ _
theorem xG {f:Nat→Nat} (hf:∀k,f k<256) {b:Bool} (h:decide (yJ f<RM)=b):aS (sR (dM (gE f)) b):=⟨rfl,rfl,yK hf,Dn (yK hf),h,trivial⟩
theorem IH {y:Nat} (hy:y<RM):aS (uL y):=⟨hy,hy,by decide,aF _ _,by decide,aF _ _,bK _ _,qI hy,dG,aF _ _,bK _ _,sP _,aF _ _,trivial⟩
theorem XW {y V:Nat} (hV:V<RM) (hVV:aI V V=oA y) (hl:cR RM V=true):aS (xF y V):=⟨hV,by rw[QZ]; exact hVV,hl,trivial⟩
theorem Np {f:Nat→Nat} (hf:∀k,f k<256) (hy:¬yJ f<RM):Cl f (gF (0,0) 21) :=
 uZ (oN hf rfl (pB _ false true 0 0 (fun _=>true) (fun _=>none)) (fun cap=>Vl _ cap _) (xG hf (decide_eq_false hy)) (pV 21) (uX 21))
theorem Nn {f:Nat→Nat} (hf:∀k,f k<256) (hy:yJ f<RM) (hl:qC RM (oA (yJ f)) = -1):Cl f (gF (0,0) 41) :=
 uZ (oN hf rfl (pB _ true false 0 0 (fun _=>true) (fun _=>none)) (fun cap=>Vj _ cap _) (mG (mG (xG hf (decide_eq_true hy)) (IH hy)) ⟨by rw[QZ]; exact hl,trivial⟩) (pV 41) (uX 41))
theorem nI {f:Nat→Nat} {V:Nat} (hf:∀k,f k<256) (hy:yJ f<RM) (hV:V<RM) (hVV:aI V V=oA (yJ f)) (hl:cR RM V=true) {l:List Prop} (h:aS l):aS (sR (dM (gE f)) true++uL (kP (dM (gE f)))++xF (kP (dM (gE f))) V++l) :=
 mG (mG (mG (xG hf (decide_eq_true hy)) (IH hy)) (XW hV hVV hl)) h
theorem Ws {V:Nat} (h:V=0):aB [At.q V]=aB [At.f ⟨0,cN⟩]:=by rw[h]; rfl
theorem Ao {V:Nat} (hV:V<RM) (h:V≠0):aB [At.q V]≠aB [At.f ⟨0,cN⟩]:=fun e=>h (Dt hV dJ e)
theorem No {f:Nat→Nat} {V:Nat} (hf:∀k,f k<256) (hy:yJ f<RM) (hV:V<RM) (hVV:aI V V=oA (yJ f)) (hl:cR RM V=true) (hh:qX f=true) (hz:V=0):Cl f (gF (0,0) 44) :=
 uZ (oN hf hh (pB _ true true V 0 (fun _=>true) (fun _=>none)) (fun cap=>Vk _ cap V) (nI hf hy hV hVV hl ⟨Ws hz,trivial⟩) (pV 44) (uX 44))
theorem QC {x y:Nat} (hx:x<RM) (hy:y<RM) (h:aI x x=oA y):OnJ x y:=by
 refine⟨⟨hx,hy⟩,?_⟩;have hd:=qI hy;have e1:eN (gZ y)=KR.sub aR (KR.mul dR (KR.mul (eN y) (eN y))):=by
  unfold gZ;rw[eF _ (aF _ _),dP,dP];rfl
 have e2:eN (oA y)=KR.mul (KR.sub KR.one (KR.mul (eN y) (eN y))) (MN (eN (gZ y))):=by
  have e3:oA y=aI (dQ 1 (aI y y)) (xH 1 (gZ y)):=by
   show dQ 1 (aI y y)*gZ y^(RM-2)%RM=dQ 1 (aI y y)*(1*gZ y^(RM-2)%RM)%RM;rw[Nat.one_mul,Nat.mul_mod_mod]
  rw[e3,dP,CT (show gZ y<RM from bK _ _),eF _ (aF _ _),dP,IA]
 have e:=congrArg eN h;rw[dP,e2,e1]at e;have hi:=Qt.inv _ (UQ (eN y));have ho:eW KR aR dR (eN x) (eN y):=by
  show KR.add (KR.mul aR (KR.mul (eN x) (eN x))) (KR.mul (eN y) (eN y))=KR.add KR.one (KR.mul dR (KR.mul (KR.mul (eN x) (eN x)) (KR.mul (eN y) (eN y))));generalize MN (KR.sub aR (KR.mul dR (KR.mul (eN y) (eN y))))=k at hi e;generalize KR.mul (eN x) (eN x)=u at e ⊢;generalize KR.mul (eN y) (eN y)=w at e hi ⊢;exact kR (K:=KR) (c1:=KR.sub aR (KR.mul dR w)) (c2:=KR.sub KR.one w) e hi (aP KR (bT KR [u,w,k,aR,dR]) (Z3*Z0+Z1-(RE.one+Z4*(Z0*Z1))) ((Z3-Z4*Z1)*(Z0-(RE.one-Z1)*Z2)+(RE.one-Z1)*((Z3-Z4*Z1)*Z2-RE.one)) (by kernel_rfl))
 have h2:=SB ho;rw[iQ hx,iQ hy]at h2;exact h2
theorem Bz {f:Nat→Nat} (hf:∀k,f k<256):∃P e,Eu f (gF P e)∧Cl f (gF P e):=by
 by_cases hy:yJ f<RM
 ·rcases XS (show oA (yJ f)<RM from jY _ _)with h|⟨V,hV,hVV,hl⟩
  ·exact⟨(0,0),41,Vt hf hy h,Nn hf hy h⟩
  ·cases hh:qX f
   ·have hw:KW (yJ f) V (qX f)=gF (V,yJ f) 0:=by rw[hh]; rfl
    have hP:w2 (V,yJ f):=⟨gG hV,gG hy⟩;have hon:OnJ V (yJ f):=QC hV hy hVV
    by_cases hk:eE (V,yJ f)=0
    ·refine⟨_,_,Ol hf hy hV hVV hl hw hP hk,?_⟩
     by_cases hz:V=0
     ·exact oN hf hh (pB _ true true V 0 (fun _=>true) (fun _=>none)) (fun cap=>Gm _ cap V) (nI hf hy hV hVV hl ⟨Ws hz,hV,hl,hP.1,hP.2,hk,trivial⟩) (DO (V,yJ f)) (QI (V,yJ f))
     ·exact oN hf hh (pB _ true true V 0 (fun _=>false) (fun _=>none)) (fun cap=>Gk _ cap V) (nI hf hy hV hVV hl ⟨Ao hV hz,hV,hl,hP.1,hP.2,hk,trivial⟩) (DO (V,yJ f)) (QI (V,yJ f))
    ·have h111:eE (V,yJ f)=111:=by
      have h:=yL (p:=(V,yJ f)) hon
      by_cases q:kQ.grp.ns lJ (jp hon)=kQ.grp.zero
      ·rw[if_pos q]at h; exact absurd h hk
      ·rw[if_neg q]at h; exact h
     refine⟨(0,0),111,Om hf hy hV hVV hl hw hP h111 (by decide),?_⟩
     by_cases hz:V=0
     ·exact uZ (oN hf hh (pB _ true true V 111 (fun _=>true) (assoc [(97,.bool true)])) (fun cap=>Gn _ cap V 111) (nI hf hy hV hVV hl ⟨Ws hz,hV,hl,hP.1,hP.2,h111,TD (by decide),trivial⟩) (pV 111) (uX 111))
     ·exact uZ (oN hf hh (pB _ true true V 111 (fun _=>false) (assoc [(97,.bool true)])) (fun cap=>Gl _ cap V 111) (nI hf hy hV hVV hl ⟨Ao hV hz,hV,hl,hP.1,hP.2,h111,TD (by decide),trivial⟩) (pV 111) (uX 111))
   ·by_cases hz:V=0
    ·have hw:KW (yJ f) V (qX f)=gF (0,0) 44:=by
      rw[hh];show (if V=0 then gF (0,0) 44 else gF (dQ 0 V,yJ f) 0)=_;rw[if_pos hz]
     exact⟨(0,0),44,Vu hf hy hV hVV hl hw,No hf hy hV hVV hl hh hz⟩
    ·have hw:KW (yJ f) V (qX f)=gF (dQ 0 V,yJ f) 0:=by
      rw[hh];show (if V=0 then gF (0,0) 44 else gF (dQ 0 V,yJ f) 0)=_;rw[if_neg hz]
     have hP:w2 (dQ 0 V,yJ f):=⟨gG (bK _ _),gG hy⟩;have hon:OnJ (dQ 0 V) (yJ f):=QC (bK _ _) hy (by rw[IG hV,hVV])
     by_cases hk:eE (dQ 0 V,yJ f)=0
     ·refine⟨_,_,Ol hf hy hV hVV hl hw hP hk,?_⟩;exact oN hf hh (pB _ true true V 0 (fun _=>false) (fun _=>none)) (fun cap=>Gp _ cap V) (nI hf hy hV hVV hl ⟨Ao hV hz,hV,hl,dJ,hV,hP.1,hP.2,hk,trivial⟩) (DO (dQ 0 V,yJ f)) (QI (dQ 0 V,yJ f))
     ·have h111:eE (dQ 0 V,yJ f)=111:=by
       have h:=yL (p:=(dQ 0 V,yJ f)) hon
       by_cases q:kQ.grp.ns lJ (jp hon)=kQ.grp.zero
       ·rw[if_pos q]at h; exact absurd h hk
       ·rw[if_neg q]at h; exact h
      refine⟨(0,0),111,Om hf hy hV hVV hl hw hP h111 (by decide),?_⟩;exact uZ (oN hf hh (pB _ true true V 111 (fun _=>false) (assoc [(97,.bool true)])) (fun cap=>Gq _ cap V 111) (nI hf hy hV hVV hl ⟨Ao hV hz,hV,hl,dJ,hV,hP.1,hP.2,h111,TD (by decide),trivial⟩) (pV 111) (uX 111))
 ·exact⟨(0,0),21,Vv hf hy,Np hf hy⟩
def KQ (c:Int):Tab:=((T0.add 31 (JQ c)).add 23 (g0 (.one (.fl [.q lJ])))).add 22 TL
theorem EN (c:Int):TabOk prog (KQ c):=(((dV _).add func31 (by kernel_rfl) (by kernel_rfl) (UK c)).add func23 (by kernel_rfl) (by kernel_rfl) (nA nF)).add func22 (by kernel_rfl) (by kernel_rfl) xX
theorem Ot (s:NS) (c:Int):bR prog (qG prog) (fun _=>⟨fun _=>KQ c,fun _=>true,assoc [(8,.bool true)]⟩) f14 60 [.v (.fl (fB s))]=some ([s.1.1<aO,s.1.2<aO,eE s.1=c,aW .neq .i64 c 0=some (.bool true)],.one (.im (.int .i64 c))):=by kernel_rfl
theorem Oq (s:NS):bR prog (qG prog) (fun _=>⟨fun _=>KQ 0,fun _=>true,assoc [(14,.bool true)]⟩) f14 60 [.v (.fl (fB s))]=some ([s.1.1<aO,s.1.2<aO,eE s.1=0,aW .geq .i64 (Go.Proofs.YtpjlhhpjpnacmaaGreat.bF (wv s.2) (wv lJ)) 0=some (.bool true)],.one (.im (.int .i64 4))):=by kernel_rfl
theorem Oo (s:NS):bR prog (qG prog) (fun _=>⟨fun _=>KQ 0,fun _=>true,assoc [(14,.bool false)]⟩) f14 60 [.v (.fl (fB s))]=some ([s.1.1<aO,s.1.2<aO,eE s.1=0,aW .geq .i64 (Go.Proofs.YtpjlhhpjpnacmaaGreat.bF (wv s.2) (wv lJ)) 0=some (.bool false)],.one (.im (.int .i64 0))):=by kernel_rfl
theorem UT {S:Nat} (h:S<aO):aW .geq .i64 (Go.Proofs.YtpjlhhpjpnacmaaGreat.bF (wv S) (wv lJ)) 0=some (.bool (!decide (S<lJ))):=by
 show some (Value.bool (decide (Go.Proofs.YtpjlhhpjpnacmaaGreat.bF (wv S) (wv lJ)≥0)))=_;congr 2;rw[PC,show wv S=S from gY h];unfold Go.Proofs.YtpjlhhpjpnacmaaGreat.bF
 by_cases h1:S<lJ
 ·rw[if_neg (by omega),if_pos h1,decide_eq_true h1];decide
 ·rw[decide_eq_false h1];refine decide_eq_true ?_
  by_cases e:S=lJ
  ·rw[if_pos e]; decide
  ·rw[if_neg e,if_neg h1]; decide
theorem LL (s:NS) (h1:s.1.1<aO) (h2:s.1.2<aO) (h3:s.2<aO) (args:List Value) (w:World) (ha:cH w [.v (.fl (fB s))] args):bC prog 14 (.one (.im (.int .i64 (wE s)))) args w:=by
 have hc:=UT h3;unfold wE;split
 ·rename_i h0;split
  ·rename_i hl;rw[decide_eq_true hl]at hc;exact aG aQ (fun _ _=>EN 0) (aT _) func14 (Oo s) ⟨h1,h2,h0,hc,trivial⟩ ha
  ·rename_i hl;rw[decide_eq_false hl]at hc;exact aG aQ (fun _ _=>EN 0) (aT _) func14 (Oq s) ⟨h1,h2,h0,hc,trivial⟩ ha
 ·exact aG aQ (fun _ _=>EN _) (aT _) func14 (Ot s _) ⟨h1,h2,rfl,mN (by assumption),trivial⟩ ha
theorem Sh (c:Int):∀cs pre r,ND c cs=some (pre,r)→aS pre→∀(args:List Value) (w:World),cH w cs args→bC prog 14 r args w:=by
 intro cs pre r hg hp args w ha;unfold ND at hg;split at hg
 ·rename_i l;split at hg
  ·rename_i a b d hn;cases hg;obtain⟨p1,p2,p3,p4,p5,_⟩:=hp;subst p4
   match args,ha with
   | [x],ha =>
    have e1:x=.agg (aB l).toArray:=ha.1;subst e1;rw[p5];exact LL ((a,b),d) p1 p2 p3 _ w ⟨rfl,trivial⟩
   | [],ha=>exact ha.elim
   | _::_::_,ha=>exact ha.2.elim
  ·cases hg
 ·cases hg
def Jz (f:Nat→Nat):FS:=⟨bj f,32,5,1,true,[],[.im (.int .i64 0)]⟩
theorem Holds.soAt {nt base:Nat} {w0:World} {A:List Fact} {a:Act} {w:World} (h:Holds nt base w0 A a w) {s k n e sz:Nat} {l:List At} (h1:Fact.slot s (.so k n)∈A) (h2:Fact.row k true l∈A) (h3:Fact.app k e sz n∈A):∃b cap,base≤b∧AppAt w b e sz n cap∧Holds nt base w (.at k b :: .slot s (.sl k 0 n cap)::A) a w:=by
 obtain⟨β,g1,g2,g3,g4⟩:=h.facts;have e1:=g1 _ h1;obtain⟨q1,q2,q3,q5⟩:=g1 _ h2;have e3:=g1 _ h3;have up:∀k1 o1 l1,Fact.row k1 o1 l1∈(Fact.at k (β k).1::Fact.slot s (.sl k 0 n (β k).2.2)::A)→Fact.row k1 o1 l1∈A:=fun k1 o1 l1 e=>by
  rcases List.mem_cons.1 e with e|e
  ·cases e
  ·rcases List.mem_cons.1 e with e|e
   ·cases e
   ·exact e
 have hz:(β k).2.1=0∧base≤(β k).1:=⟨(q3 rfl).2.1,(q3 rfl).1⟩;refine⟨(β k).1,(β k).2.2,hz.2,e3,h.defers,h.size,Below.refl _ _,h.heap,β,fun φ hφ => ?_,fun k1 k2 o2 l1 l2 q1 q2=>g2 k1 k2 o2 l1 l2 (up _ _ _ q1) (up _ _ _ q2),fun k1 l1 e=>g3 k1 l1 (up _ _ _ e),g4.size,fun _ _ _=>⟨rfl,rfl⟩,Shape.refl _⟩
 rcases List.mem_cons.1 hφ with rfl|hφ
 ·exact⟨rfl,hz.1⟩
 ·rcases List.mem_cons.1 hφ with rfl|hφ
  ·exact e1
  ·exact g1 φ hφ
def Xr (gen:Nat→Option Value):Ext:={ Ext.none with gen:=gen,T2:=WL,T3:=WK,T4:=Cg,T5:=Cm,T6:=Ev }
theorem Fa (gen:Nat→Option Value) (base:Nat) (w:World):dC prog { qG prog with x:=Xr gen } base w :=
 ⟨(aT _).1,JS (fun b o l h=>h.elim) (fun w' _=>FrAt.none _ _) (fun w' _=>FsAt.none _ _)⟩
def QU (p:NP) (b cap:Nat) (f:Nat→Nat):List Fact:=.at 26 b::Zn p cap f
def DT (b cap:Nat) (f:Nat→Nat):List Fact:=.at 26 b::Uj cap f
theorem YC (p:NP) (b cap:Nat) (f:Nat→Nat):bJ prog (qG prog) f15.ntmps (WI false) 60 (cA (cB (cB (cB (cB (cB (cB eQ))))))) (.at 26 b :: .slot 5 (.sl 26 0 32 cap)::Hd p f) (QU p b cap f)=some ([p.1<RM,cR RM p.1=true],.nrm,(QU p b cap f)):=by kernel_rfl
theorem YB (p:NP) (b cap:Nat) (f:Nat→Nat):bJ prog { qG prog with x:=Xr (assoc [(34,.int .u8 (Int.ofNat (f 31 ||| 128)))]) } f15.ntmps (WI true) 60 (cA (cB (cB (cB (cB (cB (cB eQ))))))) (.at 26 b :: .slot 5 (.sl 26 0 32 cap)::Hd p f) (QU p b cap (LY f))=some ([p.1<RM,cR RM p.1=false,Ty .or 5 (.tmp 33) (.const (.int .u8 128)) (.int .u8 (Int.ofNat (f 31))) (.int .u8 (Int.ofNat 128)) (.int .u8 (Int.ofNat (f 31 ||| 128)))],.nrm,(QU p b cap (LY f))):=by kernel_rfl
theorem QT (p:NP) (c:Bool) (b cap:Nat) (f:Nat→Nat):bJ prog (qG prog) f15.ntmps (WI c) 60 (cB (cB (cB (cB (cB (cB (cB eQ))))))) (QU p b cap f) (DT b cap f)=some ([],.rt,(DT b cap f)):=by kernel_rfl
theorem IJ {w w2 w3:World} {b cap:Nat} {f:Nat→Nat} {a:Act} (hb:w.heap.size≤b) (hap:AppAt w2 b 5 1 32 cap) (hB:Below w.heap.size w w2) (hA:Holds f15.ntmps w.heap.size w2 (DT b cap f) a w3):bodyPost prog f15 (fun e w'=>(Jz f).ok w e w') .ret a w3:=by
 have ho:Own w3 b (bj f):=hA.own (k:=26) (by simp[DT,Uj]) (by simp[DT,Uj]);have h2:=hA.im (s:=2) (k:=26) (o:=0) (n:=32) (m:=cap) (b:=b) (by simp[DT,Uj]) (by simp[DT]);exact iB (l:=[.im (bW b 0 32 cap),.im (.int .i64 0)]) (r:=.many [.im (bW b 0 32 cap),.im (.int .i64 0)]) (by kernel_rfl) (by kernel_rfl) h2 ⟨b,cap,rfl,hB.trans hA.below,hb,ho.lt,ho.row,ho.free,fun _=>hap.shape hA.shape⟩
theorem LN (p:NP) (hp:OnJ p.1 p.2) (h0:eE p=0) (args:List Value) (w:World) (ha:cH w [.v (.fl [.q p.1,.q p.2])] args):Calls prog 15 args.toArray w (fun e w'=>(Jz (mE p)).ok w e w'):=by
 have hG:∀base w,dC prog (qG prog) base w:=fun _ _=>(aT _).w _ _
 have hT:∀base w c (n d:Nat),TabOkW prog ((WI c n).T d) base w:=fun _ _ c _ _=>(Ie 0 c).w _ _
 have hw:wv p.2=p.2:=iM hp.1.2;refine eT func15 (c:=eQ) rfl ha (Nat.le_of_ble_eq_true (by kernel_rfl)) fun a w' hA => ?_
 rw[YD];refine wp_seq (aE aQ (hT _ _ true) (hG _ _) (Oz p true) trivial hA fun a w' hA => ?_);refine wp_seq (aE aQ (hT _ _ true) (hG _ _) (Oy p true) ⟨hp.w.1,hp.w.2,h0,trivial⟩ hA fun a w' hA => ?_);refine wp_seq (aE aQ (hT _ _ true) (hG _ _) (Ox p true) trivial hA fun a w' hA => ?_);refine wp_seq (aE aQ (hT _ _ true) (hG _ _) (Ow p true) trivial hA fun a w' hA => ?_);refine wp_seq (aE aQ (hT _ _ true) (PB _ w) (Ov p true) trivial hA fun a w' hA => ?_);rw[hw]at hA;refine wp_seq (aE aQ (hT _ _ true) (hG _ _) (Ou p true (bE p.2)) trivial hA fun a w2 hA => ?_);have hB:=hA.below;obtain⟨b,cap,hb,hap,hA⟩:=hA.soAt (s:=5) (k:=26) (n:=32) (e:=5) (sz:=1) (l:=bj (dM (bE p.2))) (by simp[Hd]) (by simp[Hd]) (by simp[Hd]);unfold mE;cases hl:cR RM p.1
 ·refine wp_seq (aE aQ (hT _ _ true) (Fa _ _ _) (YB p b cap (dM (bE p.2))) ⟨hp.1.1,hl,VO (qJ _ _) (by decide),trivial⟩ hA fun a w' hA => ?_);exact aE aQ (hT _ _ true) (hG _ _) (QT p true b cap _) trivial hA fun a w' hA=>IJ hb hap hB hA
 ·refine wp_seq (aE aQ (hT _ _ false) (hG _ _) (YC p b cap (dM (bE p.2))) ⟨hp.1.1,hl,trivial⟩ hA fun a w' hA => ?_);exact aE aQ (hT _ _ true) (hG _ _) (QT p true b cap _) trivial hA fun a w' hA=>IJ hb hap hB hA
def Jm:List CA→Option (List Prop×FS)
 | [.v (.fl l)]=>match WF l with
  | some p=>some ([OnJ p.1 p.2,eE p=0],Jz (mE p))
  | none=>none
 | _=>none
theorem ZZ:∀cs pre r,Jm cs=some (pre,r)→aS pre→∀(args:List Value) (w:World),cH w cs args→Calls prog 15 args.toArray w (fun e w'=>r.ok w e w'):=by
 intro cs pre r hg hp args w ha;unfold Jm at hg;split at hg
 ·rename_i l;split at hg
  ·rename_i p hx;cases hg;refine LN p hp.1 hp.2.1 args w ?_
   match args,ha with
   | [v],ha =>
    refine⟨?_,trivial⟩;show v=.agg (aB (q2 p)).toArray;rw[←lF l p hx]; exact ha.1
   | [],ha=>exact ha.elim
   | _::_::_,ha=>exact ha.2.elim
  ·cases hg
 ·cases hg
def Yz:Tab3:=(WK.add 15 Jm).add 16 Aa
theorem Lz:FsOk prog Yz:=((qM _).add func15 (by kernel_rfl) (by kernel_rfl) ZZ).add func16 (by kernel_rfl) (by kernel_rfl) JM
def Ms:Ext:={ Ext.none with T2:=WL,T3:=Yz,T4:=Cg,T5:=Cm,T6:=Ev }
theorem WO (w:World):dC prog (qY prog Ms) w.heap.size w:=vD (qN _) (fun _ _ _ h=>h.elim) Lz (nZ _) (kO _) (mI _)
def WD (c:Int):Tab:=T0.add 14 (ND c)
theorem SH (c:Int):TabOk prog (WD c):=(dV _).add func14 (by kernel_rfl) (by kernel_rfl) (Sh c)
theorem Cd (s:NS) (c:Int):bR prog (qG prog) (fun _=>tC (WD c) (assoc [(10,.bool true)])) f5 60 [.v (.fl (fB s))]=some ([s.1.1<aO,s.1.2<aO,s.2<aO,wE s=c,aB (fB s)=aB (fB s),aW .neq .i64 c 0=some (.bool true)],.many [.im (.slice none 0 0),.im (.int .i64 c)]):=by kernel_rfl
def TM (f g:Nat→Nat):FS:=⟨bj f++bj g,64,5,1,true,[],[.im (.int .i64 0)]⟩
theorem VQ (s:NS):Jy prog (qY prog Ms) (fun _=>tC (WD 0) fun _=>none) f5 60 [.v (.fl (fB s))]=some ([s.1.1<aO,s.1.2<aO,s.2<aO,wE s=0,aB (fB s)=aB (fB s),OnJ s.1.1 s.1.2,eE s.1=0],TM (mE s.1) (bE (wv s.2))):=by kernel_rfl
theorem OH {s:NS} (h1:s.1.1<aO) (h2:s.1.2<aO) (h3:s.2<aO) (hs:wE s=0) (args:List Value) (w:World) (ha:cH w [.v (.fl (fB s))] args):Calls prog 5 args.toArray w (fun e w'=>(TM (mE s.1) (bE s.2)).ok w e w'):=by
 have hk:=Ed hs;have:=FI aQ (fun _ _=>(SH 0).w _ _) (WO w) func5 (VQ s) ⟨h1,h2,h3,hs,rfl,KF hk,hk,trivial⟩ ha
 rwa [show wv s.2=s.2 from gY h3]at this
def Jj (f g:Nat→Nat) (R:RV):gP
 | [.s l n m]=>some ([n=32,aB l=aB (bj f++bj g),Cl f R],R)
 | _=>none
theorem ZV (f g:Nat→Nat) (R:RV):∀cs pre r,Jj f g R cs=some (pre,r)→aS pre→∀(args:List Value) (w:World),cH w cs args→bC prog 20 r args w:=by
 intro cs pre r hg hp args w ha;unfold Jj at hg;split at hg
 ·rename_i l n m;cases hg;obtain⟨p1,p2,p3,_⟩:=hp;subst p1
  match args,ha with
  | [v],ha =>
   obtain⟨b,o,e,hb,hr⟩:=ha.1;rw[p2]at hr;refine p3 m [v] w ⟨⟨b,o,e,hb,fun j x hj=>hr j x ?_⟩,trivial⟩;rw[aL];have hl:j<(aB (bj f)).length:=by
    rcases Nat.lt_or_ge j (aB (bj f)).length with h|h
    ·exact h
    ·rw[List.getElem?_eq_none h]at hj; cases hj
   rw[List.getElem?_append_left hl];exact hj
  | [],ha=>exact ha.elim
  | _::_::_,ha=>exact ha.2.elim
 ·cases hg
def KN (f g:Nat→Nat) (R:RV):Tab:=(((T0.add 20 (Jj f g R)).add 21 (ZW g)).add 23 (g0 (.one (.fl [.q lJ])))).add 22 TL
theorem EK (f g:Nat→Nat) (R:RV):TabOk prog (KN f g R):=((((dV _).add func20 (by kernel_rfl) (by kernel_rfl) (ZV f g R)).add func21 (by kernel_rfl) (by kernel_rfl) (Dx g)).add func23 (by kernel_rfl) (by kernel_rfl) (nA nF)).add func22 (by kernel_rfl) (by kernel_rfl) xX
def QM (f g:Nat→Nat) (m:Nat) (R:RV):List Prop:=[32≤m,32=32,aB (bj f++bj g)=aB (bj f++bj g),Cl f R]
def Da (g:Nat→Nat) (m:Nat) (z:Bool):List Prop:=[32≤64,64≤m,32<m,32=32,aB (bj g)=aB (bj g),∀k,g k<256,aW .geq .i64 (Go.Proofs.YtpjlhhpjpnacmaaGreat.bF (wv (Go.Proofs.YtpjlhhpjpnacmaaGreat.gL g 0 32)) (wv lJ)) 0=some (.bool z)]
theorem Gi (f g:Nat→Nat) (m:Nat) (P:NP):bR prog (qG prog) (fun _=>tC (KN f g (gF P 0)) (assoc [(31,.bool false)])) f7 60 [.s (bj f++bj g) 64 m]=some (QM f g m (gF P 0)++Da g m false,.many [.fl (fB (P,Go.Proofs.YtpjlhhpjpnacmaaGreat.gL g 0 32)),.im (.int .i64 0)]):=by kernel_rfl
theorem Gh (f g:Nat→Nat) (m:Nat) (P:NP):bR prog (qG prog) (fun _=>tC (KN f g (gF P 0)) (assoc [(31,.bool true)])) f7 60 [.s (bj f++bj g) 64 m]=some (QM f g m (gF P 0)++Da g m true,.many [.fl OY,.im (.int .i64 4)]):=by kernel_rfl
theorem Gg (f g:Nat→Nat) (m:Nat) (P:NP) (c:Int):bR prog (qG prog) (fun _=>tC (KN f g (gF P c)) (assoc [(19,.bool true)])) f7 60 [.s (bj f++bj g) 64 m]=some (QM f g m (gF P c)++[aW .neq .i64 c 0=some (.bool true)],.many [.fl OY,.im (.int .i64 c)]):=by kernel_rfl
theorem Gf (p:Option Addr) (n m:Nat):bR prog (qG prog) (fun _=>tC T0 (assoc [(10,.bool true)])) f7 60 [.v (.im (.slice p n m))]=some ([aW .neq .i64 n 64=some (.bool true)],.many [.fl OY,.im (.int .i64 3)]):=by kernel_rfl
theorem Kf (f g:Nat→Nat) (m S:Nat) (P:NP) (c:Int):bR prog (qG prog) (fun _=>tC (KM f g (gF P c) S false) (assoc [(18,.bool true),(19,.bool true),(17,.bool true),(20,.bool true),(21,.bool true),(22,.bool true),(16,.bool true)])) f6 60 [.s (bj f++bj g) 64 m]=some (Kg f g m (gF P c)++[aW .neq .i64 c 0=some (.bool true)],.many [.fl OY,.im (.int .i64 c)]):=by kernel_rfl
theorem Uw:aB OY=aB (fB ((0,0),0)):=by kernel_rfl
theorem qF {f:Nat} {args:List Value} {w:World} {c:Int} (h:bC prog f (.many [.fl OY,.im (.int .i64 c)]) args w):bC prog f (.many [.fl (fB ((0,0),0)),.im (.int .i64 c)]) args w:=by
 have e:RV.den (.many [.fl OY,.im (.int .i64 c)])=RV.den (.many [.fl (fB ((0,0),0)),.im (.int .i64 c)]):=by
  show Value.tuple #[.agg (aB OY).toArray,.int .i64 c]=.tuple #[.agg (aB (fB ((0,0),0))).toArray,.int .i64 c];rw[Uw]
 unfold bC at h ⊢;rw[←e];exact h
theorem NY {f g:Nat→Nat} (hf:∀k,f k<256) (hg:∀k,g k<256):∃(x:NS) (e:Int),(∀m args w,64≤m→cH w [.s (bj f++bj g) 64 m] args→bC prog 6 (.many [.fl (fB x),.im (.int .i64 e)]) args w)∧(∀m args w,64≤m→cH w [.s (bj f++bj g) 64 m] args→bC prog 7 (.many [.fl (fB x),.im (.int .i64 e)]) args w):=by
 have hlt:Go.Proofs.YtpjlhhpjpnacmaaGreat.gL g 0 32<aO:=Do hg (by decide);have hc:=UT hlt;obtain⟨P,c,hR,hR'⟩:=Bz hf
 by_cases h0:c=0
 ·subst h0
  by_cases hS:Go.Proofs.YtpjlhhpjpnacmaaGreat.gL g 0 32<lJ
  ·rw[decide_eq_true hS]at hc;exact⟨(P,Go.Proofs.YtpjlhhpjpnacmaaGreat.gL g 0 32),0,fun m args w hm ha=>aG aQ (fun _ _=>EI hg _ true) (aT _) func6 (Qy f g m _ P) ⟨by omega,rfl,rfl,hR,by decide,hm,by omega,rfl,rfl,hlt,decide_eq_true hS,trivial⟩ ha,
    fun m args w hm ha=>aG aQ (fun _ _=>EK f g _) (aT _) func7 (Gi f g m P) ⟨by omega,rfl,rfl,hR',by decide,hm,by omega,rfl,rfl,hg,hc,trivial⟩ ha⟩
  ·rw[decide_eq_false hS]at hc;exact⟨((0,0),0),4,fun m args w hm ha=>qF (aG aQ (fun _ _=>EI hg _ false) (aT _) func6 (Qx f g m _ P) ⟨by omega,rfl,rfl,hR,by decide,hm,by omega,rfl,rfl,hlt,decide_eq_false hS,trivial⟩ ha),
    fun m args w hm ha=>qF (aG aQ (fun _ _=>EK f g _) (aT _) func7 (Gh f g m P) ⟨by omega,rfl,rfl,hR',by decide,hm,by omega,rfl,rfl,hg,hc,trivial⟩ ha)⟩
 ·exact⟨((0,0),0),c,fun m args w hm ha=>qF (aG aQ (fun _ _=>EI hg _ false) (aT _) func6 (Kf f g m _ P c) ⟨by omega,rfl,rfl,hR,mN h0,trivial⟩ ha),
   fun m args w hm ha=>qF (aG aQ (fun _ _=>EK f g _) (aT _) func7 (Gg f g m P c) ⟨by omega,rfl,rfl,hR',mN h0,trivial⟩ ha)⟩
def Tu (w0:World) (u:Value) (x:NS) (e:Int):Prop:=(∀w',Below w0.heap.size w0 w'→bC prog 6 (.many [.fl (fB x),.im (.int .i64 e)]) [u] w')∧∀w',Below w0.heap.size w0 w'→bC prog 7 (.many [.fl (fB x),.im (.int .i64 e)]) [u] w'
theorem NZ {w:World} {g o:Nat} {f:Nat→Nat} (h:BM w g o 64 f):w.rangeAt g o (aB (bj f++bj fun k=>f (32+k))):=fun j v hj=>by
 have hlen:(aB (bj f)).length=32:=rfl;rw[aL]at hj
 rcases Nat.lt_or_ge j 32 with hl|hl
 ·rw[List.getElem?_append_left (by rw[hlen]; exact hl),mT f j hl]at hj;rw[h.2.2 j (by omega)];exact hj
 ·rw[List.getElem?_append_right (by rw[hlen]; exact hl),hlen]at hj;have hl2:j-32<32:=by
   rcases Nat.lt_or_ge (j-32) 32 with q|q
   ·exact q
   ·rw[List.getElem?_eq_none (show (aB (bj fun k=>f (32+k))).length≤j-32 from q)]at hj; cases hj
  rw[mT _ _ hl2,show 32+(j-32)=j by omega]at hj;rw[h.2.2 j (by omega)];exact hj
theorem Gz {w:World} {u:Value} {N:Nat} {f:Nat→Nat} (hb:BV w u N f):∃x e,Tu w u x e:=by
 obtain⟨p,m,rfl,hm,hf,hp⟩:=hb
 by_cases hN:N=64
 rotate_left
 ·have hne:aW .neq .i64 N 64=some (.bool true):=by
   show some (Value.bool ((N:Int) != 64))=_;rw[bne_iff_ne.2 (by omega)]
  exact⟨((0,0),0),3,fun w' _=>qF (BL p N m hN w'),fun w' _=>qF (aG aQ (fun _ _=>dV _) (aT _) func7 (Gf p N m) ⟨hne,trivial⟩ (args:=[.slice p N m]) ⟨rfl,trivial⟩)⟩
 subst hN;obtain⟨g,o,rfl,hB⟩:=hp (by decide);have hr:=NZ hB;have ha:∀w',Below w.heap.size w w'→cH w' [.s (bj f++bj fun k=>f (32+k)) 64 m] [bW g o 64 m]:=fun w' hw=>⟨⟨g,o,rfl,Nat.lt_of_lt_of_le hB.1 hw.size,bI hw hB.1 hr⟩,trivial⟩
 obtain⟨x,e,h1,h2⟩:=NY hf (fun k=>hf (32+k));exact⟨x,e,fun w' hw=>h1 m _ w' hm (ha w' hw),fun w' hw=>h2 m _ w' hm (ha w' hw)⟩
def Us (v:Value) (R:RV):gP
 | [.v (.im x)]=>some ([x=v],R)
 | _=>none
theorem TJ {f:Nat} {v:Value} {R:RV} {w:World} (h:bC prog f R [v] w):∀cs pre r,Us v R cs=some (pre,r)→aS pre→∀(args:List Value),cH w cs args→bC prog f r args w:=by
 intro cs pre r hg hp args ha;unfold Us at hg;split at hg
 ·rename_i x;cases hg
  match args,ha with
  | [y],ha =>
   have e1:y=x:=ha.1;rw[e1,hp.1];exact h
  | [],ha=>exact ha.elim
  | _::_::_,ha=>exact ha.2.elim
 ·cases hg
def Ah (s:NS):List CA→Option (List Prop×FS)
 | [.v (.fl l)]=>some ([aB l=aB (fB s)],TM (mE s.1) (bE s.2))
 | _=>none
theorem JO {fid:Nat} {s:NS} (h:∀w,Calls prog fid [.agg (aB (fB s)).toArray].toArray w fun e w'=>(TM (mE s.1) (bE s.2)).ok w e w'):∀cs pre r,Ah s cs=some (pre,r)→aS pre→∀(args:List Value) (w:World),cH w cs args→Calls prog fid args.toArray w (fun e w'=>r.ok w e w'):=by
 intro cs pre r hg hp args w ha;unfold Ah at hg;split at hg
 ·rename_i l;cases hg
  match args,ha with
  | [y],ha =>
   have e1:y=.agg (aB l).toArray:=ha.1;rw[e1,hp.1];exact h w
  | [],ha=>exact ha.elim
  | _::_::_,ha=>exact ha.2.elim
 ·cases hg
def Ag (s:NS) (c:Int):gP
 | [.v (.fl l)]=>some ([aB l=aB (fB s)],.many [.im (.slice none 0 0),.im (.int .i64 c)])
 | _=>none
theorem JN {fid:Nat} {s:NS} {c:Int} (h:∀w,bC prog fid (.many [.im (.slice none 0 0),.im (.int .i64 c)]) [.agg (aB (fB s)).toArray] w):∀cs pre r,Ag s c cs=some (pre,r)→aS pre→∀(args:List Value) (w:World),cH w cs args→bC prog fid r args w:=by
 intro cs pre r hg hp args w ha;unfold Ag at hg;split at hg
 ·rename_i l;cases hg
  match args,ha with
  | [y],ha =>
   have e1:y=.agg (aB l).toArray:=ha.1;rw[e1,hp.1];exact h w
  | [],ha=>exact ha.elim
  | _::_::_,ha=>exact ha.2.elim
 ·cases hg
theorem FY {s:NS} (h1:s.1.1<aO) (h2:s.1.2<aO) (h3:s.2<aO) (hs:wE s=0) (w:World):Calls prog 4 [.agg (aB (fB s)).toArray].toArray w fun e w'=>(TM (mE s.1) (bE s.2)).ok w e w' :=
 (yH h1 h2 h3 hs w).mono fun e w' h=>by
  obtain⟨b,C,rfl,hr,hge,hbl,hap⟩:=h;exact⟨b,C,rfl,hbl,hge,by obtain⟨cur,q,_⟩:=hap; exact (Array.getElem?_eq_some_iff.1 q).1,hr,fun j=>by
   obtain⟨cur,h0,_⟩:=hap;unfold World.frozen?;simp only[h0];simp,fun _=>hap⟩
def WC (u:Value) (x:NS) (e:Int):Tab:=(((T0.add 8 Ac).add 9 (g0 (.one (.im (.bool true))))).add 6 (Us u (.many [.fl (fB x),.im (.int .i64 e)]))).add 7 (Us u (.many [.fl (fB x),.im (.int .i64 e)]))
theorem CJ {w:World} {u:Value} {x:NS} {e:Int} (h:Tu w u x e):TabOkW prog (WC u x e) w.heap.size w :=
 TabOkW.add (TabOkW.add ((((dV _).add func8 (by kernel_rfl) (by kernel_rfl) Dz).add func9 (by kernel_rfl) (by kernel_rfl) (nA Fd)).w _ _) func6 (by kernel_rfl) (by kernel_rfl) fun w' hw=>TJ (h.1 w' hw)) func7 (by kernel_rfl) (by kernel_rfl) fun w' hw=>TJ (h.2 w' hw)
def Lu (u:Value) (x:NS) (e:Int) (s:NS) (c:Int):Tab:=((WC u x e).add 4 (Ag s c)).add 5 (Ag s c)
def Tw (s:NS):Tab3:=(WK.add 4 (Ah s)).add 5 (Ah s)
def oG (l:List Nat):Value:=.string (strOfNums (l.map Int.ofNat))
def Fb (s:NS):Ext:={ Ext.none with T2:=WL,T3:=Tw s,T4:=Cg,T5:=Cm,T6:=Ev }
def oH:Value:=.string ByteArray.empty
def Rk (x:NS) (e:Int):List Prop:=[aB (fB x)=aB (fB x),aW .eql .i64 e e=some (.bool true)]
def uQ:Code:=(f3.body).getD .skip
theorem UJ:uQ=.seq (cA uQ) (.seq (cA (cB uQ)) (.seq (cA (cB (cB uQ))) (cB (cB (cB uQ))))):=by kernel_rfl
theorem Kk:f3.ntmps=58:=by kernel_rfl
def JY (s:NS):List At:=bj (mE s.1)++bj (bE s.2)
def Km (s:NS) (u:Value):List Fact:=[.slot 2 (.pt 2 0),.row 2 true (fB s),.slot 1 (.im u)]
def Kl (s:NS) (u:Value):List Fact:=[.slot 5 (.so 15 64),.row 15 true (JY s),.app 15 5 1 64,.slot 6 (.im (.int .i64 0)),.slot 2 (.pt 2 0),.row 2 true (fB s),.slot 1 (.im u)]
def kI (s:NS) (u:Value):List Fact:=[.slot 7 (.so 20 64),.row 20 true (JY s),.app 20 5 1 64,.slot 8 (.im (.int .i64 0)),.slot 5 (.so 15 64),.row 15 true (JY s),.app 15 5 1 64,.slot 6 (.im (.int .i64 0)),.slot 1 (.im u)]
theorem Rj (s:NS) (u:Value):bJ prog (qG prog) 58 (fun _=>tC T0 fun _=>none) 80 (cA uQ) (iO 0 [.v (.fl (fB s)),.v (.im u)]) (Km s u)=some ([],.nrm,Km s u):=by kernel_rfl
theorem Rh (s:NS) (u:Value):bJ prog (qY prog (Fb s)) 58 (fun _=>tC T0 fun _=>none) 80 (cA (cB uQ)) (Km s u) (Kl s u)=some ([aB (fB s)=aB (fB s)],.nrm,Kl s u):=by kernel_rfl
theorem Rg (s:NS) (u:Value):bJ prog (qY prog (Fb s)) 58 (fun _=>tC T0 fun _=>none) 80 (cA (cB (cB uQ))) (Kl s u) (kI s u)=some ([aB (fB s)=aB (fB s)],.nrm,kI s u):=by kernel_rfl
def Wt (u:Value) (b5 C5 b7 C7:Nat):List Fact:=[.slot 5 (.im (bW b5 0 64 C5)),.slot 6 (.im (.int .i64 0)),.slot 7 (.im (bW b7 0 64 C7)),.slot 8 (.im (.int .i64 0)),.slot 1 (.im u)]
theorem Rf (w:World) (s x:NS) (e:Int) (u:Value) (b5 C5 b7 C7:Nat):bJ prog { qG prog with x:=xO w (fun _=>none) (assoc [(34,JY s),(36,JY s)]) (assoc [(34,oG (zD s)),(36,oG (zD s)),(37,.bool true)]) } 58 (fun _=>tC (WC u x e) (assoc [(53,.bool true)])) 80 (cB (cB (cB uQ))) (Wt u b5 C5 b7 C7) [.slot 4 (.im (.bool true))]=some ([u=u,u=u,oldOf w b5 0 (JY s),CL prog 30 9 64 (JY s) (oG (zD s)),oldOf w b7 0 (JY s),CL prog 30 9 64 (JY s) (oG (zD s)),∀w:World,(do eqGuard .eql 9 (.tmp 34) (.tmp 36) (oG (zD s)) (oG (zD s)); binOp .eql 9 (oG (zD s)) (oG (zD s)):Sem Value).run prog w=.ok (.bool true) w]++Rk x e,.rt,[.slot 4 (.im (.bool true))]):=by kernel_rfl
def Mr:Ext:={ Ext.none with gen:=assoc [(34,oH),(36,oH),(37,.bool true)],T2:=WL,T3:=WK,T4:=Cg,T5:=Cm,T6:=Ev }
theorem Re (s x:NS) (e c:Int) (u:Value):bR prog (qY prog Mr) (fun _=>tC (Lu u x e s c) (assoc [(42,.bool true),(53,.bool true)])) f3 80 [.v (.fl (fB s)),.v (.im u)]=some ([aB (fB s)=aB (fB s),aB (fB s)=aB (fB s),u=u,u=u,∀w:World,(convert 30 9 (.slice none 0 0)).run prog w=.ok oH w,∀w:World,(convert 30 9 (.slice none 0 0)).run prog w=.ok oH w,∀w:World,(do eqGuard .eql 9 (.tmp 34) (.tmp 36) oH oH; binOp .eql 9 oH oH:Sem Value).run prog w=.ok (.bool true) w,aW .eql .i64 c c=some (.bool true)]++Rk x e,.one (.im (.bool true))):=by kernel_rfl
theorem seqB (z:ByteArray) (x y:Operand) (w:World):(do eqGuard .eql 9 x y (.string z) (.string z); binOp .eql 9 (.string z) (.string z):Sem Value).run prog w=.ok (.bool true) w:=by
 simp[eqGuard,binOp,go_sem,Op.stringOp]
theorem Ss (w:World):(convert 30 9 (.slice none 0 0)).run prog w=.ok oH w:=run_convert_bytes_nil (P:=prog) w 30 5 underlying30 underlying5 0 0 9 underlying9
theorem QX (l:List Nat):aB (jZ l)=l.map fun x=>Value.int .u8 (Int.ofNat x):=by
 induction l with
 | nil=>rfl
 | cons x r ih =>
  show [Value.int .u8 (Int.ofNat x)]++aB (jZ r)=_;rw[ih];rfl
theorem US (s:NS):CL prog 30 9 64 (JY s) (oG (zD s)):=fun w b o m hr=>by
 have hr':w.rangeAt b o (aB (jZ (zD s))):=hr;have hn:(zD s).length=64:=rV s;exact run_convert_bytes_arg (P:=prog) w 30 5 underlying30 underlying5 b o 64 m ((zD s).map Int.ofNat) (by rw[List.length_map]; exact hn) (fun i hi=>by
  refine hr' i _ ?_;rw[QX,List.getElem?_map,List.getD_eq_getElem?_getD,List.getElem?_map,List.getElem?_eq_getElem (show i<(zD s).length by omega)];rfl) 9 underlying9
theorem FT (e:Int):aW .eql .i64 e e=some (.bool true):=by
 show some (Value.bool (e==e))=_;simp
theorem GL {w0:World} {u:Value} {s x:NS} {e:Int} (h1:s.1.1<aO) (h2:s.1.2<aO) (h3:s.2<aO) (hs:wE s=0) (hu:Tu w0 u x e):bC prog 3 (.one (.im (.bool true))) [.agg (aB (fB s)).toArray,u] w0:=by
 have hG:∀base w,dC prog (qG prog) base w:=fun _ _=>(aT _).w _ _
 have hT:∀base w,∀n d:Nat,TabOkW prog T0 base w:=fun _ _ _ _=>(dV _).w _ _
 have hF:FsOk prog (Tw s):=((qM _).add func4 (by kernel_rfl) (by kernel_rfl) (JO (FY h1 h2 h3 hs))).add func5 (by kernel_rfl) (by kernel_rfl) (JO fun w=>OH h1 h2 h3 hs [.agg (aB (fB s)).toArray] w ⟨rfl,trivial⟩);have hX:dC prog (qY prog (Fb s)) w0.heap.size w0:=vD (qN _) (fun _ _ _ h=>h.elim) hF (nZ _) (kO _) (mI _);refine eT func3 (cs:=[.v (.fl (fB s)),.v (.im u)]) (args:=[.agg (aB (fB s)).toArray,u]) (c:=uQ) rfl ⟨rfl,rfl,trivial⟩ (Nat.le_of_ble_eq_true (by kernel_rfl)) fun a w hA => ?_
 rw[Kk]at hA;rw[UJ];refine wp_seq (aE aQ (hT _ _) (hG _ _) (Rj s u) trivial hA fun a w hA => ?_);refine wp_seq (aE aQ (hT _ _) hX (Rh s u) ⟨rfl,trivial⟩ hA fun a w hA => ?_);refine wp_seq (aE aQ (hT _ _) hX (Rg s u) ⟨rfl,trivial⟩ hA fun a w1 hA => ?_);have B1:=hA.below;obtain⟨b5,C5,hb5,hp5,hA⟩:=hA.soAt (s:=5) (k:=15) (n:=64) (e:=5) (sz:=1) (l:=JY s) (by simp[kI]) (by simp[kI]) (by simp[kI]);obtain⟨b7,C7,hb7,hp7,hA⟩:=hA.soAt (s:=7) (k:=20) (n:=64) (e:=5) (sz:=1) (l:=JY s) (by simp[kI]) (by simp[kI]) (by simp[kI]);have m5:Own w1 b5 (JY s):=hA.own (k:=15) (by simp[kI]) (by simp[kI]);have m7:Own w1 b7 (JY s):=hA.own (k:=20) (by simp[kI]) (by simp[kI]);have q5:=(hA.im (s:=5) (k:=15) (o:=0) (n:=64) (m:=C5) (b:=b5) (by simp[kI]) (by simp[kI])).slot (s:=5) (v:=bW b5 0 64 C5) (by simp);have q7:=(hA.im (s:=7) (k:=20) (o:=0) (n:=64) (m:=C7) (b:=b7) (by simp[kI]) (by simp[kI])).slot (s:=7) (v:=bW b7 0 64 C7) (by simp);have hS:=cT (nt:=58) (w:=w1) (a:=a) (ts:=[(5,bW b5 0 64 C5),(6,.int .i64 0),(7,bW b7 0 64 C7),(8,.int .i64 0),(1,u)]) hA.defers hA.size (fun x hx=>by
  simp only[List.mem_cons,List.not_mem_nil,or_false]at hx
  rcases hx with rfl|rfl|rfl|rfl|rfl
  ·exact q5
  ·exact hA.slot (s:=6) (v:=.int .i64 0) (by simp[kI])
  ·exact q7
  ·exact hA.slot (s:=8) (v:=.int .i64 0) (by simp[kI])
  ·exact hA.slot (s:=1) (v:=u) (by simp[kI]))
 clear hA;have hu1:Tu w1 u x e:=⟨fun w' hw=>hu.1 w' (B1.trans (hw.mono B1.size)),fun w' hw=>hu.2 w' (B1.trans (hw.mono B1.size))⟩;refine aE aQ (fun _ _=>CJ hu1) (uR w1 _ _ _) (Rf w1 s x e u b5 C5 b7 C7) ⟨rfl,rfl,⟨m5.lt,m5.row⟩,US s,⟨m7.lt,m7.row⟩,US s,seqB _ _ _,rfl,FT e,trivial⟩ hS fun a w2 hA => ?_
 exact iB (l:=[.im (.bool true)]) (r:=.one (.im (.bool true))) (by kernel_rfl) (by kernel_rfl) hA ⟨rfl,B1.trans (hA.below.mono B1.size)⟩
theorem NV {w:World} {u:Value} {s x:NS} {e:Int} (h1:s.1.1<aO) (h2:s.1.2<aO) (h3:s.2<aO) (hs:wE s≠0) (hu:Tu w u x e):bC prog 3 (.one (.im (.bool true))) [.agg (aB (fB s)).toArray,u] w:=by
 have hp:∀w,bC prog 4 (.many [.im (.slice none 0 0),.im (.int .i64 (wE s))]) [.agg (aB (fB s)).toArray] w:=fun w=>aG aQ (fun _ _=>SE _) (aT _) func4 (Kn s _) ⟨h1,h2,h3,rfl,rfl,mN hs,trivial⟩ (args:=[.agg (aB (fB s)).toArray]) ⟨rfl,trivial⟩
 have hr:∀w,bC prog 5 (.many [.im (.slice none 0 0),.im (.int .i64 (wE s))]) [.agg (aB (fB s)).toArray] w:=fun w=>aG aQ (fun _ _=>SH _) (aT _) func5 (Cd s _) ⟨h1,h2,h3,rfl,rfl,mN hs,trivial⟩ (args:=[.agg (aB (fB s)).toArray]) ⟨rfl,trivial⟩
 have hX:dC prog (qY prog Mr) w.heap.size w:=vD (qN _) (fun _ _ _ h=>h.elim) (qM _) (nZ _) (kO _) (mI _);exact qZ aQ (fun _ _=>TabOkW.add (TabOkW.add (CJ hu) func4 (by kernel_rfl) (by kernel_rfl) fun w' _ cs pre r h1 h2 args ha=>JN hp cs pre r h1 h2 args w' ha) func5 (by kernel_rfl) (by kernel_rfl) fun w' _ cs pre r h1 h2 args ha=>JN hr cs pre r h1 h2 args w' ha) hX func3 (Re s x e (wE s) u) ⟨rfl,rfl,rfl,rfl,Ss,Ss,seqB _ _ _,FT _,rfl,FT e,trivial⟩ (args:=[.agg (aB (fB s)).toArray,u]) ⟨rfl,rfl,trivial⟩
theorem tG {w:World} {u:Value} {N:Nat} {f:Nat→Nat} {s:NS} (h1:s.1.1<aO) (h2:s.1.2<aO) (h3:s.2<aO) (hb:BV w u N f):bC prog 3 (.one (.im (.bool true))) [.agg (aB (fB s)).toArray,u] w:=by
 obtain⟨x,e,hu⟩:=Gz hb
 by_cases hs:wE s=0
 ·exact GL h1 h2 h3 hs hu
 ·exact NV h1 h2 h3 hs hu
end Go.Proofs.YtpjlhhpjpnacmaaGreat.Ex
namespace Go.Proofs.YtpjlhhpjpnacmaaGreat
open Go.Proofs.Tryz
open Go.ChangeShapes Go.WideShapes Go.ChangeAt Go.RowKit
theorem own:ownKnob prog.godebug=none:=by kernel_rfl
theorem JG:laidOutB prog=true:=by kernel_rfl
theorem uT:prog.cellsOf 22=1:=by kernel_rfl
theorem Di {α:Type} (l:List α) (h:(⟨l⟩:Array α).size=4):∃a b c d,l=[a,b,c,d]:=by
 match l,h with
 | [a,b,c,d],_=>exact⟨a,b,c,d,rfl⟩
theorem fV {n:Int} (h:(Lit.int .u64 n).wf=true):∃k:Nat,n=(k:Int)∧k<18446744073709551616:=by
 obtain⟨h1,h2⟩:=bounds_u64 h;obtain⟨k,rfl⟩:=Int.eq_ofNat_of_zero_le h1;exact⟨k,rfl,by omega⟩
end Go.Proofs.YtpjlhhpjpnacmaaGreat
namespace Go.Proofs.YtpjlhhpjpnacmaaGreat.Ex
open Go.Proofs.Tryz
open Go.Deep Go.ChangeShapes Go.WideShapes Go.ChangeAt Go.RowKit
theorem Ls {P:Program} {W:World} {base:Nat} {t:TypeId} {fs:Array Field} {v:Value} (ht:P.underlying t=some (.struct fs)) (h:Value.okWide P W .any base t v):∃cs,v=.agg cs:=by
 obtain⟨cs,rfl,_⟩:∃cs,v=.agg cs∧cs.size=P.cellsOf t∧Row.okWide P W .any base t cs:=by
  simpa[Value.okWide,ht]using h
 exact⟨cs,rfl⟩
section
variable {H:Type} {enc:TypeId×Value→H} {W:World}
theorem Dd {fuel:Nat} {cs:List Value} {x:DataW H×List MemPlace} (hl:cs.length=4) (h:DataW.trod enc prog W 0 (fun _=>true) true fuel 24 cs=some x):∃n:Nat,cs=aB (q1 n):=by
 obtain⟨c0,c1,c2,c3,rfl⟩:=Di cs hl;obtain⟨y0,y1,y2,y3,m,hx,hy0,hy1,hy2,hy3⟩:=trod_array4 underlying24 uT h;obtain⟨x0,e0,rfl,w0⟩:=DataW.trod_int underlying22 hy0;obtain⟨x1,e1,rfl,w1⟩:=DataW.trod_int underlying22 hy1;obtain⟨x2,e2,rfl,w2⟩:=DataW.trod_int underlying22 hy2;obtain⟨x3,e3,rfl,w3⟩:=DataW.trod_int underlying22 hy3;simp at e0 e1 e2 e3;obtain⟨a0,rfl,k0⟩:=fV w0;obtain⟨a1,rfl,k1⟩:=fV w1;obtain⟨a2,rfl,k2⟩:=fV w2;obtain⟨a3,rfl,k3⟩:=fV w3;subst e0 e1 e2 e3;have hv:aA a0 a1 a2 a3<115792089237316195423570985008687907853269984665640564039457584007913129639936:=by unfold aA; omega
 obtain⟨q0,q1',q2',q3⟩:=fN ⟨k0,k1,k2,k3⟩ hv rfl;refine⟨aA a0 a1 a2 a3,?_⟩;show _=w4 (aA a0 a1 a2 a3);unfold w4;rw[←q0,←q1',←q2',←q3]
end
section
variable {H:Type} {enc:TypeId×Value→H} {W:World}
theorem Yr:prog.cellsOf 26=8:=by kernel_rfl
theorem Xm:prog.cellsOf 24=4:=by kernel_rfl
theorem Qs (x:Nat):aB (q1 x)=aB (q1 (wv x)):=by
 have hl:wv x<115792089237316195423570985008687907853269984665640564039457584007913129639936:=Nat.lt_of_lt_of_eq (GX x) (by decide);obtain⟨e0,e1,e2,e3⟩:=fN (cP x) hl rfl;show w4 x++[]=w4 (wv x)++[];unfold w4;rw[←e0,←e1,←e2,←e3]
theorem Mt (x:Nat):wv x<aO:=Nat.lt_of_lt_of_eq (GX x) (by decide)
theorem Pk {fuel:Nat} {cs:List Value} {x:DataW H×List MemPlace} (h:DataW.trod enc prog W 0 (fun _=>true) true fuel 26 cs=some x):∃n:Nat×Nat,(n.1<aO∧n.2<aO)∧cs=aB (q2 n):=by
 obtain⟨y0,y1,n,_,hl,h0,h1⟩:=trod_struct2 underlying26 h;rw[Yr]at hl;simp only[Xm]at h0 h1;obtain⟨a,ha⟩:=Dd (by simp[hl]) h0;obtain⟨b,hb⟩:=Dd (by simp[hl]) h1;rw[Qs]at ha hb;refine⟨(wv a,wv b),⟨Mt a,Mt b⟩,?_⟩;rw[List.drop_zero]at ha;rw[List.take_of_length_le (by simp[hl])]at hb;show cs=w4 (wv a)++(w4 (wv b)++[]);rw[List.append_nil,←List.take_append_drop 4 cs];congr 1
 all_goals first|exact ha.trans (List.append_nil _)|exact hb.trans (List.append_nil _)
end
end Go.Proofs.YtpjlhhpjpnacmaaGreat.Ex
namespace Go.Proofs.YtpjlhhpjpnacmaaGreat
open Go.Proofs.Tryz
open Go.Deep Go.ChangeShapes Go.WideShapes Go.ChangeAt Go.RowKit
namespace Ex
section
variable {H:Type} {enc:TypeId×Value→H} {W:World}
theorem cSg:prog.cellsOf 29=12:=by kernel_rfl
theorem Xl:prog.cellsOf 27=4:=by kernel_rfl
theorem Pi {fuel:Nat} {l:List Value} {x:DataW H×List MemPlace} (hs:l.length=4) (h:DataW.trod enc prog W 0 (fun _=>true) true fuel 27 l=some x):∃n:Nat,n<aO∧l=aB [At.q n]:=by
 obtain⟨c0,c1,c2,c3,rfl⟩:=Di l hs;obtain⟨y0,y1,y2,y3,m,hx,hy0,hy1,hy2,hy3⟩:=trod_array4 underlying27 uT h;obtain⟨x0,e0,rfl,w0⟩:=DataW.trod_int underlying22 hy0;obtain⟨x1,e1,rfl,w1⟩:=DataW.trod_int underlying22 hy1;obtain⟨x2,e2,rfl,w2⟩:=DataW.trod_int underlying22 hy2;obtain⟨x3,e3,rfl,w3⟩:=DataW.trod_int underlying22 hy3;simp at e0 e1 e2 e3;obtain⟨a0,rfl,k0⟩:=fV w0;obtain⟨a1,rfl,k1⟩:=fV w1;obtain⟨a2,rfl,k2⟩:=fV w2;obtain⟨a3,rfl,k3⟩:=fV w3;subst e0 e1 e2 e3;have hv:aA a0 a1 a2 a3<115792089237316195423570985008687907853269984665640564039457584007913129639936:=by unfold aA; omega
 obtain⟨q0,q1',q2',q3⟩:=fN ⟨k0,k1,k2,k3⟩ hv rfl;refine⟨aA a0 a1 a2 a3,hv,?_⟩;show _=w4 (aA a0 a1 a2 a3)++[];unfold w4;rw[←q0,←q1',←q2',←q3];rfl
theorem Pj {fuel:Nat} {cs:List Value} {x:DataW H×List MemPlace} (h:DataW.trod enc prog W 0 (fun _=>true) true fuel 29 cs=some x):∃s:NS,(s.1.1<aO∧s.1.2<aO∧s.2<aO)∧cs=aB (fB s):=by
 obtain⟨y0,y1,n,_,hl,h0,h1⟩:=trod_struct2 underlying29 h;rw[cSg]at hl;simp only[Yr,Xl]at h0 h1;obtain⟨a,⟨ha1,ha2⟩,ha⟩:=Pk h0;obtain⟨b,hb1,hb⟩:=Pi (by simp[hl]) h1;refine⟨(a,b),⟨ha1,ha2,hb1⟩,?_⟩;rw[List.drop_zero]at ha;rw[List.take_of_length_le (by simp[hl])]at hb;show cs=w4 a.1++(w4 a.2++(w4 b++[]));rw[←List.take_append_drop 8 cs];have e1:List.take 8 cs=w4 a.1++(w4 a.2++[]):=ha;have e2:List.drop 8 cs=w4 b++[]:=hb;rw[e1,e2];simp
theorem YR {base:Nat} {v:Value} {d:DataW H} {ps:List MemPlace} {pt:Array TypeId} {args:Array Value} (hval:∀(j:Nat) t v,pt[j]?=some t→args[j]?=some v→Value.okWide prog W .any base t v) (j:Nat) (hj:pt[j]?=some 29) (ha:args[j]?=some v)
  (h:DataW.Trod enc prog W 0 (fun _=>true) true 29 v d ps):∃s:NS,(s.1.1<aO∧s.1.2<aO∧s.2<aO)∧v=.agg (aB (fB s)).toArray:=by
 have hv:=hval j 29 v hj ha;obtain⟨cs,rfl⟩:=Ls (t:=29) underlying29 hv;obtain⟨fuel,hf⟩:=h;obtain⟨l⟩:=cs;obtain⟨x,hb,hx⟩:=Pj hf;subst hx;exact⟨x,hb,rfl⟩
end
end Ex
theorem KX:prog.cellsOf 5=1:=by kernel_rfl
theorem KY:prog.bytesOf 5=1:=by kernel_rfl
theorem AL {H:Type} {enc:TypeId×Value→H} {W:World} {o:Option Addr} {len cap:Nat} {d:DataW H} {ps:List MemPlace} (h:DataW.Trod enc prog W 0 (fun _=>true) true 30 (.slice o len cap) d ps) (hl:∀x∈ps,x.block<W.heap.size)
  (hsz:∀elems spare,d=.slice elems spare→(elems.length+spare.length)*prog.bytesOf 5≤reachBytes) :
  ∃f,Ex.BV W (.slice o len cap) len f∧len≤140737488355327:=by
 obtain⟨fuel,hf⟩:=h
 rcases open_ints underlying30 underlying5 KX hf with⟨hcs,hx⟩|⟨a,len',cap',zs,hcs,_,hl',hm,hz,hx,hcell,hwz⟩
 ·simp[Value.cells]at hcs;obtain⟨rfl,rfl,rfl⟩:=hcs;exact⟨fun _=>0,⟨none,0,rfl,Nat.le_refl _,fun _=>Nat.zero_lt_succ _,fun h=>by omega⟩,by omega⟩
 ·simp[Value.cells]at hcs;obtain⟨rfl,rfl,rfl⟩:=hcs;simp only[Prod.mk.injEq]at hx;obtain⟨rfl,rfl⟩:=hx;simp only[if_true]at hz;have hs:=hsz _ _ rfl;rw[KY]at hs;have hlen:len≤140737488355327:=by
   have e1:(lits (H:=H) .u8 (zs.take len)).length=len:=by simp[lits]; omega
   rw[e1]at hs;simp only[reachBytes]at hs;omega
  have hB:∀k,∃n:Nat,n<256∧zs.getD k 0=(n:Int):=fun k=>by
   by_cases hk:k<zs.length
   ·have h1:=bounds_u8 (hwz (zs[k]) (List.getElem_mem hk));refine⟨(zs[k]).toNat,by omega,?_⟩;rw[List.getD_eq_getElem?_getD,List.getElem?_eq_getElem hk];show zs[k]=_;omega
   ·exact⟨0,by omega,by rw[List.getD_eq_getElem?_getD,List.getElem?_eq_none (by omega)]; rfl⟩
  refine⟨fun k=>Classical.choose (hB k),⟨_,cap,rfl,hl',fun k=>(Classical.choose_spec (hB k)).1,fun h0 => ?_⟩,hlen⟩;obtain⟨b,off,spot⟩:=a;have hspot:spot=none:=by simpa[Addr.add]using World.cell?_spot (hcell 0 (by omega))
  subst hspot;have hb:b<W.heap.size:=hl (.cell b off) (MemPlace.mem_row.2 ⟨0,by omega,by simp⟩);refine⟨b,off,rfl,hb,fun k=>(Classical.choose_spec (hB k)).1,fun k hk => ?_⟩;have e2:=(Classical.choose_spec (hB k)).2;have e3:=hcell k (by omega);rw[e2]at e3;have e4:(⟨b,off,none⟩:Addr).add k=⟨b,off+k,none⟩:=by simp[Addr.add]
  rw[e4]at e3;exact e3
end Go.Proofs.YtpjlhhpjpnacmaaGreat
