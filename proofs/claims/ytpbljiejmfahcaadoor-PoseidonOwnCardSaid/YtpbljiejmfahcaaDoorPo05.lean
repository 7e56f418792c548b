/- Po05 -/
import Derived.Laws.Bits64
import Derived.Laws.Bits64b
import Derived.Shelf.Spec.TrailingZeros
import Derived.Test.YtpbljiejmfahcaaDoorPo04
import Derived.Test.YtpbljiejmfahcaaDoorProg
set_option maxRecDepth 100000
set_option linter.unusedVariables false
set_option linter.unusedSimpArgs false
set_option linter.unnecessarySimpa false
noncomputable section
namespace Go.Proofs.YtpbljiejmfahcaaDoor.Ex
open Go.Proofs.Tryd
open Go.RowKit
def fN (op:BinOp) (t:Nat) (x y:Operand) (v u r:Value):Prop:=∀w:World,(do eqGuard op t x y v u; binOp op t v u:Sem Value).run prog w=.ok r w
def u6 (n:Nat):Value:=.int .u64 (Int.ofNat n)
theorem wD (t:Nat) (x y:Operand) {a b:Nat} (ha:a<eH) (hb:b<eH):fN .and t x y (u6 a) (u6 b) (u6 (a &&& b)):=fun w=>by
 have h:=bits_and_u64_nat a b ha hb;simp[eqGuard,binOp,go_sem,u6];exact h
theorem PI (t:Nat) (x y:Operand) {a b:Nat} (ha:a<eH) (hb:b<eH):fN .or t x y (u6 a) (u6 b) (u6 (a ||| b)):=fun w=>by
 have h:=bits_or_u64_nat a b ha hb;simp[eqGuard,binOp,go_sem,u6];exact h
theorem qR (t:Nat) (x y:Operand) {a b:Nat} (ha:a<eH) (hb:b<eH):fN .xor t x y (u6 a) (u6 b) (u6 (a ^^^ b)):=fun w=>by
 have h:=bits_xor_u64_nat a b ha hb;simp[eqGuard,binOp,go_sem,u6];exact h
theorem PG (t:Nat) (x y:Operand) (a:Nat) {k:Nat} (hk:k≤64):fN .shr t x y (u6 a) (iI k) (u6 (a/2^k)):=fun w=>by
 simp[eqGuard,binOp,go_sem,u6,iI,Nat.min_eq_left hk]
theorem PH (t:Nat) (x y:Operand) (a:Nat) {k:Nat} (hk:k≤64):fN .shl t x y (u6 a) (iI k) (u6 (a*2^k%eH)):=fun w=>by
 simp[eqGuard,binOp,go_sem,u6,iI,IntKind.wrap,IntKind.signed,IntKind.bits,Nat.min_eq_left hk]
theorem XL (t:Nat) (x y:Operand) (a:Nat) {k:Nat} (hk:k≤64):fN .shl t x y (u6 a) (u6 k) (u6 (a*2^k%eH)):=fun w=>by
 simp[eqGuard,binOp,go_sem,u6,IntKind.wrap,IntKind.signed,IntKind.bits,Nat.min_eq_left hk]
theorem ZR {p:Nat} (h:p≤64):aF .sub .i64 64 (Int.ofNat p)=some (iI (64-p)):=AN (i:=64) h (by decide)
theorem XS (w:World) (b1 b2 lo hi p:Nat):eM prog { qG prog with x:=xO w (fun _=>none) (fun _=>none) (aD [(5,u6 lo),(7,u6 (lo/2^p)),(8,u6 hi),(11,u6 (hi*2^(64-p)%eH)),(12,u6 (kC lo hi p))]) } (fun _=>tC T0 (aD [(10,iI (64-p))])) f73 60 [.v (.im (iI p)),.v (.im (ptV b1 0)),.v (.im (ptV b2 0))]=some ([oldOf w b1 0 [.c (u6 lo)],fN .shr 32 (.tmp 5) (.tmp 6) (u6 lo) (iI p) (u6 (lo/2^p)),oldOf w b2 0 [.c (u6 hi)],aF .sub .i64 64 (Int.ofNat p)=some (iI (64-p)),fN .shl 32 (.tmp 8) (.tmp 10) (u6 hi) (iI (64-p)) (u6 (hi*2^(64-p)%eH)),fN .or 32 (.tmp 7) (.tmp 11) (u6 (lo/2^p)) (u6 (hi*2^(64-p)%eH)) (u6 (kC lo hi p))],.one (.im (u6 (kC lo hi p)))):=by kernel_rfl
theorem MF {w:World} {b1 b2 lo hi p:Nat} (hp:p≤64) (hl:lo<eH) (h1:oldOf w b1 0 [.c (u6 lo)]) (h2:oldOf w b2 0 [.c (u6 hi)]):bU prog 73 (.one (.im (u6 (kC lo hi p)))) [iI p,ptV b1 0,ptV b2 0] w :=
 aV aH (fun _ _=>(bH _).w _ _) (bX w _ _ _) func73 (XS w b1 b2 lo hi p) ⟨h1,PG _ _ _ _ hp,h2,ZR hp,PH _ _ _ _ (by omega),PI _ _ _ (Bp hl) (RQ _),trivial⟩ (args:=[iI p,ptV b1 0,ptV b2 0]) ⟨rfl,rfl,rfl,trivial⟩
def Yv (b1 b2 lo hi:Nat):kE
 | [.v (.im (.int .i64 (.ofNat p))),.v (.im u1),.v (.im u2)]=>some ([p≤64,u1=ptV b1 0,u2=ptV b2 0],.one (.im (u6 (kC lo hi p))))
 | _=>none
theorem Ip {w:World} {b1 b2 lo hi:Nat} (hl:lo<eH) (h1:oldOf w b1 0 [.c (u6 lo)]) (h2:oldOf w b2 0 [.c (u6 hi)]):∀cs pre r,Yv b1 b2 lo hi cs=some (pre,r)→aW pre→∀(args:List Value),dV w cs args→bU prog 73 r args w:=by
 intro cs pre r hg hp args ha;unfold Yv at hg;split at hg
 ·rename_i p u1 u2;cases hg;obtain⟨hp,rfl,rfl,_⟩:=hp
  match args,ha with
  | [x,y,z],ha =>
   have e1:x=_:=ha.1;have e2:y=_:=ha.2.1;have e3:z=_:=ha.2.2.1;subst e1; subst e2; subst e3;exact MF hp hl h1 h2
  | [],ha=>exact ha.elim
  | [_],ha=>exact ha.2.elim
  | [_,_],ha=>exact ha.2.2.elim
  | _::_::_::_::_,ha=>exact ha.2.2.2.elim
 ·cases hg
def St.row (s:St):List At:=[.c (u6 s.lo),.c (u6 s.hi),.c (u6 s.fr),.c (u6 s.gv)]
theorem Own.on {w w':World} {b:Nat} {l:List At} (h:Own w b l) (hb:Below w.heap.size w w'):Own w' b l :=
 ⟨Nat.lt_of_lt_of_le h.lt hb.size,fun j v hj=>(hb.cell (p:=⟨b,0+j,none⟩) h.lt).trans (h.row j v hj),fun j=>(hb.frozen (p:=⟨b,j,none⟩) h.lt).trans (h.free j)⟩
theorem Own.old {w:World} {b o:Nat} {l s:List At} (h:Own w b l) (hs:pY l o (bW s)=some s):oldOf w b o s:=by
 have:=cD h.row hs;rw[Nat.zero_add]at this;exact⟨h.lt,this⟩
theorem WrC.of_below {w w':World} {b:Nat} {l:List At} (h:Own w b l) (hb:Below w.heap.size w w') (hs:Shape w w'):WrC w w' b :=
 ⟨⟨hb.os,hb.tape,hb.output,hb.size,fun k hk=>hb.block k (Nat.lt_trans hk h.lt)⟩,fun p hp _=>⟨hb.cell hp,hb.frozen hp⟩,hs,(h.on hb).free⟩
theorem Holds.shape {nt base:Nat} {w0:World} {A:List Fact} {a:Act} {w:World} (h:Holds nt base w0 A a w):Shape w0 w:=by
 obtain⟨_,_,_,_,gt⟩:=h.facts;exact gt.shape
theorem oldOf.on {w w':World} {b o:Nat} {l:List At} (h:oldOf w b o l) (hb:Below w.heap.size w w'):oldOf w' b o l :=
 ⟨Nat.lt_of_lt_of_le h.1 hb.size,dE hb h.1 h.2⟩
theorem oldOf.wr {w w':World} {b c o:Nat} {l:List At} (h:oldOf w b o l) (hb:WrC w w' c) (hne:b≠c):oldOf w' b o l :=
 ⟨Nat.lt_of_lt_of_le h.1 hb.below.size,fun j v hj=>((hb.mem ⟨b,o+j,none⟩ h.1 hne).1).trans (h.2 j v hj)⟩
theorem cO {a:Act} {s:Nat} {v:Value} (h:a.tmps[s]?=some v):a.eval (.tmp s)=v:=by simp[Act.eval,h]
noncomputable abbrev grF:Func:=f62
def kY:Code:=(f62.body).getD .skip
def Vb:Code:=cA (cB (cB kY))
def Rk:Code:=cB (cB (cB kY))
theorem Ap:kY=.seq (cA kY) (.seq (cA (cB kY)) (.seq (.region 2 (aE Vb) false) (.region 3 (aE Rk) true))):=by kernel_rfl
theorem Rj:grF.ntmps=47:=by kernel_rfl
def Do (b1 b2:Nat):Value:=.func (.func 73) #[] #[ptV b1 0,ptV b2 0]
theorem Rh (w:World) (sb lo hi:Nat):aJ prog { qG prog with x:=xO w (aD [(8,0),(13,1)]) (fun _=>none) (aD [(9,u6 lo),(14,u6 hi)]) } 47 (fun _=>tC T0 fun _=>none) 60 (cA kY) (eO 0 [.v (.im (ptV sb 0))]) [.slot 0 (.im (ptV sb 0)),.slot 2 (.pt 2 0),.row 2 true [.c (u6 lo)],.slot 3 (.pt 3 0),.row 3 true [.c (u6 hi)]]=some ([(0:Int)=Int.ofNat 0,0<2,oldOf w sb 0 [.c (u6 lo)],(1:Int)=Int.ofNat 1,1<2,oldOf w sb 1 [.c (u6 hi)]],.nrm,[.slot 0 (.im (ptV sb 0)),.slot 2 (.pt 2 0),.row 2 true [.c (u6 lo)],.slot 3 (.pt 3 0),.row 3 true [.c (u6 hi)]]):=by kernel_rfl
theorem Rg (sb b1 b2 lo hi:Nat):aJ prog (qG prog) 47 (fun _=>tC T0 fun _=>none) 60 (cA (cB kY)) [.at 3 b2,.at 2 b1,.slot 0 (.im (ptV sb 0)),.slot 2 (.pt 2 0),.row 2 true [.c (u6 lo)],.slot 3 (.pt 3 0),.row 3 true [.c (u6 hi)]] [.slot 0 (.im (ptV sb 0)),.slot 4 (.im (Do b1 b2)),.row 2 true [.c (u6 lo)],.row 3 true [.c (u6 hi)],.at 2 b1,.at 3 b2]=some ([],.nrm,[.slot 0 (.im (ptV sb 0)),.slot 4 (.im (Do b1 b2)),.row 2 true [.c (u6 lo)],.row 3 true [.c (u6 hi)],.at 2 b1,.at 3 b2]):=by kernel_rfl
def Rc (lo hi:Nat):Nat:=kC lo hi 62 ^^^ kC lo hi 51
def Rb (lo hi:Nat):Nat:=Rc lo hi ^^^ kC lo hi 38
def Qz (lo hi:Nat):Nat:=Rb lo hi ^^^ kC lo hi 23
def Qy (lo hi:Nat):Nat:=Qz lo hi ^^^ kC lo hi 13
def Va (lo hi:Nat):Nat:=Qy lo hi ^^^ kC lo hi 0
def Ku (b1 b2 lo hi:Nat):Tab:=T0.add 73 (Yv b1 b2 lo hi)
theorem Rf (w:World) (sb b1 b2 lo hi:Nat):cS prog { qG prog with x:=xO w (fun _=>none) (fun _=>none) (aD [(21,u6 (Rc lo hi)),(24,u6 (Rb lo hi)),(27,u6 (Qz lo hi)),(30,u6 (Qy lo hi)),(33,u6 (Va lo hi)),(34,u6 (mK lo hi))]) } 47 (tC (Ku b1 b2 lo hi) fun _=>none) ((aE Vb).extract 0 21) [.slot 0 (.im (ptV sb 0)),.slot 4 (.im (Do b1 b2))] [.slot 34 (.im (u6 (mK lo hi))),.slot 36 (.im (ptV sb 2)),.slot 0 (.im (ptV sb 0)),.slot 4 (.im (Do b1 b2))]
 = some ([62≤64,ptV b1 0=ptV b1 0,ptV b2 0=ptV b2 0,51≤64,ptV b1 0=ptV b1 0,ptV b2 0=ptV b2 0,fN .xor 32 (.tmp 18) (.tmp 20) (u6 (kC lo hi 62)) (u6 (kC lo hi 51)) (u6 (Rc lo hi)),38≤64,ptV b1 0=ptV b1 0,ptV b2 0=ptV b2 0,fN .xor 32 (.tmp 21) (.tmp 23) (u6 (Rc lo hi)) (u6 (kC lo hi 38)) (u6 (Rb lo hi)),23≤64,ptV b1 0=ptV b1 0,ptV b2 0=ptV b2 0,fN .xor 32 (.tmp 24) (.tmp 26) (u6 (Rb lo hi)) (u6 (kC lo hi 23)) (u6 (Qz lo hi)),
  13≤64,ptV b1 0=ptV b1 0,ptV b2 0=ptV b2 0,fN .xor 32 (.tmp 27) (.tmp 29) (u6 (Qz lo hi)) (u6 (kC lo hi 13)) (u6 (Qy lo hi)),0≤64,ptV b1 0=ptV b1 0,ptV b2 0=ptV b2 0,fN .xor 32 (.tmp 30) (.tmp 32) (u6 (Qy lo hi)) (u6 (kC lo hi 0)) (u6 (Va lo hi)),fN .and 32 (.tmp 33) (.const (u6 65535)) (u6 (Va lo hi)) (u6 65535) (u6 (mK lo hi))],[.slot 34 (.im (u6 (mK lo hi))),.slot 36 (.im (ptV sb 2)),.slot 0 (.im (ptV sb 0)),.slot 4 (.im (Do b1 b2))]):=by kernel_rfl
theorem Re (w:World) (sb b1 b2 lo hi:Nat):Gc prog { qG prog with x:=xO w (fun _=>none) (fun _=>none) (aD [(43,u6 (mK lo hi))]) } 47 (tC (Ku b1 b2 lo hi) fun _=>none) (aE Rk) [.slot 0 (.im (ptV sb 0)),.slot 4 (.im (Do b1 b2))] [.slot 46 (.im (ptV sb 0)),.slot 44 (.fl [.c (u6 (kC lo hi 16)),.c (u6 (mK lo hi))])]
 = some ([16≤64,ptV b1 0=ptV b1 0,ptV b2 0=ptV b2 0,oldOf w sb 2 [.c (u6 (mK lo hi))]],[.slot 46 (.im (ptV sb 0)),.slot 44 (.fl [.c (u6 (kC lo hi 16)),.c (u6 (mK lo hi))])]):=by kernel_rfl
theorem VK {w w':World} {b1 b2 lo hi:Nat} (hl:lo<eH) (h1:oldOf w b1 0 [.c (u6 lo)]) (h2:oldOf w b2 0 [.c (u6 hi)]):TabOkW prog (Ku b1 b2 lo hi) w.heap.size w :=
 TabOkW.add ((bH _).w _ _) func73 (by kernel_rfl) (by kernel_rfl) (fun w' hw=>Ip hl (h1.on hw) (h2.on hw))
theorem Ez:(prog.info? 32).map (·.size)=some 1:=by kernel_rfl
theorem Mp:(prog.info? 82).map (·.size)=some 2:=by kernel_rfl
theorem SR {s:St} (hs:s.ok):Dx prog 62 s.row 0 [] (.many []) s.grow.row:=by
 intro w0 sb hO;obtain⟨lo,hi,fr,gv⟩:=s;obtain⟨h1,h2,h3,h4⟩:=hs;simp only at h1 h2 h3 h4;have hT:∀base w,∀n d:Nat,TabOkW prog T0 base w:=fun _ _ _ _=>(bH _).w _ _
 have hG:∀base w,bD prog (qG prog) base w:=fun _ _=>(bM _).w _ _
 have hnt:f62.ntmps=47:=Rj;refine bP func62 (cs:=[.v (.im (ptV sb 0))]) (args:=[ptV sb 0]) (c:=kY) rfl ⟨rfl,trivial⟩ (Nat.le_of_ble_eq_true (by kernel_rfl)) fun a w hA => ?_
 rw[hnt]at hA;rw[Ap];have o1:oldOf w0 sb 0 [At.c (u6 lo)]:=hO.old rfl;have o2:oldOf w0 sb 1 [At.c (u6 hi)]:=hO.old rfl;refine wp_seq (aA aH (hT _ _) (bX w0 _ _ _) (Rh w0 sb lo hi) ⟨rfl,by decide,o1,rfl,by decide,o2,trivial⟩ hA fun a w hA => ?_);obtain⟨b1,hA⟩:=hA.at (k:=2) (l:=[.c (u6 lo)]) (by simp);obtain⟨b2,hA⟩:=hA.at (k:=3) (l:=[.c (u6 hi)]) (by simp);refine wp_seq (aA aH (hT _ _) (hG _ _) (Rg sb b1 b2 lo hi) trivial hA fun a w1 hA => ?_);have q1:oldOf w1 b1 0 [.c (u6 lo)]:=hA.old (k:=2) (by simp) (by simp);have q2:oldOf w1 b2 0 [.c (u6 hi)]:=hA.old (k:=3) (by simp) (by simp);have hge:w0.heap.size≤b1∧w0.heap.size≤b2:=by
  obtain⟨β,g1,_⟩:=hA.facts;obtain⟨_,_,r1,_⟩:=g1 (.row 2 true [.c (u6 lo)]) (by simp);obtain⟨_,_,r2,_⟩:=g1 (.row 3 true [.c (u6 hi)]) (by simp);have e1:=g1 (.at 2 b1) (by simp);have e2:=g1 (.at 3 b2) (by simp);simp only[Fact.ok]at e1 e2;exact⟨e1.1▸(r1 rfl).1,e2.1▸(r2 rfl).1⟩
 have n1:b1≠sb:=fun e=>by have:=hO.lt; omega
 have n2:b2≠sb:=fun e=>by have:=hO.lt; omega
 have hO1:=hO.on hA.below;have hW1:WrC w0 w1 sb:=WrC.of_below hO hA.below hA.shape;have hS:=aS (nt:=47) (w:=w1) (a:=a) (ts:=[(0,ptV sb 0),(4,Do b1 b2)]) hA.defers hA.size (fun x hx=>by
  simp only[List.mem_cons,List.not_mem_nil,or_false]at hx
  rcases hx with rfl|rfl
  ·exact hA.slot (by simp)
  ·exact hA.slot (by simp))
 clear hA;have T1:∀d:Nat,TabOkW prog (Ku b1 b2 lo hi) w1.heap.size w1:=fun _=>VK (w':=w1) h1 q1 q2
 have y62:=iP (hi:=hi) (p:=62) h1;have yx:∀p,kC lo hi p<eH:=fun p=>iP h1
 have z1:Rc lo hi<eH:=tK (yx _) (yx _);have z2:Rb lo hi<eH:=tK z1 (yx _);have z3:Qz lo hi<eH:=tK z2 (yx _);have z4:Qy lo hi<eH:=tK z3 (yx _);have z5:Va lo hi<eH:=tK z4 (yx _);refine wp_seq (bI (l:=List.range' 0 ((aE Vb).extract 0 21).size++(21::[])) (by kernel_rfl) ?_);refine aK (c:=tC (Ku b1 b2 lo hi) _) T1 (bX w1 _ _ _) (Rf w1 sb b1 b2 lo hi) ⟨by decide,rfl,rfl,by decide,rfl,rfl,qR _ _ _ (yx _) (yx _),by decide,rfl,rfl,qR _ _ _ z1 (yx _),by decide,rfl,rfl,qR _ _ _ z2 (yx _),by decide,rfl,rfl,qR _ _ _ z3 (yx _),by decide,rfl,rfl,qR _ _ _ z4 (yx _),wD _ _ _ z5 (by decide),trivial⟩ (by kernel_rfl) hS fun a w2 h2' => ?_
 obtain⟨o21,ho21,hop21,hd21,hg21⟩:∃x,(aE Vb)[21]?=some x∧x.op=.store 32 (.tmp 36) (.tmp 34)∧x.dst=none∧x.guard=none:=⟨_,rfl,rfl,rfl,rfl⟩
 have hO2:=hO1.on h2'.below;have hp2:put (St.row ⟨lo,hi,fr,gv⟩) 2 [At.c (u6 (mK lo hi))]=some (St.row ⟨lo,hi,mK lo hi,gv⟩):=rfl;obtain⟨hO3,hW3⟩:=hO2.set hp2;refine bC ho21 hg21 (fI (v:=u6 (mK lo hi)) (vs:=aB [At.c (u6 (mK lo hi))]) hop21 hd21 (h2'.imV (s:=36) (v:=ptV sb 2) (by simp)) (h2'.imV (s:=34) (by simp)) rfl rfl Ez (hO2.there (o:=2) (n:=1) (Nat.le_of_ble_eq_true rfl)) ?_);have hW13:WrC w1 (w2.setCells sb 2 (aB [At.c (u6 (mK lo hi))])) sb:=(WrC.of_below hO1 h2'.below h2'.shape).trans hW3;have hS3:=aS (nt:=47) (w:=w2.setCells sb 2 (aB [At.c (u6 (mK lo hi))])) (a:=a) (ts:=[(0,ptV sb 0),(4,Do b1 b2)]) h2'.defers h2'.size (fun x hx=>by
  simp only[List.mem_cons,List.not_mem_nil,or_false]at hx
  rcases hx with rfl|rfl
  ·exact h2'.slot (by simp)
  ·exact h2'.slot (by simp))
 clear h2';generalize w2.setCells sb 2 (aB [At.c (u6 (mK lo hi))])=w3 at *;have r1:=q1.wr hW13 n1;have r2:=q2.wr hW13 n2;have T3:∀d:Nat,TabOkW prog (Ku b1 b2 lo hi) w3.heap.size w3:=fun _=>VK (w':=w3) h1 r1 r2
 have o3:oldOf w3 sb 2 [At.c (u6 (mK lo hi))]:=hO3.old rfl;show (Code.region 3 (aE Rk) true).wp _ _ _ _;obtain⟨ol,hol,hopl,hdl⟩:∃x,(aE Rk)[(aE Rk).size-1]?=some x∧x.op=.store 82 (.tmp 46) (.tmp 44)∧x.dst=none:=⟨_,rfl,rfl,rfl⟩
 refine DW (c:=tC (Ku b1 b2 lo hi) _) aH T3 (bX w3 _ _ _) (Re w3 sb b1 b2 lo hi) ⟨by decide,rfl,rfl,o3,trivial⟩ (by kernel_rfl) hol hS3 fun a w4 h4' => ?_
 have hO4:=hO3.on h4'.below;have hp4:put (St.row ⟨lo,hi,mK lo hi,gv⟩) 0 [At.c (u6 (kC lo hi 16)),At.c (u6 (mK lo hi))]=some (St.row ⟨kC lo hi 16,mK lo hi,mK lo hi,gv⟩):=rfl;obtain⟨hO5,hW5⟩:=hO4.set hp4;refine fI (v:=.agg (aB [At.c (u6 (kC lo hi 16)),At.c (u6 (mK lo hi))]).toArray) (vs:=aB [At.c (u6 (kC lo hi 16)),At.c (u6 (mK lo hi))]) hopl hdl (h4'.imV (s:=46) (v:=ptV sb 0) (by simp)) (cO (h4'.slotF (s:=44) (by simp))) rfl rfl Mp (hO4.there (o:=0) (n:=2) (Nat.le_of_ble_eq_true rfl)) ?_;have hW:WrC w0 (w4.setCells sb 0 (aB [At.c (u6 (kC lo hi 16)),At.c (u6 (mK lo hi))])) sb:=hW1.trans (hW13.trans ((WrC.of_below hO3 h4'.below h4'.shape).trans hW5));exact⟨h4'.defers,.tuple #[],by simp[results,show f62.results = #[] by kernel_rfl],rfl,hW,hO5.row⟩
def NI:Tab:=(((T0.add 46 (Ll jW)).add 58 (Ll jV)).add 30 It).add 38 Io
theorem AK:TabOk prog NI:=((((bH _).add func46 (by kernel_rfl) (by kernel_rfl) Ni).add func58 (by kernel_rfl) (by kernel_rfl) Nh).add func30 (by kernel_rfl) (by kernel_rfl) YI).add func38 (by kernel_rfl) (by kernel_rfl) Wp
theorem LD (x y:Nat):Bc prog NI (qG prog) (fun _=>true) f32 40 [.v (.fl [.q x]),.v (.fl [.q y])]=some ([x<RM,y<RM],.one (.fl [.q (jW x y)])):=by kernel_rfl
theorem DS (x y:Nat):Bc prog NI (qG prog) (fun _=>true) f47 40 [.v (.fl [.q x]),.v (.fl [.q y])]=some ([x<RM,y<RM],.one (.fl [.q (jV x y)])):=by kernel_rfl
def Ky:Tab:=(NI.add 32 (Vf jW c2R)).add 47 (Vf jV c2R)
theorem Di:TabOk prog Ky:=(AK.add func32 (by kernel_rfl) (by kernel_rfl) (SY fun x y h args w ha=>oW aH AK (bM _) func32 (LD x y) h ha)).add
 func47 (by kernel_rfl) (by kernel_rfl) (SY fun x y h args w ha=>oW aH AK (bM _) func47 (DS x y) h ha)
theorem XT (x:Nat):Bc prog Ky (qG prog) (fun _=>true) f34 40 [.v (.fl [.q x])]=some ([x<RM,x<RM,jV x x<RM,jV x x<RM,jV (jV x x) (jV x x)<RM,x<RM],.one (.fl [.q (BG x)])):=by kernel_rfl
def NH:Tab:=Ky.add 34 (Yw BG fun x=>[x<RM])
theorem AJ:TabOk prog NH:=Di.add func34 (by kernel_rfl) (by kernel_rfl) (Iq fun x h args w ha=>oW aH Di (bM _) func34 (XT x) ⟨h.1,h.1,qZ _ _,qZ _ _,qZ _ _,h.1,trivial⟩ ha)
def fY:Code:=(f18.body).getD .skip
def oE:Code:=gV (gV (cB (cA (cB fY))))
theorem UX:fY=.seq (cA fY) (.seq (.seq (cA (cA (cB fY))) (.block 0 (.loop oE))) (cB (cB fY))):=by kernel_rfl
def Lr (num:Nat→Option Value) (_:Nat):Cfg:=⟨fun _=>NH,fun _=>true,num⟩
theorem Kg (v:Value):aJ prog (qG prog) f18.ntmps (Lr fun _=>none) 40 (cA fY) (eO 0 [.v (.im v)]) [.slot 0 (.im v)]=some ([],.nrm,[.slot 0 (.im v)]):=by kernel_rfl
theorem Kf (p:Option Addr) (N m:Nat):aJ prog (qG prog) f18.ntmps (Lr fun _=>none) 40 (cA (cA (cB fY))) [.slot 0 (.im (.slice p N m))] (GJ (.slice p N m) N 0)=some ([],.nrm,GJ (.slice p N m) N 0):=by kernel_rfl
theorem Kh (w:World) (b o N m i x:Nat):aJ prog { qG prog with x:=xO w (aD [(9,i)]) (aD [(10,[.q x])]) (fun _=>none) } f18.ntmps (Lr (aD [(8,.bool true),(13,.bool false),(14,iI (i+1))])) 40 oE (GJ (aT b o N m) N i) (GJ (aT b o N m) N (i+1))=some ([aF .lss .i64 (Int.ofNat i) (Int.ofNat N)=some (.bool true),Int.ofNat i=Int.ofNat i,i<N,oldOf w b (o+i*4) [.q x],bW [.q x]=4,x<cU,aF .neq .i64 (Dt x) 0=some (.bool false),aF .add .i64 (Int.ofNat i) 1=some (iI (i+1))],.nrm,GJ (aT b o N m) N (i+1)):=by kernel_rfl
theorem Ki (w:World) (b o N m i x:Nat):aJ prog { qG prog with x:=xO w (aD [(9,i)]) (aD [(10,[.q x])]) (fun _=>none) } f18.ntmps (Lr (aD [(8,.bool true),(13,.bool true)])) 40 oE (GJ (aT b o N m) N i) [.slot 2 (.im (.bool false))]=some ([aF .lss .i64 (Int.ofNat i) (Int.ofNat N)=some (.bool true),Int.ofNat i=Int.ofNat i,i<N,oldOf w b (o+i*4) [.q x],bW [.q x]=4,x<cU,aF .neq .i64 (Dt x) 0=some (.bool true)],.rt,[.slot 2 (.im (.bool false))]):=by kernel_rfl
theorem Ci (v:Value) (N i:Nat):aJ prog (qG prog) f18.ntmps (Lr (aD [(8,.bool false)])) 40 oE (GJ v N i) (GJ v N i)=some ([aF .lss .i64 (Int.ofNat i) (Int.ofNat N)=some (.bool false)],.ex 0,GJ v N i):=by kernel_rfl
theorem UW (v:Value) (N i:Nat):aJ prog (qG prog) f18.ntmps (Lr fun _=>none) 40 (cB (cB fY)) (GJ v N i) [.slot 2 (.im (.bool true))]=some ([],.rt,[.slot 2 (.im (.bool true))]):=by kernel_rfl
theorem CK {w0:World} {b o N m i:Nat} {f:Nat→Nat} (hb:b<w0.heap.size) (hr:w0.rangeAt b o (aB (aG (el f) 0 N))) (hN:N≤4611686018427387904) (hi:i<N) (hx:f i<cU) (h:f i<RM):Ok prog w0.heap.size w0 f18.ntmps oE (GJ (aT b o N m) N i) .nrm (GJ (aT b o N m) N (i+1)) :=
 ⟨_,_,_,_,bX w0 _ _ _,fun _ _=>AJ.w _ _,Kh w0 b o N m i (f i),bZ hi,rfl,hi,fT hb hr hi,rfl,hx,Jt h,dT (k:=1) (by omega),trivial⟩
theorem mE {w0:World} {v:Value} {N:Nat} {f:Nat→Nat} (hv:LV w0 v N f) (hN:N≤4611686018427387904):bU prog 18 (.one (.im (.bool (decide (gY N f))))) [v] w0:=by
 obtain⟨p,m,rfl,hm,h256,hmem⟩:=hv;have hG:bD prog (qG prog) w0.heap.size w0:=(bM _).w _ _;have hT:∀n d:Nat,TabOkW prog NH w0.heap.size w0:=fun _ _=>AJ.w _ _
 refine bP func18 (cs:=[.v (.im (.slice p N m))]) (args:=[.slice p N m]) (c:=fY) rfl ⟨rfl,trivial⟩ (Nat.le_of_ble_eq_true (by kernel_rfl)) fun a w' hA => ?_
 rw[UX];refine wp_seq (aA aH hT hG (Kg _) trivial hA fun a w' hA => ?_);refine wp_seq (wp_seq (aA aH hT hG (Kf p N m) trivial hA fun a w' hA => ?_));refine wp_block ?_;have fin:∀(P Q:Exit→Act→World→Prop) e a w,P e a w→(∀e a w,P e a w→Q e a w)→Q e a w:=fun P Q e a w h k=>k e a w h
 by_cases h:gY N f
 ·rw[decide_eq_true h];refine dS aH (fun i=>GJ (.slice p N m) N i) N (fun i hi => ?_) (.ex 0) (by simp) (GJ (.slice p N m) N N) ⟨_,_,_,_,hG,hT,Ci _ N N,bV (Nat.le_refl _),trivial⟩ hA fun a w hA => ?_
  ·obtain⟨b,o,rfl,hb,hr⟩:=hmem (by omega);exact CK hb hr hN hi (h256 i hi) (h i hi)
  ·show (cB (cB fY)).wp _ _ _ _;exact aA aH hT hG (UW _ N N) trivial hA fun a w' hA=>gT (l:=[.im (.bool true)]) (r:=.one (.im (.bool true))) (by kernel_rfl) (by kernel_rfl) hA
 ·rw[decide_eq_false h];obtain⟨j,hj,h1,h2⟩:=MI (p:=fun j=>f j<RM) h;obtain⟨b,o,rfl,hb,hr⟩:=hmem (by omega);refine dS aH (fun i=>GJ (aT b o N m) N i) j (fun i hi=>CK hb hr hN (by omega) (h256 i (by omega)) (h1 i hi)) .rt (by simp) [.slot 2 (.im (.bool false))] ⟨_,_,_,_,bX w0 _ _ _,hT,Ki w0 b o N m j (f j),bZ hj,rfl,hj,fT hb hr hj,rfl,h256 j hj,Ca h2,trivial⟩ hA fun a w hA => ?_
  exact gT (l:=[.im (.bool false)]) (r:=.one (.im (.bool false))) (by kernel_rfl) (by kernel_rfl) hA
open Go.RowKit Go.Shelf
def Ml:Go.Shelf.Ren:=⟨fun|29=>74|n=>n,fun|0=>0|3=>3|4=>4|5=>5|22=>32|25=>105|54=>111|n=>n,fun|1=>0|n=>n⟩
theorem Ej:Lays7.n29 prog Ml:={
 mixed:=by kernel_rfl
 f29:=func74.trans (congrArg some (by kernel_rfl))
 t0:=underlying0
 a0:=Tryd.isAgg0
 z0:=Tryd.sizeOf0
 v0:=Tryd.zeroValue0
 i0:=by kernel_rfl
 t3:=underlying3
 a3:=Tryd.isAgg3
 z3:=Tryd.sizeOf3
 v3:=Tryd.zeroValue3
 i3:=by kernel_rfl
 t4:=underlying4
 a4:=Tryd.isAgg4
 z4:=Tryd.sizeOf4
 v4:=Tryd.zeroValue4
 i4:=by kernel_rfl
 t5:=underlying5
 a5:=Tryd.isAgg5
 z5:=Tryd.sizeOf5
 v5:=Tryd.zeroValue5
 i5:=by kernel_rfl
 t22:=underlying32
 a22:=Tryd.isAgg32
 z22:=Tryd.sizeOf32
 v22:=Tryd.zeroValue32
 i22:=by kernel_rfl
 t25:=underlying105
 a25:=Tryd.isAgg105
 z25:=Tryd.sizeOf105
 v25:=Tryd.zeroValue105
 i25:=by kernel_rfl
 t54:=underlying111
 a54:=Tryd.isAgg111
 z54:=Tryd.sizeOf111
 g1:=by kernel_rfl }
def Dbj (w:World):Prop:=Go.Proofs.TabAt 0 Lib.deBruijn64tab w
theorem Dbj.lt {w:World} (h:Dbj w):0<w.heap.size:=by
 have:=h 0 (by decide)
 rcases Nat.lt_or_ge 0 w.heap.size with q|q
 ·exact q
 ·have h2:w.cell? ⟨0,0,none⟩=none:=by
   unfold World.cell?;simp[Array.getElem?_eq_none_iff.2 q]
  rw[h2]at this; cases this
theorem Dbj.on {w w':World} {base:Nat} (h:Dbj w) (hB:0<base) (hb:Below base w w'):Dbj w':=fun j hj=>(hb.cell (p:=⟨0,j,none⟩) hB).trans (h j hj)
theorem OG {x:Nat} (hx:x<eH) {w:World} (h:Dbj w):bU prog 74 (.one (.im (iI (tz x)))) [u6 x] w:=by
 refine (Any7.bits_TrailingZeros64 Ej x hx w fun _=>h).mono ?_
 rintro e w' ⟨rfl,rfl⟩
 exact⟨rfl,Below.refl _ _⟩
def Yu:kE
 | [.v (.im (.int .u64 (.ofNat x)))]=>some ([x<eH],.one (.im (iI (tz x))))
 | _=>none
theorem Il {w:World} (h:Dbj w):∀cs pre r,Yu cs=some (pre,r)→aW pre→∀(args:List Value),dV w cs args→bU prog 74 r args w:=by
 intro cs pre r hg hp args ha;unfold Yu at hg;split at hg
 ·rename_i x;cases hg
  match args,ha with
  | [u],ha =>
   have h1:u=.int .u64 (Int.ofNat x):=ha.1;subst h1;exact OG hp.1 h
  | [],ha=>exact ha.elim
  | _::_::_,ha=>exact ha.2.elim
 ·cases hg
def Kv:Tab:=T0.add 74 Yu
theorem Mk {w:World} {base:Nat} (h:Dbj w) (hB:0<base):TabOkW prog Kv base w :=
 TabOkW.add ((bH _).w _ _) func74 (by kernel_rfl) (by kernel_rfl) (fun w' hw=>Il (h.on hB hw))
noncomputable abbrev wdF:Func:=f63
def gC:Code:=(f63.body).getD .skip
def eJ:Code:=gV (gV (cB (cA (cB (cB gC)))))
def Uq:Code:=gV (cA (cB (cB eJ)))
def GS:Code:=gV (gV (cA Uq))
theorem WJ:gC=.seq (cA gC) (.seq (cA (cB gC)) (.seq (.seq (cA (cA (cB (cB gC)))) (.block 0 (.loop eJ))) (cB (cB (cB gC))))):=by kernel_rfl
theorem WH:eJ=.seq (cA eJ) (.seq (cA (cB eJ)) (.seq (.block 1 (.seq (.block 2 (.loop GS)) (cB Uq))) (cB (cB (cB eJ))))):=by kernel_rfl
theorem Mf:wdF.ntmps=55:=by kernel_rfl
def wA (N sb C a:Nat) (s:St):List Fact:=[.slot 0 (.pt 0 0),.row 0 true s.row,.at 0 sb,.at 55 N,.slot 1 (.im (iI C)),.slot 5 (.im (u6 a))]
def wF (N sb C i a:Nat) (s:St):List Fact:=[.slot 0 (.pt 0 0),.row 0 true s.row,.at 0 sb,.at 55 N,.slot 5 (.im (u6 a)),.slot 7 (.im (iI C)),.slot 8 (.im (iI i))]
def qW (gen:Nat→Option Value) (T5:Tab5):EqT:=Nk prog (fun _=>none) (fun _=>none) (fun _=>none) gen T5
theorem Md (N sb C:Nat) (s:St):aJ prog (qW (fun _=>none) iA) 55 (fun _=>tC T0 fun _=>none) 60 (cA gC) (NA 55 sb N 0 s.row [.im (iI C)]) (NA 55 sb N 0 s.row [.im (iI C)])=some ([],.nrm,NA 55 sb N 0 s.row [.im (iI C)]):=by kernel_rfl
theorem Mc (N sb C:Nat) (s:St):aJ prog (qW (fun _=>none) iA) 55 (fun _=>tC T0 fun _=>none) 60 (cA (cB gC)) (NA 55 sb N 0 s.row [.im (iI C)]) (wA N sb C 0 s)=some ([],.nrm,wA N sb C 0 s):=by kernel_rfl
theorem Mb (N sb C a:Nat) (s:St):aJ prog (qW (fun _=>none) iA) 55 (fun _=>tC T0 fun _=>none) 60 (cA (cA (cB (cB gC)))) (wA N sb C a s) (wF N sb C 0 a s)=some ([],.nrm,wF N sb C 0 a s):=by kernel_rfl
theorem Mi (N sb C i a:Nat) (s:St):aJ prog (qW (fun _=>none) iA) 55 (fun _=>tC T0 (aD [(9,.bool true)])) 60 (cA eJ) (wF N sb C i a s) (.slot 9 (.im (.bool true))::wF N sb C i a s)=some ([aF .lss .i64 (Int.ofNat i) (Int.ofNat C)=some (.bool true)],.nrm,.slot 9 (.im (.bool true))::wF N sb C i a s):=by kernel_rfl
theorem Eg (N sb C i a:Nat) (s:St):aJ prog (qW (fun _=>none) iA) 55 (fun _=>tC T0 fun _=>none) 60 (cA (cB eJ)) (.slot 9 (.im (.bool true))::wF N sb C i a s) (wF N sb C i a s)=some ([],.nrm,wF N sb C i a s):=by kernel_rfl
theorem Vr (N sb C i a:Nat) (s:St):aJ prog (qW (fun _=>none) iA) 55 (fun _=>tC T0 (aD [(9,.bool false)])) 60 (cA eJ) (wF N sb C i a s) (.slot 9 (.im (.bool false))::wF N sb C i a s)=some ([aF .lss .i64 (Int.ofNat i) (Int.ofNat C)=some (.bool false)],.nrm,.slot 9 (.im (.bool false))::wF N sb C i a s):=by kernel_rfl
theorem Ma (N sb C i a:Nat) (s:St):aJ prog (qW (fun _=>none) iA) 55 (fun _=>tC T0 fun _=>none) 60 (cA (cB eJ)) (.slot 9 (.im (.bool false))::wF N sb C i a s) (wF N sb C i a s)=some ([],.ex 0,wF N sb C i a s):=by kernel_rfl
def Kz (s:St):Tab5:=iA.add 62 (Lg s.row 0 (.many []) s.grow.row)
theorem Mh (N sb C i a:Nat) (s:St):aJ prog (qW (aD [(22,u6 (s.grow.fr &&& 21845))]) (Kz s)) 55 (fun _=>tC T0 (aD [(14,.bool true)])) 60 GS (wF N sb C i a s) (wF N sb C i a s.J)=some ([aF .eql .u64 (Int.ofNat s.gv) 0=some (.bool true),s.row=s.row,0=0,fN .and 32 (.tmp 21) (.const (u6 21845)) (u6 s.grow.fr) (u6 21845) (u6 (s.grow.fr &&& 21845))],.nrm,wF N sb C i a s.J):=by kernel_rfl
theorem Mg (N sb C i a:Nat) (s:St):aJ prog (qW (fun _=>none) iA) 55 (fun _=>tC T0 (aD [(14,.bool false)])) 60 GS (wF N sb C i a s) (wF N sb C i a s)=some ([aF .eql .u64 (Int.ofNat s.gv) 0=some (.bool false)],.ex 2,wF N sb C i a s):=by kernel_rfl
theorem Eh (N sb C i a:Nat) (s:St):aJ prog (qW (aD [(39,u6 (s.gv &&& (s.gv-1))),(43,u6 (a*2^1%eH)),(50,u6 (s.fr/2^(tz s.gv+1))),(51,u6 s.bit),(52,u6 (NN a s.bit))]) iA) 55 (fun _=>tC Kv (aD [(38,u6 (s.gv-1)),(49,iI (tz s.gv+1))])) 60 (cB Uq) (wF N sb C i a s) (wF N sb C i (NN a s.bit) s.next)
 = some ([s.gv<eH,aF .sub .u64 (Int.ofNat s.gv) 1=some (u6 (s.gv-1)),fN .and 32 (.tmp 33) (.tmp 38) (u6 s.gv) (u6 (s.gv-1)) (u6 (s.gv &&& (s.gv-1))),fN .shl 32 (.tmp 42) (.const (u6 1)) (u6 a) (u6 1) (u6 (a*2^1%eH)),aF .add .i64 (Int.ofNat (tz s.gv)) 1=some (iI (tz s.gv+1)),fN .shr 32 (.tmp 47) (.tmp 49) (u6 s.fr) (iI (tz s.gv+1)) (u6 (s.fr/2^(tz s.gv+1))),fN .and 32 (.tmp 50) (.const (u6 1)) (u6 (s.fr/2^(tz s.gv+1))) (u6 1) (u6 s.bit),fN .or 32 (.tmp 43) (.tmp 51) (u6 (a*2^1%eH)) (u6 s.bit) (u6 (NN a s.bit))],.nrm,wF N sb C i (NN a s.bit) s.next):=by kernel_rfl
theorem Me (N sb C i a:Nat) (s:St):aJ prog (qW (fun _=>none) iA) 55 (fun _=>tC T0 (aD [(53,iI (i+1))])) 60 (cB (cB (cB eJ))) (wF N sb C i a s) (wF N sb C (i+1) a s)=some ([aF .add .i64 (Int.ofNat i) 1=some (iI (i+1))],.nrm,wF N sb C (i+1) a s):=by kernel_rfl
theorem WI (N sb C i a:Nat) (s:St):aJ prog (qW (fun _=>none) iA) 55 (fun _=>tC T0 fun _=>none) 60 (cB (cB (cB gC))) (wF N sb C i a s) [.slot 4 (.im (u6 a)),.row 0 true s.row,.at 0 sb,.at 55 N]=some ([],.rt,[.slot 4 (.im (u6 a)),.row 0 true s.row,.at 0 sb,.at 55 N]):=by kernel_rfl
theorem KO {s:St} (hs:s.ok):PtOk prog (Kz s):=(nA _).add func62 (by kernel_rfl) (by kernel_rfl) (Gz (SR hs))
theorem Ze:aF .eql .u64 (Int.ofNat 0) 0=some (.bool true):=rfl
theorem Zf {n:Nat} (h:n≠0):aF .eql .u64 (Int.ofNat n) 0=some (.bool false):=by
 show some (Value.bool (Int.ofNat n==0))=_;rw[show (Int.ofNat n==0)=false by rw[beq_eq_false_iff_ne]; intro e; exact h (by simpa using e)]
theorem XK {n:Nat} (h:n≠0) (hn:n<eH):aF .sub .u64 (Int.ofNat n) 1=some (u6 (n-1)):=by
 show some (Value.int .u64 (IntKind.u64.wrap ((n:Int)-1)))=_;have:IntKind.u64.wrap ((n:Int)-1)=((n-1:Nat):Int):=by rw[IntKind.wrap_u64]; unfold eH at hn; omega
 rw[this]; rfl
theorem OB {s t:St} {C v:Nat} (hs:s.ok) (hC:C<4611686018427387904) (hw:wrd C s 0=some (v,t)) {w0:World} {sb:Nat} (hD:Dbj w0) (hg:0<sb) (hO:Own w0 sb s.row) :
  Calls prog 63 (ptV sb 0::[iI C]).toArray w0 (Wr sb w0 (.one (.im (u6 v))) t.row):=by
 have hT:∀n d:Nat,TabOkW prog T0 sb w0:=fun _ _=>(bH _).w _ _
 have hZ:∀n d:Nat,TabOkW prog Kv sb w0:=fun _ _=>Mk hD hg
 have hq:∀gen,bD prog (qW gen iA) sb w0:=fun gen=>mP (nA _) _ _
 have hnt:f63.ntmps=55:=Mf;refine uV (ts:=[.im (iI C)]) func63 (c:=gC) rfl hO (Nat.le_of_ble_eq_true (by kernel_rfl)) fun a w hA => ?_
 rw[hnt]at hA;rw[WJ];refine wp_seq (aA aH hT (hq _) (Md w0.heap.size sb C s) trivial hA fun a w hA => ?_);refine wp_seq (aA aH hT (hq _) (Mc w0.heap.size sb C s) trivial hA fun a w hA => ?_);refine wp_seq (wp_seq (aA aH hT (hq _) (Mb w0.heap.size sb C 0 s) trivial hA fun a w hA => ?_));refine wp_block ?_;refine dI (n:=C+1) ?_;have wl:∀Q a w,(Code.seq (cA eJ) (.seq (cA (cB eJ)) (.seq (.block 1 (.seq (.block 2 (.loop GS)) (cB Uq))) (cB (cB (cB eJ)))))).wp prog Q a w→eJ.wp prog Q a w:=fun Q a w h=>by rw[WH]; exact h
 have key:∀m i (s:St) (ac:Nat) a w,i+m=C→s.ok→ac<eH→wrd m s ac=some (v,t)→Holds 55 sb w0 (wF w0.heap.size sb C i ac s) a w→Un prog eJ (Exit.inBlock 0 (Exit.then ((cB (cB (cB gC))).wp prog (bodyPost prog f63 (Wr sb w0 (.one (.im (u6 v))) t.row))) (bodyPost prog f63 (Wr sb w0 (.one (.im (u6 v))) t.row)))) (m+1) a w:=by
  intro m
  induction m with
  | zero =>
   intro i s ac a w hi hs ha hw hA;cases hw;unfold Un;refine wl _ _ _ (wp_seq (aA aH hT (hq _) (Vr w0.heap.size sb C i v t) ⟨bV (by omega),trivial⟩ hA fun a w hA => ?_));refine wp_seq (aA aH hT (hq _) (Ma w0.heap.size sb C i v t) trivial hA fun a w hA => ?_);simp only[EA.out,Exit.then,Exit.inBlock,if_true];refine aA aH hT (hq _) (WI w0.heap.size sb C i v t) trivial hA fun a w hA => ?_
   exact bR (l:=[.im (u6 v)]) (r:=.one (.im (u6 v))) (by kernel_rfl) (by kernel_rfl) hA ⟨rfl,hA.wrc (by simp) (by simp) (by simp)⟩
  | succ m ih =>
   intro i s ac a w hi hs ha hw hA;unfold wrd at hw;cases hin:inn 40 s with
   | none=>rw[hin]at hw; cases hw
   | some u =>
    rw[hin]at hw;simp only at hw;have hu:=FB hs hin;obtain⟨k,hk,hne,h0⟩:=nU 40 s u hin;unfold Un;refine wl _ _ _ (wp_seq (aA aH hT (hq _) (Mi w0.heap.size sb C i ac s) ⟨bZ (by omega),trivial⟩ hA fun a w hA => ?_));refine wp_seq (aA aH hT (hq _) (Eg w0.heap.size sb C i ac s) trivial hA fun a w hA => ?_);refine wp_seq (wp_block (wp_seq (wp_block ?_)));refine dS aH (fun j=>wF w0.heap.size sb C i ac (Ji j s)) k (fun j hj => ?_) (.ex 2) (by simp) (wF w0.heap.size sb C i ac (Ji k s)) ⟨_,_,_,_,hq _,hT,Mg w0.heap.size sb C i ac (Ji k s),Zf (by rw[hk]; exact hne),trivial⟩ hA fun a w hA => ?_
    ·have hj0:=h0 j hj;have hjo:=VP j hs;exact⟨_,_,_,_,mP (KO hjo) _ _,hT,Mh w0.heap.size sb C i ac (Ji j s),by rw[hj0]; exact Ze,rfl,rfl,wD _ _ _ hjo.grow.fr (by decide),trivial⟩
    ·rw[hk]at hA;simp only[EA.out,Exit.then,Exit.inBlock,if_true];refine aA aH hZ (hq _) (Eh w0.heap.size sb C i ac u) ⟨hu.gv,XK hne hu.gv,wD _ _ _ hu.gv (by have:=hu.gv; omega),XL _ _ _ _ (by omega),dT (k:=1) (by have:=Cx hne hu.gv; omega),PG _ _ _ _ (by have:=Cx hne hu.gv; omega),wD _ _ _ (Bp hu.fr) (by decide),PI _ _ _ (RQ _) (GB hu),trivial⟩ hA fun a w hA => ?_
     simp only[EA.out,Exit.then,Exit.inBlock,if_true];refine aA aH hT (hq _) (Me w0.heap.size sb C i (NN ac u.bit) u.next) ⟨dT (k:=1) (by omega),trivial⟩ hA fun a w hA => ?_
     exact ih (i+1) u.next (NN ac u.bit) a w (by omega) hu.next (VI hu) hw hA
 exact key C 0 s 0 a w (by omega) hs (by decide) hw hA
def Cs (P:Program) (T:Tab5) (base:Nat) (w:World):Prop:=∀f cs pre j r l,T f cs=some (pre,j,r,l)→aW pre→(∀args w,(callFunc f args).run P w=.ok (.enter f args) w) ∧
 ∀(args:List Value),dV w cs args→∀b o,args[j]?=some (.pointer (some ⟨b,o,none⟩))→(∀q,w.frozen? ⟨b,q,none⟩=false)→base≤b→Calls P f args.toArray w (fun e w'=>e=.returned r.den∧WrC w w' b∧w'.rangeAt b 0 (aB l))
theorem PT {P:Program} {ld st:Nat→Option (List At)} {idx:Nat→Option Nat} {gen:Nat→Option Value} {T5:Tab5} {base:Nat} {w0:World} (h5:∀w',Below base w0 w'→Cs P T5 base w'):bD P (Nk P ld st idx gen T5) base w0 :=
 ⟨(bM P).1,fun w' hb=>⟨fun _ _ _ h=>h.elim,fun _ _ _ _ h=>(by cases h),fun _ _ _ _ h=>(by cases h),fun _ _ _ _ _ h=>(by cases h),fun f cs pre j r l hg hp=>h5 w' hb f cs pre j r l hg hp,fun _ _ _ _ _ _ _ h=>(by cases h)⟩⟩
def vL (f:Nat) (g:List CA→Option (List Prop×Nat×RV×List At)):Tab5:=iA.add f g
theorem CP {P:Program} {f:Nat} {fn:Func} {base:Nat} {w:World} (hf:P.funcs[f]?=some fn) (hn:(fn.name == "runtime.NumGoroutine")=false) (hb:fn.body.isNone=false) {g:List CA→Option (List Prop×Nat×RV×List At)}
  (h:∀cs pre j r l,g cs=some (pre,j,r,l)→aW pre→∀(args:List Value),dV w cs args→∀b o,args[j]?=some (.pointer (some ⟨b,o,none⟩))→(∀q,w.frozen? ⟨b,q,none⟩=false)→base≤b →
   Calls P f args.toArray w (fun e w'=>e=.returned r.den∧WrC w w' b∧w'.rangeAt b 0 (aB l))):Cs P (vL f g) base w:=by
 intro f' cs pre j r l hg hp;unfold vL Tab5.add at hg;cases hb':Nat.beq f' f<;>rw[hb']at hg
 ·cases hg
 ·cases Nat.eq_of_beq_eq_true hb';exact⟨bG hf hn hb,h cs pre j r l hg hp⟩
def Gy (l0:List At) (v0:Value) (r:RV) (l1:List At):List CA→Option (List Prop×Nat×RV×List At)
 | [.p l 0,.v (.im v)]=>some ([l=l0,v=v0],0,r,l1)
 | _=>none
theorem OA {s t:St} {C v:Nat} (hs:s.ok) (hC:C<4611686018427387904) (hw:wrd C s 0=some (v,t)) {base:Nat} {w:World} (hD:Dbj w) (hB:0<base):Cs prog (vL 63 (Gy s.row (iI C) (.one (.im (u6 v))) t.row)) base w :=
 CP func63 (by kernel_rfl) (by kernel_rfl) fun cs pre j r l hg hp args ha b o hj hz hle=>by
  unfold Gy at hg;split at hg
  ·cases hg;obtain⟨rfl,rfl,_⟩:=hp
   match args,ha with
   | [x,y],ha =>
    obtain⟨⟨b',rfl,h1,h2⟩,h3,_⟩:=ha;cases hj;have h3:y=iI C:=h3;subst h3;exact OB hs hC hw hD (Nat.lt_of_lt_of_le hB hle) ⟨h1,h2,hz⟩
   | [],ha=>exact ha.elim
   | [_],ha=>exact ha.2.elim
   | _::_::_::_,ha=>exact ha.2.2.elim
  ·cases hg
noncomputable abbrev coF:Func:=f51
def sZ:Code:=(f51.body).getD .skip
def Ds:Code:=gV (gV (gV (cB sZ)))
def sY:Code:=gV (gV (cB (cA (cB Ds))))
theorem Bu:sZ=.seq (cA sZ) (.block 0 (.loop (.block 1 (.seq (cA Ds) (.seq (.seq (cA (cA (cB Ds))) (.block 2 (.loop sY))) (cB (cB Ds))))))):=by kernel_rfl
theorem Sx:coF.ntmps=21:=by kernel_rfl
def rC (a b c d:Nat):List At:=[.c (u6 a),.c (u6 b),.c (u6 c),.c (u6 d)]
def zC:List At:=[.f ⟨0,fM⟩]
def To (N sb:Nat) (s:St):List Fact:=[.slot 0 (.pt 0 0),.row 0 true s.row,.at 0 sb,.at 21 N,.slot 2 (.pt 2 0),.row 2 true zC]
def Vn (N sb:Nat) (s:St) (r:List At):List Fact:=[.slot 0 (.pt 0 0),.row 0 true s.row,.at 0 sb,.at 21 N,.slot 2 (.pt 2 0),.row 2 true zC,.slot 3 (.pt 3 0),.row 3 true r]
def CT (N sb:Nat) (s:St) (r:List At) (i:Nat):List Fact:=.slot 8 (.im (iI i))::Vn N sb s r
def qC (idx:Nat→Option Nat) (ld st:Nat→Option (List At)) (T5:Tab5):EqT:=Nk prog ld st idx (fun _=>none) T5
def VM (s t:St) (C v:Nat):Tab5:=vL 63 (Gy s.row (iI C) (.one (.im (u6 v))) t.row)
theorem Sr (N sb:Nat) (s:St):aJ prog (qC (fun _=>none) (fun _=>none) (fun _=>none) iA) 21 (fun _=>tC T0 fun _=>none) 60 (cA sZ) (NA 21 sb N 0 s.row []) (To N sb s)=some ([],.nrm,To N sb s):=by kernel_rfl
theorem Sq (N sb v:Nat) (s t:St):aJ prog (qC (fun _=>none) (aD [(7,rC 0 0 0 v)]) (fun _=>none) (VM s t 62 v)) 21 (fun _=>tC T0 fun _=>none) 60 (cA Ds) (To N sb s) (Vn N sb t (rC 0 0 0 v))=some ([s.row=s.row,iI 62=iI 62,aB (rC 0 0 0 v)=aB (rC 0 0 0 v)],.nrm,Vn N sb t (rC 0 0 0 v)):=by kernel_rfl
theorem Sp (N sb:Nat) (s:St) (r:List At):aJ prog (qC (fun _=>none) (fun _=>none) (fun _=>none) iA) 21 (fun _=>tC T0 fun _=>none) 60 (cA (cA (cB Ds))) (Vn N sb s r) (CT N sb s r 0)=some ([],.nrm,CT N sb s r 0):=by kernel_rfl
theorem Sv (N sb v a b c d:Nat) (s t:St):aJ prog (qC (fun _=>none) (fun _=>none) (fun _=>none) (VM s t 64 v)) 21 (fun _=>tC T0 fun _=>none) 60 sY (CT N sb s (rC a b c d) 0) (CT N sb t (rC a b v d) 1)=some ([s.row=s.row,iI 64=iI 64],.nrm,CT N sb t (rC a b v d) 1):=by kernel_rfl
theorem Su (N sb v a b c d:Nat) (s t:St):aJ prog (qC (fun _=>none) (fun _=>none) (fun _=>none) (VM s t 64 v)) 21 (fun _=>tC T0 fun _=>none) 60 sY (CT N sb s (rC a b c d) 1) (CT N sb t (rC a v c d) 2)=some ([s.row=s.row,iI 64=iI 64],.nrm,CT N sb t (rC a v c d) 2):=by kernel_rfl
theorem Ss (N sb v a b c d:Nat) (s t:St):aJ prog (qC (fun _=>none) (fun _=>none) (fun _=>none) (VM s t 64 v)) 21 (fun _=>tC T0 fun _=>none) 60 sY (CT N sb s (rC a b c d) 2) (CT N sb t (rC v b c d) 3)=some ([s.row=s.row,iI 64=iI 64],.nrm,CT N sb t (rC v b c d) 3):=by kernel_rfl
theorem Zm (N sb:Nat) (s:St) (r:List At):aJ prog (qC (fun _=>none) (fun _=>none) (fun _=>none) iA) 21 (fun _=>tC T0 fun _=>none) 60 sY (CT N sb s r 3) (CT N sb s r 3)=some ([],.ex 2,CT N sb s r 3):=by kernel_rfl
def Yz (x:Nat) (z:Bool):kE
 | [.s l 1 1]=>some ([aB l=aB [At.q x],x<cU,decide (x<RM)=z],.one (.im (.bool z)))
 | _=>none
def Kx (x:Nat) (z:Bool):Tab:=T0.add 18 (Yz x z)
theorem Sw (N sb a b c d x:Nat) (s:St):aJ prog (qC (fun _=>none) (fun _=>none) (fun _=>none) iA) 21 (fun _=>tC (Kx x true) fun _=>none) 60 (cB (cB Ds)) (CT N sb s (rC a b c d) 3) [.slot 2 (.pt 2 0),.row 2 true (rC a b c d),.row 0 true s.row,.at 0 sb,.at 21 N]=some ([aB (rC a b c d)=aB [At.q x],x<cU,decide (x<RM)=true],.rt,[.slot 2 (.pt 2 0),.row 2 true (rC a b c d),.row 0 true s.row,.at 0 sb,.at 21 N]):=by kernel_rfl
theorem Sy (N sb a b c d x:Nat) (s:St):aJ prog (qC (fun _=>none) (fun _=>none) (fun _=>none) iA) 21 (fun _=>tC (Kx x false) fun _=>none) 60 (cB (cB Ds)) (CT N sb s (rC a b c d) 3) (To N sb s)=some ([aB (rC a b c d)=aB [At.q x],x<cU,decide (x<RM)=false],.nrm,To N sb s):=by kernel_rfl
theorem Iv {w:World} (x:Nat) (z:Bool):∀cs pre r,Yz x z cs=some (pre,r)→aW pre→∀(args:List Value),dV w cs args→bU prog 18 r args w:=by
 intro cs pre r hg hp args ha;unfold Yz at hg;split at hg
 ·rename_i l;cases hg;obtain⟨h1,h2,h3,_⟩:=hp
  match args,ha with
  | [v],ha =>
   have hv:LV w v 1 (fun _=>x):=LV.ofS (N:=1) (f:=fun _=>x) ha.1 h1 rfl (Nat.le_refl _) (fun _ _=>h2);have:=mE hv (by decide);have e:decide (gY 1 fun _=>x)=z:=by
    rw[←h3];have:gY 1 (fun _=>x)↔x<RM:=⟨fun h=>h 0 (by decide),fun h _ _=>h⟩;exact decide_eq_decide.2 this
   rw[e]at this;exact this
  | [],ha=>exact ha.elim
  | _::_::_,ha=>exact ha.2.elim
 ·cases hg
theorem KN (x:Nat) (z:Bool) {base:Nat} {w0:World}:TabOkW prog (Kx x z) base w0 :=
 TabOkW.add ((bH _).w _ _) func18 (by kernel_rfl) (by kernel_rfl) (fun w _=>Iv x z)
theorem Wq {a b c d:Nat} (h:bY a b c d):aB (rC a b c d)=aB [At.q (aC a b c d)]∧aC a b c d<cU:=by
 have hx:aC a b c d<cU:=by
  obtain⟨h1,h2,h3,h4⟩:=h;unfold aC;show _<115792089237316195423570985008687907853269984665640564039457584007913129639936;omega
 obtain⟨e0,e1,e2,e3⟩:=nX h hx rfl;refine⟨?_,hx⟩;show [u6 a,u6 b,u6 c,u6 d]=w4 (aC a b c d)++[];unfold w4;rw[←e0,←e1,←e2,←e3];rfl
theorem UE {n x:Nat} {s t:St} (hs:s.ok) (hc:cst n s=some (x,t)) {w0:World} {sb:Nat} (hD:Dbj w0) (hg:0<sb) (hO:Own w0 sb s.row) :
  t.ok∧x<RM∧Calls prog 51 (ptV sb 0::[]).toArray w0 (Wr sb w0 (.one (.fl [.q x])) t.row):=by
 have hcs:t.ok∧x<RM:=by
  clear hD hg hO
  induction n generalizing s with
  | zero=>cases hc
  | succ n ih =>
   unfold cst at hc;split at hc
   ·rename_i y u hu;obtain⟨a,b,c,d,s1,s2,s3,h1,h2,h3,h4,rfl⟩:=mD hu;have k1:=eI _ hs (by decide) h1;have k2:=eI _ k1.1 (by decide) h2;have k3:=eI _ k2.1 (by decide) h3;have k4:=eI _ k3.1 (by decide) h4;cases hb:Nat.blt (aC a b c d) RM<;>rw[hb]at hc
    ·exact ih k4.1 hc
    ·cases hc;exact⟨k4.1,by simpa using hb⟩
   ·cases hc
 refine⟨hcs.1,hcs.2,?_⟩;have hT:∀n d:Nat,TabOkW prog T0 sb w0:=fun _ _=>(bH _).w _ _
 have hq:∀idx ld st,bD prog (qC idx ld st iA) sb w0:=fun _ _ _=>mP (nA _) _ _
 have hqw:∀{s t:St} {C v:Nat} idx ld st,s.ok→C<4611686018427387904→wrd C s 0=some (v,t)→bD prog (qC idx ld st (VM s t C v)) sb w0:=fun _ _ _ h1 h2 h3=>PT fun w' hb=>OA h1 h2 h3 (hD.on hg hb) hg
 have hnt:f51.ntmps=21:=Sx;refine uV (ts:=[]) func51 (c:=sZ) rfl hO (Nat.le_of_ble_eq_true (by kernel_rfl)) fun a w hA => ?_
 rw[hnt]at hA;rw[Bu];refine wp_seq (aA aH hT (hq _ _ _) (Sr w0.heap.size sb s) trivial hA fun a1 v1 hA1 => ?_);refine wp_block ?_;refine dI (n:=n) ?_;clear hO hA a w
 induction n generalizing s a1 v1 with
 | zero=>cases hc
 | succ n ih =>
  unfold cst at hc;split at hc
  ·rename_i y u hu;obtain⟨w0',w1',w2',w3',s1,s2,s3,h1,h2,h3,h4,rfl⟩:=mD hu;have k1:=eI _ hs (by decide) h1;have k2:=eI _ k1.1 (by decide) h2;have k3:=eI _ k2.1 (by decide) h3;have k4:=eI _ k3.1 (by decide) h4;obtain⟨hfl,hlt⟩:=Wq (a:=w0') (b:=w1') (c:=w2') (d:=w3') ⟨k4.2,k3.2,k2.2,k1.2⟩;unfold Un;refine wp_block ?_;refine wp_seq (aA aH hT (hqw _ _ _ hs (by decide) h1) (Sq w0.heap.size sb w3' s s1) ⟨rfl,rfl,rfl,trivial⟩ hA1 fun a w hA => ?_);refine wp_seq (wp_seq (aA aH hT (hq _ _ _) (Sp w0.heap.size sb s1 _) trivial hA fun a w hA => ?_));refine wp_block (dI (n:=4) ?_);unfold Un;refine aA aH hT (hqw _ _ _ k1.1 (by decide) h2) (Sv w0.heap.size sb w2' 0 0 0 w3' s1 s2) ⟨rfl,rfl,trivial⟩ hA fun a w hA => ?_
   simp only[EA.out,Exit.then];unfold Un;refine aA aH hT (hqw _ _ _ k2.1 (by decide) h3) (Su w0.heap.size sb w1' 0 0 w2' w3' s2 s3) ⟨rfl,rfl,trivial⟩ hA fun a w hA => ?_
   simp only[EA.out,Exit.then];unfold Un;refine aA aH hT (hqw _ _ _ k3.1 (by decide) h4) (Ss w0.heap.size sb w0' 0 w1' w2' w3' s3 u) ⟨rfl,rfl,trivial⟩ hA fun a w hA => ?_
   simp only[EA.out,Exit.then];unfold Un;refine aA aH hT (hq _ _ _) (Zm w0.heap.size sb u (rC w0' w1' w2' w3')) trivial hA fun a w hA => ?_
   simp only[EA.out,Exit.then,Exit.inBlock,if_true];cases hb:Nat.blt (aC w0' w1' w2' w3') RM<;>rw[hb]at hc
   ·have hnb:¬aC w0' w1' w2' w3'<RM:=fun h=>by
     have:Nat.blt (aC w0' w1' w2' w3') RM=true:=by simpa using h
     rw[hb]at this; cases this
    refine aA aH (fun _ _=>KN _ _) (hq _ _ _) (Sy w0.heap.size sb w0' w1' w2' w3' (aC w0' w1' w2' w3') u) ⟨hfl,hlt,decide_eq_false hnb,trivial⟩ hA fun a w hA => ?_
    simp only[EA.out,Exit.then,Exit.inBlock];exact ih k4.1 hc _ _ hA
   ·cases hc;have hyb:aC w0' w1' w2' w3'<RM:=by simpa using hb
    refine aA aH (fun _ _=>KN _ _) (hq _ _ _) (Sw w0.heap.size sb w0' w1' w2' w3' (aC w0' w1' w2' w3') t) ⟨hfl,hlt,decide_eq_true hyb,trivial⟩ hA fun a w hA => ?_
    simp only[EA.out,Exit.then,Exit.inBlock];refine bR (l:=[.fl (rC w0' w1' w2' w3')]) (r:=.one (.fl (rC w0' w1' w2' w3'))) (by kernel_rfl) (by kernel_rfl) hA ⟨?_,hA.wrc (by simp) (by simp) (by simp)⟩;show Ending.returned (.agg (aB (rC w0' w1' w2' w3')).toArray)=Ending.returned (.agg (aB [At.q _]).toArray);rw[hfl]
  ·cases hc
theorem SO (n:Int):bits .and .i64 n 1=n%2:=by
 have h1:(BitVec.ofInt 64 1).toNat=2^1-1:=by decide
 have key:(BitVec.ofInt 64 n &&& BitVec.ofInt 64 1).toNat=(n%((2^64:Nat):Int)).toNat%2^1:=by
  rw[BitVec.toNat_and,BitVec.toNat_ofInt,h1,Nat.and_two_pow_sub_one_eq_mod]
 show IntKind.i64.wrap ((BitVec.ofInt 64 n &&& BitVec.ofInt 64 1).toNat:Nat)=n%2;rw[key,IntKind.wrap_i64];omega
theorem XM (t:Nat) (x y:Operand) (a:Nat):fN .and t x y (iI a) (iI 1) (iI (a%2)):=fun w=>by
 have h:=SO (a:Int);simp[eqGuard,binOp,go_sem,iI,h]
theorem Ft (t:Nat) (x y:Operand) {a k:Nat} (ha:a<4611686018427387904) (hk:k≤62):fN .shr t x y (iI a) (iI k) (iI (a/2^k)):=fun w=>by
 have h:IntKind.i64.wrap ((a/2^k:Nat):Int)=((a/2^k:Nat):Int):=iJ (Nat.lt_of_le_of_lt (Nat.div_le_self _ _) (by omega));simp[eqGuard,binOp,go_sem,iI,Nat.min_eq_left (show k≤64 by omega)]
theorem MH {P:Program} {w:World} {R:Ending→World→Prop} {f:FuncId} {fn:Func} (hf:P.funcs[f]?=some fn) {c:Code} (hb:fn.body=some c) {b2 b3:Nat} {l2 l3:List At} {v0 v1:Value} (h2:Own w b2 l2) (h3:Own w b3 l3) (hlt:b2<b3) (hn:4≤fn.ntmps)
  (h:∀a w',Holds fn.ntmps b2 w [.slot 0 (.im v0),.slot 1 (.im v1),.slot 2 (.pt 2 0),.row 2 true l2,.slot 3 (.pt 3 0),.row 3 true l3,.at 2 b2,.at 3 b3,.at fn.ntmps (b2+1)] a w'→c.wp P (bodyPost P fn R) a w'):Calls P f [v0,v1,ptV b2 0,ptV b3 0].toArray w R:=by
 refine calls_of_wp hf hb (h _ _ ?_);have hg:∀j u,[v0,v1,ptV b2 0,ptV b3 0][j]?=some u→([v0,v1,ptV b2 0,ptV b3 0].toArray++Array.replicate (fn.ntmps-[v0,v1,ptV b2 0,ptV b3 0].toArray.size) undef)[j]?=some u:=fun j u hj=>by
  have hlt:=(List.getElem?_eq_some_iff.1 hj).1;rw[Array.getElem?_append_left (by simpa using hlt)];simpa using hj
 have z2:(fun k=>if k=fn.ntmps then ((b2+1,0,0):Bk)else if k=3 then (b3,0,0)else (b2,0,0)) 2=(b2,0,0):=by
  show (if 2=fn.ntmps then _ else _)=_;rw[if_neg (by omega),if_neg (by decide)]
 have z3:(fun k=>if k=fn.ntmps then ((b2+1,0,0):Bk)else if k=3 then (b3,0,0)else (b2,0,0)) 3=(b3,0,0):=by
  show (if 3=fn.ntmps then _ else _)=_;rw[if_neg (by omega),if_pos rfl]
 have zn:(fun k=>if k=fn.ntmps then ((b2+1,0,0):Bk)else if k=3 then (b3,0,0)else (b2,0,0)) fn.ntmps=(b2+1,0,0):=if_pos rfl;generalize (fun k=>if k=fn.ntmps then ((b2+1,0,0):Bk)else if k=3 then (b3,0,0)else (b2,0,0))=β at z2 z3 zn;have hrow:∀k o l,Fact.row k o l∈([.slot 0 (.im v0),.slot 1 (.im v1),.slot 2 (.pt 2 0),.row 2 true l2,.slot 3 (.pt 3 0),.row 3 true l3,.at 2 b2,.at 3 b3,.at fn.ntmps (b2+1)]:List Fact)→k=2∨k=3:=fun k o l h=>by
  simp only[List.mem_cons,reduceCtorEq,Fact.row.injEq,false_or,List.not_mem_nil,or_false]at h
  rcases h with h|h
  ·exact Or.inl h.1
  ·exact Or.inr h.1
 refine⟨rfl,by simp; omega,Below.refl _ _,Nat.le_of_lt h2.lt,β,fun φ hφ => ?_,fun k k' o' l1 l2 e1 e2 hne => ?_,fun k l1 e1 => ?_,by rw[zn]; exact h2.lt,fun p q1 q2=>(by rw[zn]at q2; simp only at q2; omega),Shape.refl _⟩
 ·simp only[List.mem_cons,List.not_mem_nil,or_false]at hφ
  rcases hφ with rfl|rfl|rfl|rfl|rfl|rfl|rfl|rfl|rfl
  ·exact hg 0 _ rfl
  ·exact hg 1 _ rfl
  ·refine (hg 2 _ rfl).trans ?_;simp[AV.den,z2,ptV]
  ·refine⟨?_,?_,fun _=>⟨?_,?_,?_⟩,fun h=>by cases h⟩<;>rw[z2]
   ·exact h2.lt
   ·exact h2.row
   ·exact Nat.le_refl _
   ·exact h2.free
  ·refine (hg 3 _ rfl).trans ?_;simp[AV.den,z3,ptV]
  ·refine⟨?_,?_,fun _=>⟨?_,?_,?_⟩,fun h=>by cases h⟩<;>rw[z3]
   ·exact h3.lt
   ·exact h3.row
   ·exact Nat.le_of_lt hlt
   ·exact h3.free
  ·exact⟨by rw[z2],by rw[z2]⟩
  ·exact⟨by rw[z3],by rw[z3]⟩
  ·exact⟨by rw[zn],by rw[zn]⟩
 ·rcases hrow _ _ _ e1 with rfl|rfl<;>rcases hrow _ _ _ e2 with rfl|rfl
  ·exact (hne rfl).elim
  ·rw[z2,z3]; simp only; omega
  ·rw[z2,z3]; simp only; omega
  ·exact (hne rfl).elim
 ·rcases hrow _ _ _ e1 with rfl|rfl
  ·rw[z2]; exact Or.inl rfl
  ·rw[z3,zn]; exact Or.inr hlt
theorem Holds.own {nt base:Nat} {w0:World} {A:List Fact} {a:Act} {w:World} (h:Holds nt base w0 A a w) {k b:Nat} {l:List At} (h1:Fact.row k true l∈A) (h2:Fact.at k b∈A):Own w b l:=by
 obtain⟨β,g1,_⟩:=h.facts;obtain⟨e1,e2,e3,_⟩:=g1 _ h1;obtain⟨_,e5,e6⟩:=e3 rfl;have e7:=g1 _ h2;simp only[Fact.ok]at e7;rw[e5,e7.1]at e2;exact⟨by rw[←e7.1]; exact e1,e2,fun j=>by rw[←e7.1]; exact e6 j⟩
noncomputable abbrev laF:Func:=f61
def sE:Code:=(f61.body).getD .skip
def sD:Code:=gV (gV (cB sE))
theorem Ah:sE=.seq (cA sE) (.block 0 (.loop sD)):=by kernel_rfl
theorem Qd:laF.ntmps=33:=by kernel_rfl
def lA (n c p b2 b3:Nat) (s:St):List Fact:=[.slot 0 (.im (iI n)),.slot 1 (.im (iI c)),.slot 2 (.pt 2 0),.row 2 true s.row,.slot 3 (.pt 3 0),.row 3 true [.c (iI p)],.at 2 b2,.at 3 b3,.at 33 (b2+1)]
def lF (n c i p b2 b3:Nat) (s:St):List Fact:=.slot 7 (.im (iI c)) :: .slot 8 (.im (iI i))::lA n c p b2 b3 s
def SF (c i p:Nat) (z:Bool):Nat→Option Value:=aD [(9,.bool z),(12,iI (p/64)),(18,iI (c-1)),(20,iI (c-1-i)),(25,iI (p%64)),(31,iI (p+1)),(32,iI (i+1))]
def Dm (n c i p x:Nat):Nat→Option Value:=aD [(21,iI (n/2^(c-1-i))),(22,iI (sC n c i)),(23,u6 (sC n c i)),(26,u6 (kT n c i p)),(27,u6 (x ||| kT n c i p))]
def qL (idx:Nat→Option Nat) (gen:Nat→Option Value):EqT:=Nk prog (fun _=>none) (fun _=>none) idx gen iA
theorem Qa (n c p b2 b3:Nat) (s:St):aJ prog (qL (fun _=>none) (fun _=>none)) 33 (fun _=>tC T0 fun _=>none) 60 (cA sE) (lA n c p b2 b3 s) (lF n c 0 p b2 b3 s)=some ([],.nrm,lF n c 0 p b2 b3 s):=by kernel_rfl
theorem Yj (n c i p b2 b3:Nat) (s:St):aJ prog (qL (fun _=>none) (fun _=>none)) 33 (fun _=>tC T0 (SF c i p false)) 60 sD (lF n c i p b2 b3 s) (lF n c i p b2 b3 s)=some ([aF .lss .i64 (Int.ofNat i) (Int.ofNat c)=some (.bool false)],.ex 0,lF n c i p b2 b3 s):=by kernel_rfl
def Yk (n c i p x j:Nat):List Prop:=[aF .lss .i64 (Int.ofNat i) (Int.ofNat c)=some (.bool true),aF .quo .i64 (Int.ofNat p) 64=some (iI (p/64)),Int.ofNat (p/64)=Int.ofNat j,j<2,aF .sub .i64 (Int.ofNat c) 1=some (iI (c-1)),aF .sub .i64 (Int.ofNat (c-1)) (Int.ofNat i)=some (iI (c-1-i)),fN .shr 3 (.tmp 16) (.tmp 20) (iI n) (iI (c-1-i)) (iI (n/2^(c-1-i))),fN .and 3 (.tmp 21) (.const (iI 1)) (iI (n/2^(c-1-i))) (iI 1) (iI (sC n c i)),∀w:World,(convert 3 32 (iI (sC n c i))).run prog w=.ok (u6 (sC n c i)) w,aF .rem .i64 (Int.ofNat p) 64=some (iI (p%64)),fN .shl 32 (.tmp 23) (.tmp 25) (u6 (sC n c i)) (iI (p%64)) (u6 (kT n c i p)),fN .or 32 (.tmp 15) (.tmp 26) (u6 x) (u6 (kT n c i p)) (u6 (x ||| kT n c i p)),Int.ofNat (p/64)=Int.ofNat j,j<2,aF .add .i64 (Int.ofNat p) 1=some (iI (p+1)),aF .add .i64 (Int.ofNat i) 1=some (iI (i+1))]
theorem Qc (n c i p b2 b3 lo hi fr gv:Nat):aJ prog (qL (aD [(14,0),(29,0)]) (Dm n c i p lo)) 33 (fun _=>tC T0 (SF c i p true)) 60 sD (lF n c i p b2 b3 ⟨lo,hi,fr,gv⟩) (lF n c (i+1) (p+1) b2 b3 ⟨lo ||| kT n c i p,hi,fr,gv⟩)=some (Yk n c i p lo 0,.nrm,lF n c (i+1) (p+1) b2 b3 ⟨lo ||| kT n c i p,hi,fr,gv⟩):=by kernel_rfl
theorem Qb (n c i p b2 b3 lo hi fr gv:Nat):aJ prog (qL (aD [(14,1),(29,1)]) (Dm n c i p hi)) 33 (fun _=>tC T0 (SF c i p true)) 60 sD (lF n c i p b2 b3 ⟨lo,hi,fr,gv⟩) (lF n c (i+1) (p+1) b2 b3 ⟨lo,hi ||| kT n c i p,fr,gv⟩)=some (Yk n c i p hi 1,.nrm,lF n c (i+1) (p+1) b2 b3 ⟨lo,hi ||| kT n c i p,fr,gv⟩):=by kernel_rfl
theorem ZT {p:Nat} (h:p<128):aF .quo .i64 (Int.ofNat p) 64=some (iI (p/64)):=by
 show (if (64:Int)=0 then none else some (Value.int .i64 (IntKind.i64.wrap ((p:Int).tdiv 64))))=_;rw[if_neg (by decide)];have h1:(p:Int).tdiv 64=((p/64:Nat):Int):=by rw[Int.tdiv_eq_ediv_of_nonneg (by omega)]; rfl
 rw[h1,iJ (by omega)];rfl
theorem ZS {p:Nat}:aF .rem .i64 (Int.ofNat p) 64=some (iI (p%64)):=by
 show (if (64:Int)=0 then none else some (Value.int .i64 ((p:Int).tmod 64)))=_;rw[if_neg (by decide)];have h1:(p:Int).tmod 64=((p%64:Nat):Int):=by rw[Int.tmod_eq_emod_of_nonneg (by omega)]; rfl
 rw[h1];rfl
theorem Ad (n c i:Nat):sC n c i<2:=Nat.mod_lt _ (by decide)
theorem SG {n c i p x:Nat} (hn:n<4611686018427387904) (hc:c≤62) (hi:i<c) (hp:p<128) (hx:x<eH):aW (Yk n c i p x (p/64)):=by
 have h2:p/64<2:=by omega
 exact⟨bZ hi,ZT hp,rfl,h2,AN (i:=c) (k:=1) (by omega) (by omega),AN (i:=c-1) (k:=i) (by omega) (by omega),Ft _ _ _ hn (by omega),XM _ _ _ _,FX (by have:=Ad n c i; omega),ZS,PH _ _ _ _ (by omega),PI _ _ _ hx (xB _ _ _ _),rfl,h2,dT (k:=1) (by omega),dT (k:=1) (by omega),trivial⟩
theorem SE {n c p:Nat} {s:St} (hs:s.ok) (hn:n<4611686018427387904) (hc:c≤62) (hp:p+c≤128) {w0:World} {b2 b3:Nat} (h2:Own w0 b2 s.row) (h3:Own w0 b3 [.c (iI p)]) (hlt:b2<b3) :
  Calls prog 61 [iI n,iI c,ptV b2 0,ptV b3 0].toArray w0 fun e w'=>e=.returned (.tuple #[])∧Below b2 w0 w'∧Own w' b2 (jY n c c 0 p s).row∧Own w' b3 [.c (iI (p+c))]∧Shape w0 w':=by
 have hT:∀n d:Nat,TabOkW prog T0 b2 w0:=fun _ _=>(bH _).w _ _
 have hq:∀idx gen,bD prog (qL idx gen) b2 w0:=fun _ _=>mP (nA _) _ _
 have hnt:f61.ntmps=33:=Qd;refine MH func61 (c:=sE) rfl h2 h3 hlt (Nat.le_of_ble_eq_true (by kernel_rfl)) fun a w hA => ?_
 rw[hnt]at hA;rw[Ah];refine wp_seq (aA aH hT (hq _ _) (Qa n c p b2 b3 s) trivial hA fun a1 w1 hA1 => ?_);refine wp_block (dI (n:=c+1) ?_);have key:∀m i q (s:St) a w,i+m=c→q+m=p+c→s.ok→Holds 33 b2 w0 (lF n c i q b2 b3 s) a w→Un prog sD (Exit.inBlock 0 (bodyPost prog f61 fun e w'=>e=.returned (.tuple #[])∧Below b2 w0 w'∧Own w' b2 (jY n c m i q s).row∧Own w' b3 [.c (iI (p+c))]∧Shape w0 w')) (m+1) a w:=by
  intro m
  induction m with
  | zero =>
   intro i q s a w hi hq' hs hA;unfold Un;refine aA aH hT (hq _ _) (Yj n c i q b2 b3 s) ⟨bV (by omega),trivial⟩ hA fun a w hA => ?_
   simp only[EA.out,Exit.then,Exit.inBlock,if_true];have hqe:q=p+c:=by omega
   subst hqe;exact⟨hA.defers,.tuple #[],by simp[results,show f61.results = #[] by kernel_rfl],rfl,hA.below,hA.own (k:=2) (by simp[lF,lA,jY]) (by simp[lF,lA]),hA.own (k:=3) (by simp[lF,lA]) (by simp[lF,lA]),hA.shape⟩
  | succ m ih =>
   intro i q s a w hi hq' hs hA;have h1:=hs.lay1 n c i q;have key2:=ih (i+1) (q+1) (lay1 n c i q s);obtain⟨lo,hi',fr,gv⟩:=s;unfold Un
   by_cases e:q/64=0
   ·have hC:=SG (x:=lo) hn hc (i:=i) (by omega) (p:=q) (by omega) hs.lo;rw[e]at hC;refine aA aH hT (hq _ _) (Qc n c i q b2 b3 lo hi' fr gv) hC hA fun a w hA => ?_
    simp only[EA.out,Exit.then];have hl:lay1 n c i q ⟨lo,hi',fr,gv⟩=⟨lo ||| kT n c i q,hi',fr,gv⟩:=if_pos e;have:=key2 a w (by omega) (by omega) h1 (by rw[hl]; exact hA);exact this
   ·have hC:=SG (x:=hi') hn hc (i:=i) (by omega) (p:=q) (by omega) hs.hi;rw[show q/64=1 by omega]at hC;refine aA aH hT (hq _ _) (Qb n c i q b2 b3 lo hi' fr gv) hC hA fun a w hA => ?_
    simp only[EA.out,Exit.then];have hl:lay1 n c i q ⟨lo,hi',fr,gv⟩=⟨lo,hi' ||| kT n c i q,fr,gv⟩:=if_neg e;have:=key2 a w (by omega) (by omega) h1 (by rw[hl]; exact hA);exact this
 exact key c 0 p s a1 w1 (by omega) rfl hs hA1
theorem Own.wr {w w':World} {b c:Nat} {l:List At} (h:Own w b l) (hW:WrC w w' c) (hne:b≠c):Own w' b l :=
 ⟨Nat.lt_of_lt_of_le h.lt hW.below.size,fun j v hj=>((hW.mem ⟨b,0+j,none⟩ h.lt hne).1).trans (h.row j v hj),fun j=>((hW.mem ⟨b,j,none⟩ h.lt hne).2).trans (h.free j)⟩
theorem Own.eq {w:World} {b:Nat} {l l':List At} (h:Own w b l) (e:aB l=aB l'):Own w b l':=⟨h.lt,by rw[←e]; exact h.row,h.free⟩
theorem Own.below {w w':World} {b c:Nat} {l:List At} (h:Own w b l) (hb:Below c w w') (hlt:b<c):Own w' b l :=
 ⟨Nat.lt_of_lt_of_le h.lt hb.size,fun j v hj=>(hb.cell (p:=⟨b,0+j,none⟩) hlt).trans (h.row j v hj),fun j=>(hb.frozen (p:=⟨b,j,none⟩) hlt).trans (h.free j)⟩
theorem oldOf.below {w w':World} {b c o:Nat} {l:List At} (h:oldOf w b o l) (hb:Below c w w') (hlt:b<c):oldOf w' b o l :=
 ⟨Nat.lt_of_lt_of_le h.1 hb.size,fun j v hj=>(hb.cell (p:=⟨b,o+j,none⟩) hlt).trans (h.2 j v hj)⟩
theorem Holds.ptS {nt base:Nat} {w0:World} {A:List Fact} {a:Act} {w:World} (h:Holds nt base w0 A a w) {s k b o:Nat} (h1:Fact.slot s (.pt k o)∈A) (h2:Fact.at k b∈A):a.tmps[s]?=some (Go.Proofs.YtpbljiejmfahcaaDoor.Ex.ptV b o):=by
 obtain⟨β,g1,_⟩:=h.facts;have e1:=g1 _ h1;have e2:=g1 _ h2;simp only[Fact.ok]at e1 e2;rw[e1];simp[AV.den,e2,Go.Proofs.YtpbljiejmfahcaaDoor.Ex.ptV]
theorem Holds.geq {nt base:Nat} {w0:World} {A:List Fact} {a:Act} {w:World} (h:Holds nt base w0 A a w) {k b:Nat} {l:List At} (h1:Fact.row k true l∈A) (h2:Fact.at k b∈A):base≤b:=by
 obtain⟨β,g1,_⟩:=h.facts;obtain⟨_,_,e3,_⟩:=g1 _ h1;have e7:=g1 _ h2;simp only[Fact.ok]at e7;rw[←e7.1];exact (e3 rfl).1
def rR (wd fl pt:Nat):List At:=[.c (iI wd),.c (iI fl),.c (iI pt)]
def yB (sb pb:Nat):Value:=.func (.func 61) #[] #[ptV sb 0,ptV pb 0]
noncomputable abbrev bgF:Func:=f50
def xX:Code:=(f50.body).getD .skip
theorem Tv:bgF.ntmps=32:=by kernel_rfl
def Xy (c:Code):Nat→Code
 | 0=>c
 | n+1=>Xy (cB c) n
def kD (i:Nat):Code:=cA (Xy xX i)
def Kb:Code:=Xy xX 11
def GC:Code:=gV (gV (cB (cA Kb)))
theorem Cg:xX=.seq (kD 0) (.seq (kD 1) (.seq (kD 2) (.seq (kD 3) (.seq (.region 4 (aE (kD 4)) false) (.seq (.region 5 (aE (kD 5)) false) (.seq (.region 6 (aE (kD 6)) false) (.seq (.region 7 (aE (kD 7)) false) (.seq (.region 8 (aE (kD 8)) false) (.seq (.region 9 (aE (kD 9)) false) (.seq (.region 10 (aE (kD 10)) false) (.seq (.seq (cA (cA Kb)) (.block 0 (.loop GC))) (.seq (.region 15 (aE (cA (cB Kb))) false) .ret)))))))))))):=by kernel_rfl
def lI (b1 b2 sb pb:Nat):List Fact:=[.slot 1 (.im (ptV b1 0)),.slot 2 (.im (ptV b2 0)),.slot 3 (.im (ptV sb 0)),.slot 4 (.im (ptV pb 0)),.slot 5 (.im (yB sb pb))]
theorem Tu (wd fl pt:Nat):aJ prog (qG prog) 32 (fun _=>tC T0 fun _=>none) 60 (kD 0) (eO 0 [.v (.fl (rR wd fl pt))]) [.slot 1 (.pt 1 0),.row 1 true (rR wd fl pt),.slot 2 (.pt 2 0),.row 2 true zC]=some ([],.nrm,[.slot 1 (.pt 1 0),.row 1 true (rR wd fl pt),.slot 2 (.pt 2 0),.row 2 true zC]):=by kernel_rfl
theorem Tt (b1 b2:Nat):aJ prog (qG prog) 32 (fun _=>tC T0 fun _=>none) 60 (kD 1) [.slot 1 (.im (ptV b1 0)),.slot 2 (.im (ptV b2 0))] [.slot 1 (.im (ptV b1 0)),.slot 2 (.im (ptV b2 0)),.slot 3 (.pt 3 0),.row 3 true zC]=some ([],.nrm,[.slot 1 (.im (ptV b1 0)),.slot 2 (.im (ptV b2 0)),.slot 3 (.pt 3 0),.row 3 true zC]):=by kernel_rfl
theorem Ts (b1 b2 sb:Nat):aJ prog (qG prog) 32 (fun _=>tC T0 fun _=>none) 60 (kD 2) [.slot 1 (.im (ptV b1 0)),.slot 2 (.im (ptV b2 0)),.slot 3 (.im (ptV sb 0))] [.slot 1 (.im (ptV b1 0)),.slot 2 (.im (ptV b2 0)),.slot 3 (.im (ptV sb 0)),.slot 4 (.pt 4 0),.row 4 true [.c (iI 0)]]=some ([],.nrm,[.slot 1 (.im (ptV b1 0)),.slot 2 (.im (ptV b2 0)),.slot 3 (.im (ptV sb 0)),.slot 4 (.pt 4 0),.row 4 true [.c (iI 0)]]):=by kernel_rfl
theorem Tr (b1 b2 sb pb:Nat):aJ prog (qG prog) 32 (fun _=>tC T0 fun _=>none) 60 (kD 3) [.slot 1 (.im (ptV b1 0)),.slot 2 (.im (ptV b2 0)),.slot 3 (.im (ptV sb 0)),.slot 4 (.im (ptV pb 0))] (lI b1 b2 sb pb)=some ([],.nrm,lI b1 b2 sb pb):=by kernel_rfl
theorem Ub (b1 b2 sb pb:Nat):cS prog (qG prog) 32 (tC T0 fun _=>none) ((aE (kD 4)).extract 0 1) (lI b1 b2 sb pb) (.slot 7 (.im (yB sb pb))::lI b1 b2 sb pb)=some ([],.slot 7 (.im (yB sb pb))::lI b1 b2 sb pb):=by kernel_rfl
theorem Ua (b1 b2 sb pb:Nat):cS prog (qG prog) 32 (tC T0 fun _=>none) ((aE (kD 5)).extract 0 1) (lI b1 b2 sb pb) (.slot 9 (.im (yB sb pb))::lI b1 b2 sb pb)=some ([],.slot 9 (.im (yB sb pb))::lI b1 b2 sb pb):=by kernel_rfl
theorem Tz (b1 b2 sb pb:Nat):cS prog (qG prog) 32 (tC T0 fun _=>none) ((aE (kD 6)).extract 0 1) (lI b1 b2 sb pb) (.slot 11 (.im (yB sb pb))::lI b1 b2 sb pb)=some ([],.slot 11 (.im (yB sb pb))::lI b1 b2 sb pb):=by kernel_rfl
theorem Ka (b1 b2 sb pb:Nat):cS prog (qG prog) 32 (tC T0 fun _=>none) ((aE (kD 10)).extract 0 1) (lI b1 b2 sb pb) (.slot 25 (.im (yB sb pb))::lI b1 b2 sb pb)=some ([],.slot 25 (.im (yB sb pb))::lI b1 b2 sb pb):=by kernel_rfl
theorem Ty (w:World) (b1 b2 sb pb x:Nat):cS prog { qG prog with x:=xO w (fun _=>none) (fun _=>none) (aD [(15,iI x)]) } 32 (tC T0 fun _=>none) ((aE (kD 7)).extract 0 3) (lI b1 b2 sb pb) (.slot 13 (.im (yB sb pb)) :: .slot 15 (.im (iI x))::lI b1 b2 sb pb)=some ([oldOf w b1 0 [.c (iI x)]],.slot 13 (.im (yB sb pb)) :: .slot 15 (.im (iI x))::lI b1 b2 sb pb):=by kernel_rfl
theorem Tx (w:World) (b1 b2 sb pb x:Nat):cS prog { qG prog with x:=xO w (fun _=>none) (fun _=>none) (aD [(19,iI x)]) } 32 (tC T0 fun _=>none) ((aE (kD 8)).extract 0 3) (lI b1 b2 sb pb) (.slot 17 (.im (yB sb pb)) :: .slot 19 (.im (iI x))::lI b1 b2 sb pb)=some ([oldOf w b1 1 [.c (iI x)]],.slot 17 (.im (yB sb pb)) :: .slot 19 (.im (iI x))::lI b1 b2 sb pb):=by kernel_rfl
theorem Tw (w:World) (b1 b2 sb pb x:Nat):cS prog { qG prog with x:=xO w (fun _=>none) (fun _=>none) (aD [(23,iI x)]) } 32 (tC T0 fun _=>none) ((aE (kD 9)).extract 0 3) (lI b1 b2 sb pb) (.slot 21 (.im (yB sb pb)) :: .slot 23 (.im (iI x))::lI b1 b2 sb pb)=some ([oldOf w b1 2 [.c (iI x)]],.slot 21 (.im (yB sb pb)) :: .slot 23 (.im (iI x))::lI b1 b2 sb pb):=by kernel_rfl
def VZ (N b1 b2 sb:Nat) (s:St):List Fact:=[.slot 3 (.pt 3 0),.row 3 true s.row,.at 3 sb,.at 32 N,.slot 1 (.im (ptV b1 0)),.slot 2 (.im (ptV b2 0))]
def CH (N b1 b2 sb i:Nat) (s:St):List Fact:=.slot 27 (.im (iI i))::VZ N b1 b2 sb s
theorem Ue (N b1 b2 sb:Nat) (s:St):aJ prog (qW (fun _=>none) iA) 32 (fun _=>tC T0 fun _=>none) 60 (cA (cA Kb)) (VZ N b1 b2 sb s) (CH N b1 b2 sb 0 s)=some ([],.nrm,CH N b1 b2 sb 0 s):=by kernel_rfl
theorem Ud (N b1 b2 sb i:Nat) (s:St):aJ prog (qW (fun _=>none) (Kz s)) 32 (fun _=>tC T0 (aD [(28,.bool true),(30,iI (i+1))])) 60 GC (CH N b1 b2 sb i s) (CH N b1 b2 sb (i+1) s.grow)=some ([aF .lss .i64 (Int.ofNat i) 10=some (.bool true),s.row=s.row,0=0,aF .add .i64 (Int.ofNat i) 1=some (iI (i+1))],.nrm,CH N b1 b2 sb (i+1) s.grow):=by kernel_rfl
theorem Uc (N b1 b2 sb i:Nat) (s:St):aJ prog (qW (fun _=>none) iA) 32 (fun _=>tC T0 (aD [(28,.bool false)])) 60 GC (CH N b1 b2 sb i s) (CH N b1 b2 sb i s)=some ([aF .lss .i64 (Int.ofNat i) 10=some (.bool false)],.ex 0,CH N b1 b2 sb i s):=by kernel_rfl
theorem Zw (w:World) (b1 b2 sb:Nat) (s:St):cS prog { qG prog with x:=xO w (fun _=>none) (aD [(31,s.row)]) (fun _=>none) } 32 (tC T0 fun _=>none) ((aE (cA (cB Kb))).extract 0 1) [.slot 1 (.im (ptV b1 0)),.slot 2 (.im (ptV b2 0)),.slot 3 (.im (ptV sb 0))] [.slot 31 (.fl s.row),.slot 2 (.im (ptV b2 0))]=some ([oldOf w sb 0 s.row,bW s.row=4],[.slot 31 (.fl s.row),.slot 2 (.im (ptV b2 0))]):=by kernel_rfl
structure BgS (r:List At) (B b1 b2 sb pb:Nat) (s:St) (p:Nat) (w0:World) (a:Act) (w:World):Prop where
 defers:a.defers=[]
 size:a.tmps.size=32
 t1:a.tmps[1]?=some (ptV b1 0)
 t2:a.tmps[2]?=some (ptV b2 0)
 t3:a.tmps[3]?=some (ptV sb 0)
 t4:a.tmps[4]?=some (ptV pb 0)
 t5:a.tmps[5]?=some (yB sb pb)
 own3:Own w sb s.row
 own4:Own w pb [.c (iI p)]
 box:oldOf w b1 0 r
 res:Own w b2 zC
 below:Below B w0 w
 l1:b1<sb
 l2:b2<sb
 l4:sb<pb
 lB:B≤b2
section
variable {r:List At} {B b1 b2 sb pb p:Nat} {s:St} {w0 w:World} {a:Act}
theorem BgS.holds (h:BgS r B b1 b2 sb pb s p w0 a w):Holds 32 w.heap.size w (lI b1 b2 sb pb) a w :=
 aS (ts:=[(1,ptV b1 0),(2,ptV b2 0),(3,ptV sb 0),(4,ptV pb 0),(5,yB sb pb)]) h.defers h.size fun x hx=>by
  simp only[List.mem_cons,List.not_mem_nil,or_false]at hx
  rcases hx with rfl|rfl|rfl|rfl|rfl
  ·exact h.t1
  ·exact h.t2
  ·exact h.t3
  ·exact h.t4
  ·exact h.t5
theorem BgS.up (h:BgS r B b1 b2 sb pb s p w0 a w) {A:List Fact} {a':Act} {w':World} (hA:Holds 32 w.heap.size w A a' w') (hs:∀φ∈lI b1 b2 sb pb,φ∈A):BgS r B b1 b2 sb pb s p w0 a' w' :=
 have hB:B≤w.heap.size:=Nat.le_of_lt (Nat.lt_of_le_of_lt h.lB h.res.lt)
 ⟨hA.defers,hA.size,hA.slot (hs _ (by simp[lI])),hA.slot (hs _ (by simp[lI])),hA.slot (hs _ (by simp[lI])),hA.slot (hs _ (by simp[lI])),hA.slot (hs _ (by simp[lI])),h.own3.on hA.below,h.own4.on hA.below,h.box.on hA.below,h.res.on hA.below,h.below.trans (hA.below.mono hB),h.l1,h.l2,h.l4,h.lB⟩
theorem BgS.call (h:BgS r B b1 b2 sb pb s p w0 a w) (hs:s.ok) {n c:Nat} (hn:n<4611686018427387904) (hc:c≤62) (hp:p+c≤128) {o:Oper} {d1 d2:Nat} {xs:Array Operand} {ts:Array TypeId} (ho:o.op=.call ⟨.value (.tmp d1),xs,ts⟩) (hx:a.tmps[d1]?=some (yB sb pb)) (hv:xs.map a.eval = #[iI n,iI c]) (hd:o.dst=some d2) (hd2:5<d2) {K:Act→World→Prop} {Q:Exit→Act→World→Prop}
  (hK:∀a' w',BgS r B b1 b2 sb pb (jY n c c 0 p s) (p+c) w0 a' w'→K a' w'):o.wp prog a w K Q:=by
 refine NW (cap:=#[ptV sb 0,ptV pb 0]) (vs:=#[iI n,iI c]) ho (by rw[cO hx]; rfl) hv (fun args=>bG func61 (by kernel_rfl) (by kernel_rfl) args _) (SE hs hn hc hp h.own3 h.own4 h.l4) ?_
 rintro e w' ⟨rfl,hb,h3,h4,CS⟩
 refine⟨_,rfl,?_⟩;rw[hd];have hp:∀(q:Nat) v,q≤5→a.tmps[q]?=some v→(a.put (some d2) (.tuple #[])).tmps[q]?=some v:=fun q v hq h=>bF h (by omega)
 exact hK _ _ ⟨h.defers,by rw[aR]; exact h.size,hp _ _ (by omega) h.t1,hp _ _ (by omega) h.t2,hp _ _ (by omega) h.t3,hp _ _ (by omega) h.t4,hp _ _ (by omega) h.t5,h3,h4,h.box.below hb h.l1,h.res.below hb h.l2,h.below.trans (hb.mono (Nat.le_of_lt (Nat.lt_of_le_of_lt h.lB h.l2))),h.l1,h.l2,h.l4,h.lB⟩
end
theorem Ey:(prog.info? 84).map (·.size)=some 4:=by kernel_rfl
theorem NT:aB zC=aB Uk.row:=by kernel_rfl
theorem UU {wd fl pt:Nat} (h1:wd<4611686018427387904) (h2:fl<4611686018427387904) (h3:pt<4611686018427387904) (w0:World):Calls prog 50 [.agg (aB (rR wd fl pt)).toArray].toArray w0 fun e w'=>e=.returned (.agg (aB (CU wd fl pt).row).toArray)∧Below w0.heap.size w0 w':=by
 have hT:∀base w,∀n d:Nat,TabOkW prog T0 base w:=fun _ _ _ _=>(bH _).w _ _
 have hT1:∀base w,∀d:Nat,TabOkW prog T0 base w:=fun _ _ _=>(bH _).w _ _
 have hG:∀base w,bD prog (qG prog) base w:=fun _ _=>(bM _).w _ _
 have hnt:f50.ntmps=32:=Tv;refine bP func50 (cs:=[.v (.fl (rR wd fl pt))]) (args:=[.agg (aB (rR wd fl pt)).toArray]) (c:=xX) rfl ⟨rfl,trivial⟩ (Nat.le_of_ble_eq_true (by kernel_rfl)) fun a w hA => ?_
 rw[hnt]at hA;rw[Cg];refine wp_seq (aA aH (hT _ _) (hG _ _) (Tu wd fl pt) trivial hA fun a w hA => ?_);obtain⟨b1,hA⟩:=hA.at (k:=1) (l:=rR wd fl pt) (by simp);obtain⟨b2,hA⟩:=hA.at (k:=2) (l:=zC) (by simp);have m1:oldOf w b1 0 (rR wd fl pt):=hA.old (k:=1) (by simp) (by simp);have m2:Own w b2 zC:=hA.own (k:=2) (by simp) (by simp);have hB2:w0.heap.size≤b2:=hA.geq (k:=2) (l:=zC) (by simp) (by simp);have hbl:=hA.below;have hs0:w0.heap.size≤w.heap.size:=hbl.size;have hS:=aS (nt:=32) (w:=w) (a:=a) (ts:=[(1,ptV b1 0),(2,ptV b2 0)]) hA.defers hA.size (fun x hx=>by
  simp only[List.mem_cons,List.not_mem_nil,or_false]at hx
  rcases hx with rfl|rfl
  ·exact hA.ptS (s:=1) (k:=1) (o:=0) (by simp) (by simp)
  ·exact hA.ptS (s:=2) (k:=2) (o:=0) (by simp) (by simp))
 clear hA;refine wp_seq (aA aH (hT _ _) (hG _ _) (Tt b1 b2) trivial hS fun a w' hA => ?_);clear hS;obtain⟨sb,hA⟩:=hA.at (k:=3) (l:=zC) (by simp);have hsb:w.heap.size≤sb:=hA.geq (k:=3) (l:=zC) (by simp) (by simp);have l1:b1<sb:=Nat.lt_of_lt_of_le m1.1 hsb;have l2:b2<sb:=Nat.lt_of_lt_of_le m2.lt hsb;have m1:=m1.on hA.below;have m2:=m2.on hA.below;have m3:Own w' sb zC:=hA.own (k:=3) (by simp) (by simp);have hbl:=hbl.trans (hA.below.mono hs0);have hs0:w0.heap.size≤w'.heap.size:=hbl.size;have hS:=aS (nt:=32) (w:=w') (a:=a) (ts:=[(1,ptV b1 0),(2,ptV b2 0),(3,ptV sb 0)]) hA.defers hA.size (fun x hx=>by
  simp only[List.mem_cons,List.not_mem_nil,or_false]at hx
  rcases hx with rfl|rfl|rfl
  ·exact hA.slot (by simp)
  ·exact hA.slot (by simp)
  ·exact hA.ptS (s:=3) (k:=3) (o:=0) (by simp) (by simp))
 clear hA;refine wp_seq (aA aH (hT _ _) (hG _ _) (Ts b1 b2 sb) trivial hS fun a w2 hA => ?_);clear hS;obtain⟨pb,hA⟩:=hA.at (k:=4) (l:=[.c (iI 0)]) (by simp);have hpb:w'.heap.size≤pb:=hA.geq (k:=4) (l:=[.c (iI 0)]) (by simp) (by simp);have l4:sb<pb:=Nat.lt_of_lt_of_le m3.lt hpb;have m1:=m1.on hA.below;have m2:=m2.on hA.below;have m3:=m3.on hA.below;have m4:Own w2 pb [.c (iI 0)]:=hA.own (k:=4) (by simp) (by simp);have hbl:=hbl.trans (hA.below.mono hs0);have hs0:w0.heap.size≤w2.heap.size:=hbl.size;have hS:=aS (nt:=32) (w:=w2) (a:=a) (ts:=[(1,ptV b1 0),(2,ptV b2 0),(3,ptV sb 0),(4,ptV pb 0)]) hA.defers hA.size (fun x hx=>by
  simp only[List.mem_cons,List.not_mem_nil,or_false]at hx
  rcases hx with rfl|rfl|rfl|rfl
  ·exact hA.slot (by simp)
  ·exact hA.slot (by simp)
  ·exact hA.slot (by simp)
  ·exact hA.ptS (s:=4) (k:=4) (o:=0) (by simp) (by simp))
 clear hA;refine wp_seq (aA aH (hT _ _) (hG _ _) (Tr b1 b2 sb pb) trivial hS fun a w3 hA => ?_);have hI:BgS (rR wd fl pt) w0.heap.size b1 b2 sb pb Uk 0 w0 a w3:=⟨hA.defers,hA.size,hA.slot (by simp[lI]),hA.slot (by simp[lI]),hA.slot (by simp[lI]),hA.slot (by simp[lI]),hA.slot (by simp[lI]),(m3.on hA.below).eq NT,m4.on hA.below,m1.on hA.below,m2.on hA.below,hbl.trans (hA.below.mono hs0),l1,l2,l4,hB2⟩;clear hA hS m1 m2 m3 m4 hbl hs0 l1 l2 l4 hB2 hsb hpb;refine wp_seq (bI (l:=List.range' 0 ((aE (kD 4)).extract 0 1).size++(1::[])) (by kernel_rfl) ?_);refine aK (c:=tC T0 _) (hT1 _ _) (hG _ _) (Ub b1 b2 sb pb) trivial (by kernel_rfl) hI.holds fun a w3' hA => ?_
 obtain⟨o,ho,⟨ts,hop⟩,hd,hg⟩:∃x,(aE (kD 4))[1]?=some x∧(∃ts,x.op=.call ⟨.value (.tmp 7),#[.const (iI 1),.const (iI 2)],ts⟩)∧x.dst=some 8∧x.guard=none:=⟨_,rfl,⟨_,rfl⟩,rfl,rfl⟩
 refine bC ho hg ((hI.up hA fun φ h=>List.mem_cons_of_mem _ h).call (n:=1) (c:=2) GM (by decide) (by decide) (by decide) hop (hA.slot (by simp)) (by simp[Act.eval]) hd (by decide) fun a w hI => ?_);clear hA hop ho hd hg;have k1:=dU 1 2 2 0 0 GM;show (Code.seq _ _).wp _ _ _ _;refine wp_seq (bI (l:=List.range' 0 ((aE (kD 5)).extract 0 1).size++(1::[])) (by kernel_rfl) ?_);refine aK (c:=tC T0 _) (hT1 _ _) (hG _ _) (Ua b1 b2 sb pb) trivial (by kernel_rfl) hI.holds fun a w3' hA => ?_
 obtain⟨o,ho,⟨ts,hop⟩,hd,hg⟩:∃x,(aE (kD 5))[1]?=some x∧(∃ts,x.op=.call ⟨.value (.tmp 9),#[.const (iI 0),.const (iI 4)],ts⟩)∧x.dst=some 10∧x.guard=none:=⟨_,rfl,⟨_,rfl⟩,rfl,rfl⟩
 refine bC ho hg ((hI.up hA fun φ h=>List.mem_cons_of_mem _ h).call (n:=0) (c:=4) k1 (by decide) (by decide) (by decide) hop (hA.slot (by simp)) (by simp[Act.eval]) hd (by decide) fun a w hI => ?_);clear hA hop ho hd hg;have k2:=dU 0 4 4 0 2 k1;show (Code.seq _ _).wp _ _ _ _;refine wp_seq (bI (l:=List.range' 0 ((aE (kD 6)).extract 0 1).size++(1::[])) (by kernel_rfl) ?_);refine aK (c:=tC T0 _) (hT1 _ _) (hG _ _) (Tz b1 b2 sb pb) trivial (by kernel_rfl) hI.holds fun a w3' hA => ?_
 obtain⟨o,ho,⟨ts,hop⟩,hd,hg⟩:∃x,(aE (kD 6))[1]?=some x∧(∃ts,x.op=.call ⟨.value (.tmp 11),#[.const (iI 254),.const (iI 12)],ts⟩)∧x.dst=some 12∧x.guard=none:=⟨_,rfl,⟨_,rfl⟩,rfl,rfl⟩
 refine bC ho hg ((hI.up hA fun φ h=>List.mem_cons_of_mem _ h).call (n:=254) (c:=12) k2 (by decide) (by decide) (by decide) hop (hA.slot (by simp)) (by simp[Act.eval]) hd (by decide) fun a w hI => ?_);clear hA hop ho hd hg;have k3:=dU 254 12 12 0 6 k2;show (Code.seq _ _).wp _ _ _ _;refine wp_seq (bI (l:=List.range' 0 ((aE (kD 7)).extract 0 3).size++(3::[])) (by kernel_rfl) ?_);refine aK (c:=tC T0 _) (hT1 _ _) (bX w _ _ _) (Ty w b1 b2 sb pb wd) ⟨⟨hI.box.1,cD (i:=0) (n:=1) hI.box.2 rfl⟩,trivial⟩ (by kernel_rfl) hI.holds fun a w3' hA => ?_
 obtain⟨o,ho,⟨ts,hop⟩,hd,hg⟩:∃x,(aE (kD 7))[3]?=some x∧(∃ts,x.op=.call ⟨.value (.tmp 13),#[.tmp 15,.const (iI 12)],ts⟩)∧x.dst=some 16∧x.guard=none:=⟨_,rfl,⟨_,rfl⟩,rfl,rfl⟩
 refine bC ho hg ((hI.up hA fun φ h=>List.mem_cons_of_mem _ (List.mem_cons_of_mem _ h)).call (n:=wd) (c:=12) k3 h1 (by decide) (by decide) hop (hA.slot (by simp)) (by have:=cO (hA.slot (s:=15) (v:=iI wd) (by simp)); simp[this,show a.eval (.const (iI 12))=iI 12 from rfl]) hd (by decide) fun a w hI => ?_);clear hA hop ho hd hg;have k4:=dU wd 12 12 0 18 k3;show (Code.seq _ _).wp _ _ _ _;refine wp_seq (bI (l:=List.range' 0 ((aE (kD 8)).extract 0 3).size++(3::[])) (by kernel_rfl) ?_);refine aK (c:=tC T0 _) (hT1 _ _) (bX w _ _ _) (Tx w b1 b2 sb pb fl) ⟨⟨hI.box.1,cD (i:=1) (n:=1) hI.box.2 rfl⟩,trivial⟩ (by kernel_rfl) hI.holds fun a w3' hA => ?_
 obtain⟨o,ho,⟨ts,hop⟩,hd,hg⟩:∃x,(aE (kD 8))[3]?=some x∧(∃ts,x.op=.call ⟨.value (.tmp 17),#[.tmp 19,.const (iI 10)],ts⟩)∧x.dst=some 20∧x.guard=none:=⟨_,rfl,⟨_,rfl⟩,rfl,rfl⟩
 refine bC ho hg ((hI.up hA fun φ h=>List.mem_cons_of_mem _ (List.mem_cons_of_mem _ h)).call (n:=fl) (c:=10) k4 h2 (by decide) (by decide) hop (hA.slot (by simp)) (by have:=cO (hA.slot (s:=19) (v:=iI fl) (by simp)); simp[this,show a.eval (.const (iI 10))=iI 10 from rfl]) hd (by decide) fun a w hI => ?_);clear hA hop ho hd hg;have k5:=dU fl 10 10 0 30 k4;show (Code.seq _ _).wp _ _ _ _;refine wp_seq (bI (l:=List.range' 0 ((aE (kD 9)).extract 0 3).size++(3::[])) (by kernel_rfl) ?_);refine aK (c:=tC T0 _) (hT1 _ _) (bX w _ _ _) (Tw w b1 b2 sb pb pt) ⟨⟨hI.box.1,cD (i:=2) (n:=1) hI.box.2 rfl⟩,trivial⟩ (by kernel_rfl) hI.holds fun a w3' hA => ?_
 obtain⟨o,ho,⟨ts,hop⟩,hd,hg⟩:∃x,(aE (kD 9))[3]?=some x∧(∃ts,x.op=.call ⟨.value (.tmp 21),#[.tmp 23,.const (iI 10)],ts⟩)∧x.dst=some 24∧x.guard=none:=⟨_,rfl,⟨_,rfl⟩,rfl,rfl⟩
 refine bC ho hg ((hI.up hA fun φ h=>List.mem_cons_of_mem _ (List.mem_cons_of_mem _ h)).call (n:=pt) (c:=10) k5 h3 (by decide) (by decide) hop (hA.slot (by simp)) (by have:=cO (hA.slot (s:=23) (v:=iI pt) (by simp)); simp[this,show a.eval (.const (iI 10))=iI 10 from rfl]) hd (by decide) fun a w hI => ?_);clear hA hop ho hd hg;have k6:=dU pt 10 10 0 40 k5;show (Code.seq _ _).wp _ _ _ _;refine wp_seq (bI (l:=List.range' 0 ((aE (kD 10)).extract 0 1).size++(1::[])) (by kernel_rfl) ?_);refine aK (c:=tC T0 _) (hT1 _ _) (hG _ _) (Ka b1 b2 sb pb) trivial (by kernel_rfl) hI.holds fun a w3' hA => ?_
 obtain⟨o,ho,⟨ts,hop⟩,hd,hg⟩:∃x,(aE (kD 10))[1]?=some x∧(∃ts,x.op=.call ⟨.value (.tmp 25),#[.const (iI 1073741823),.const (iI 30)],ts⟩)∧x.dst=some 26∧x.guard=none:=⟨_,rfl,⟨_,rfl⟩,rfl,rfl⟩
 refine bC ho hg ((hI.up hA fun φ h=>List.mem_cons_of_mem _ h).call (n:=1073741823) (c:=30) k6 (by decide) (by decide) (by decide) hop (hA.slot (by simp)) (by simp[Act.eval]) hd (by decide) fun a w hI => ?_);clear hA hop ho hd hg k1 k2 k3 k4 k5 k6;have hok:=xT wd fl pt;change BgS (rR wd fl pt) w0.heap.size b1 b2 sb pb (NM wd fl pt) _ w0 a w at hI;unfold CU;generalize NM wd fl pt=s at *;show (Code.seq _ _).wp _ _ _ _;have hO:Holds 32 sb w (VZ w.heap.size b1 b2 sb s) a w:=hI.own3.holds (k:=3) (ts:=[(1,ptV b1 0),(2,ptV b2 0)]) hI.defers hI.size rfl hI.t3 (fun x hx=>by
  simp only[List.mem_cons,List.not_mem_nil,or_false]at hx
  rcases hx with rfl|rfl
  ·exact hI.t1
  ·exact hI.t2)
 have hq:∀gen,bD prog (qW gen iA) sb w:=fun gen=>mP (nA _) _ _
 refine wp_seq (wp_seq (aA aH (hT _ _) (hq _) (Ue w.heap.size b1 b2 sb s) trivial hO fun a w1 hA => ?_));refine wp_block ?_;refine dS aH (fun i=>CH w.heap.size b1 b2 sb i (gwI i s)) 10 (fun i hi=>⟨_,_,_,_,mP (KO (FG i hok)) _ _,hT _ _,Ud w.heap.size b1 b2 sb i (gwI i s),bZ (n:=10) hi,rfl,rfl,dT (k:=1) (by omega),trivial⟩) (.ex 0) (by simp) (CH w.heap.size b1 b2 sb 10 (gwI 10 s)) ⟨_,_,_,_,hq _,hT _ _,Uc w.heap.size b1 b2 sb 10 (gwI 10 s),bV (i:=10) (n:=10) (Nat.le_refl _),trivial⟩ hA fun a w1 hA => ?_
 simp only[EA.out,Exit.then,Exit.inBlock,if_true];have hW:=hA.wrcK (k:=3) (l:=(gwI 10 s).row) (by simp[CH,VZ]) (by simp[CH,VZ]) (by simp[CH,VZ]);have hO3:Own w1 sb (gwI 10 s).row:=hW.1.own hI.own3.lt hW.2;have hO2:Own w1 b2 zC:=hI.res.wr hW.1 (Nat.ne_of_lt hI.l2);have hlB:w0.heap.size≤sb:=Nat.le_of_lt (Nat.lt_of_le_of_lt hI.lB hI.l2);have hbl:Below w0.heap.size w0 w1:=hI.below.trans (hW.1.below.mono hlB);have hS:=aS (nt:=32) (w:=w1) (a:=a) (ts:=[(1,ptV b1 0),(2,ptV b2 0),(3,ptV sb 0)]) hA.defers hA.size (fun x hx=>by
  simp only[List.mem_cons,List.not_mem_nil,or_false]at hx
  rcases hx with rfl|rfl|rfl
  ·exact hA.slot (by simp[CH,VZ])
  ·exact hA.slot (by simp[CH,VZ])
  ·exact hA.ptS (s:=3) (k:=3) (o:=0) (by simp[CH,VZ]) (by simp[CH,VZ]))
 clear hA hO hW;have hl2:=hI.lB;clear hI;generalize gwI 10 s=t at *;refine wp_seq (bI (l:=List.range' 0 ((aE (cA (cB Kb))).extract 0 1).size++(1::[])) (by kernel_rfl) ?_);refine aK (c:=tC T0 _) (hT1 _ _) (bX w1 _ _ _) (Zw w1 b1 b2 sb t) ⟨hO3.old rfl,rfl,trivial⟩ (by kernel_rfl) hS fun a w2 hA => ?_
 obtain⟨o,ho,hop,hd,hg⟩:∃x,(aE (cA (cB Kb)))[1]?=some x∧x.op=.store 84 (.tmp 2) (.tmp 31)∧x.dst=none∧x.guard=none:=⟨_,rfl,rfl,rfl,rfl⟩
 have hO2:=(hO2.on hA.below).eq NT;have hp:put Uk.row 0 t.row=some t.row:=rfl;obtain⟨hO5,hW5⟩:=hO2.set hp;refine bC ho hg (fI (v:=.agg (aB t.row).toArray) (vs:=aB t.row) hop hd (cO (hA.slot (s:=2) (by simp))) (cO (hA.slotF (s:=31) (by simp))) rfl rfl Ey (hO2.there (o:=0) (n:=4) (Nat.le_of_ble_eq_true rfl)) ?_);have hH:=hO5.holds (k:=2) (nt:=32) (a:=a) (ts:=[]) hA.defers hA.size rfl (hA.slot (by simp)) (fun x hx=>by cases hx);refine wp_ret (bR (l:=[.fl t.row]) (r:=.one (.fl t.row)) (by kernel_rfl) (by kernel_rfl) hH ⟨rfl,?_⟩);exact hbl.trans ((hA.below.mono hbl.size).trans (hW5.below.mono hl2))
def Iy {α:Type} (n:Nat) (k:Nat→α):α:=Nat.rec (motive:=fun _=>α) (k 0) (fun m _=>k (Nat.succ m)) n
theorem FL {α:Type} (n:Nat) (k:Nat→α):Iy n k=k n:=by cases n<;>rfl
def Am:Nat→Nat→Nat→Nat→Nat→Option St
 | 0,lo,hi,fr,gv=>bif Nat.beq gv 0 then none else some ⟨lo,hi,fr,gv⟩
 | n+1,lo,hi,fr,gv=>bif Nat.beq gv 0 then Iy (mK lo hi) fun f=>Iy (kC lo hi 16) fun l=>Iy (f &&& 21845) fun g=>Am n l f f g else some ⟨lo,hi,fr,gv⟩
theorem JH:∀(n:Nat) (lo hi fr gv:Nat),Am n lo hi fr gv=inn n ⟨lo,hi,fr,gv⟩
 | 0,lo,hi,fr,gv=>rfl
 | n+1,lo,hi,fr,gv=>by
  unfold Am inn;simp only[FL,JH n];rfl
def Jz (fr gv:Nat):Nat:=fr/(2*(gv &&& (18446744073709551616-gv))) &&& 1
theorem Cf {s:St} (h:s.ok) (hn:s.gv≠0):Jz s.fr s.gv=s.bit:=by
 unfold Jz St.bit;have e:=(Lib.lowest_bit 64 s.gv hn h.gv).1;rw[show (2:Nat)^64=18446744073709551616 by decide]at e;rw[e,Nat.pow_succ,Nat.mul_comm 2]
def CW:Nat→Nat→Nat→Nat→Nat→Nat→Option (Nat×St)
 | 0,lo,hi,fr,gv,a=>some (a,⟨lo,hi,fr,gv⟩)
 | n+1,lo,hi,fr,gv,a=>match Am 40 lo hi fr gv with
  | some ⟨l,h,f,g⟩=>Iy (g &&& (g-1)) fun g'=>Iy (NN a (Jz f g)) fun a'=>CW n l h f g' a'
  | none=>none
theorem nC:∀(n:Nat) (lo hi fr gv a:Nat),(⟨lo,hi,fr,gv⟩:St).ok→CW n lo hi fr gv a=wrd n ⟨lo,hi,fr,gv⟩ a
 | 0,lo,hi,fr,gv,a,_=>rfl
 | n+1,lo,hi,fr,gv,a,h=>by
  unfold CW wrd;rw[JH];cases hi':inn 40 ⟨lo,hi,fr,gv⟩with
  | none=>rfl
  | some t =>
   have ht:=FB h hi';obtain⟨_,_,hne,_⟩:=nU 40 _ t hi';obtain⟨l,h',f,g⟩:=t;simp only[FL];rw[Cf ht hne];exact nC n _ _ _ _ _ ht.next
def UR (s:St):Option (Nat×St):=match CW 62 s.lo s.hi s.fr s.gv 0 with
 | some (d,⟨l1,h1,f1,g1⟩)=>(match CW 64 l1 h1 f1 g1 0 with
  | some (c,⟨l2,h2,f2,g2⟩)=>(match CW 64 l2 h2 f2 g2 0 with
   | some (b,⟨l3,h3,f3,g3⟩)=>(match CW 64 l3 h3 f3 g3 0 with
    | some (a,s4)=>Iy (aC a b c d) fun x=>some (x,s4)
    | none=>none)
   | none=>none)
  | none=>none)
 | none=>none
theorem UQ {s:St} (h:s.ok):UR s=cand s:=by
 unfold UR cand;rw[nC _ _ _ _ _ _ h];cases h1:wrd 62 ⟨s.lo,s.hi,s.fr,s.gv⟩ 0 with
 | none=>rfl
 | some x =>
  obtain⟨d,s1⟩:=x;have k1:=(eI _ h (by decide) h1).1;simp only;rw[nC _ _ _ _ _ _ k1];cases h2:wrd 64 ⟨s1.lo,s1.hi,s1.fr,s1.gv⟩ 0 with
  | none=>rfl
  | some x =>
   obtain⟨c,s2⟩:=x;have k2:=(eI _ k1 (by decide) h2).1;simp only;rw[nC _ _ _ _ _ _ k2];cases h3:wrd 64 ⟨s2.lo,s2.hi,s2.fr,s2.gv⟩ 0 with
   | none=>rfl
   | some x =>
    obtain⟨b,s3⟩:=x;have k3:=(eI _ k2 (by decide) h3).1;simp only;rw[nC _ _ _ _ _ _ k3];cases h4:wrd 64 ⟨s3.lo,s3.hi,s3.fr,s3.gv⟩ 0 with
    | none=>rfl
    | some x=>simp only[FL]
def Br:Nat→St→Option (Nat×St)
 | 0,_=>none
 | n+1,s=>match UR s with
  | some (x,t)=>bif Nat.blt x RM then some (x,t)else Br n t
  | none=>none
theorem xR {s t:St} {x:Nat} (hs:s.ok) (h:cand s=some (x,t)):t.ok:=by
 obtain⟨a,b,c,d,s1,s2,s3,h1,h2,h3,h4,_⟩:=mD h;exact (eI _ (eI _ (eI _ (eI _ hs (by decide) h1).1 (by decide) h2).1 (by decide) h3).1 (by decide) h4).1
theorem JW:∀(n:Nat) {s:St},s.ok→Br n s=cst n s
 | 0,s,_=>rfl
 | n+1,s,h=>by
  unfold Br cst;rw[UQ h];cases hc:cand s with
  | none=>rfl
  | some x =>
   obtain⟨x,t⟩:=x;simp only;rw[JW n (xR h hc)]
def JU:Nat→St→Option (List Nat)
 | 0,_=>some []
 | n+1,s=>match Br 100 s with
  | some (x,t)=>(match JU n t with|some l=>some (x::l)|none=>none)
  | none=>none
theorem oZ {n:Nat} {s t:St} {x:Nat} (hs:s.ok) (h:cst n s=some (x,t)):t.ok∧x<RM:=by
 induction n generalizing s with
 | zero=>cases h
 | succ n ih =>
  unfold cst at h;cases hc:cand s with
  | none=>rw[hc]at h; cases h
  | some y =>
   obtain⟨y,u⟩:=y;rw[hc]at h;simp only at h;cases hb:Nat.blt y RM<;>rw[hb]at h
   ·exact ih (xR hs hc) h
   ·cases h;exact⟨xR hs hc,by simpa using hb⟩
theorem BO:∀(n:Nat) {s:St},s.ok→JU n s=csts n s
 | 0,s,_=>rfl
 | n+1,s,h=>by
  unfold JU csts;rw[JW 100 h];cases hc:cst 100 s with
  | none=>rfl
  | some x =>
   obtain⟨x,t⟩:=x;simp only;rw[BO n (oZ h hc).1];cases csts n t<;>rfl
def BV (w:World) (v:Value) (N:Nat) (f:Nat→Nat):Prop:=∃p m,v=.slice p N m∧N≤m∧(∀j,f j<256)∧(0<N→∃g o,p=some ⟨g,o,none⟩∧BM w g o N f)
theorem BV.on {w w':World} {v:Value} {N:Nat} {f:Nat→Nat} (h:BV w v N f) (hb:Below w.heap.size w w'):BV w' v N f:=by
 obtain⟨p,m,h1,h2,h3,h4⟩:=h;exact⟨p,m,h1,h2,h3,fun h=>by
  obtain⟨g,o,e,h5⟩:=h4 h;exact⟨g,o,e,h5.on hb⟩⟩
theorem ElM.congr {w:World} {a b n C:Nat} {g g':Nat→Nat} (h:ElM w a b n C g) (he:∀j,j<n→g j=g' j):ElM w a b n C g' :=
 by
 have e:=eQ (f:=g) (g:=g') n 0 fun j hj=>(by rw[Nat.zero_add]; exact he j hj)
 exact⟨h.box,h.app,h.lt,by rw[←e]; exact h.row,h.ne⟩
structure EJ (n0:Nat) (w0:World) (b3 bl C D:Nat) (f:Nat→Nat) (N:Nat) (rec:Loop) (r i:Nat) (W:World):Prop where
 below:Below n0 w0 W
 el:ElM W b3 bl (1+i) C (elN f N)
 n3:b3≠r
 nb:bl≠r
 hD:W.heap[D]?=some (.deferred (some []))
 hl:W.heap[D+1]?=some (.loop rec)
theorem EJ.wrc {n0:Nat} {w0:World} {b3 bl C D:Nat} {f:Nat→Nat} {N:Nat} {rec:Loop} {r i:Nat} {W W':World} (h:EJ n0 w0 b3 bl C D f N rec r i W) (hn:n0≤r) (hW:WrC W W' r):EJ n0 w0 b3 bl C D f N rec r i W' :=
 ⟨h.below.trans (hW.below.mono hn),h.el.wrc hW h.n3 h.nb,h.n3,h.nb,hW.shape.2.same _ _ h.hD rfl,hW.shape.2.same _ _ h.hl rfl⟩
theorem EJ.on {n0:Nat} {w0:World} {b3 bl C D:Nat} {f:Nat→Nat} {N:Nat} {rec:Loop} {r i:Nat} {W W':World} (h:EJ n0 w0 b3 bl C D f N rec r i W) (hn:n0≤W.heap.size) (hW:Below W.heap.size W W'):EJ n0 w0 b3 bl C D f N rec r i W' :=
 ⟨h.below.trans (hW.mono hn),h.el.on hW,h.n3,h.nb,(Shape.below hW).2.same _ _ h.hD rfl,(Shape.below hW).2.same _ _ h.hl rfl⟩
theorem wL {fn:Func} {a:Act} {w:World} {s:Nat} {v:Value} (h:fn.results = #[.tmp s]) (hs:a.tmps[s]?=some v):(results fn a.tmps).run prog w=.ok v w:=by
 simp[results,h,hs]
def Za (wd fl pt:Nat):kE
 | [.v (.fl l)]=>some ([aB l=aB (rR wd fl pt)],.one (.fl (CU wd fl pt).row))
 | _=>none
theorem Iw {wd fl pt:Nat} (h1:wd<4611686018427387904) (h2:fl<4611686018427387904) (h3:pt<4611686018427387904):∀cs pre r,Za wd fl pt cs=some (pre,r)→aW pre→∀(args:List Value) (w:World),dV w cs args→bU prog 50 r args w:=by
 intro cs pre r hg hp args w ha;unfold Za at hg;split at hg
 ·rename_i l;cases hg
  match args,ha with
  | [u],ha =>
   have e:u=.agg (aB l).toArray:=ha.1;rw[hp.1]at e;subst e;exact UU h1 h2 h3 w
  | [],ha=>exact ha.elim
  | _::_::_,ha=>exact ha.2.elim
 ·cases hg
def Ui (wd fl pt:Nat):Tab:=T0.add 50 (Za wd fl pt)
theorem Cr {wd fl pt:Nat} (h1:wd<4611686018427387904) (h2:fl<4611686018427387904) (h3:pt<4611686018427387904):TabOk prog (Ui wd fl pt):=(bH _).add func50 (by kernel_rfl) (by kernel_rfl) (Iw h1 h2 h3)
theorem UD {n x:Nat} {s t:St} (hs:s.ok) (hc:cst n s=some (x,t)) {base:Nat} {w:World} (hD:Dbj w) (hB:0<base):Cs prog (vL 51 (Lg s.row 0 (.one (.fl [.q x])) t.row)) base w :=
 CP func51 (by kernel_rfl) (by kernel_rfl) fun cs pre j r l hg hp args ha b o hj hz hle=>by
  unfold Lg at hg;split at hg
  ·cases hg;obtain⟨rfl,rfl,_⟩:=hp
   match args,ha with
   | [v],ha =>
    obtain⟨⟨b',rfl,h1,h2⟩,_⟩:=ha;cases hj;exact (UE hs hc hD (Nat.lt_of_lt_of_le hB hle) ⟨h1,h2,hz⟩).2.2
   | [],ha=>exact ha.elim
   | _::_::_,ha=>exact ha.2.elim
  ·cases hg
noncomputable abbrev cnF:Func:=f49
def mU:Code:=(f49.body).getD .skip
def eN:Code:=gV (gV (cB (cB mU)))
def NL:Code:=gV (cA (cB (cB eN)))
theorem Bw:mU=.seq (cA mU) (.seq (cA (cB mU)) (.block 0 (.loop eN))):=by kernel_rfl
theorem Bv:eN=.seq (cA eN) (.seq (cA (cB eN)) (.seq (.block 1 (.seq (cA NL) (.seq (.region 4 (aE (cA (cB NL))) false) (.cond (.tmp 16) .ret .skip)))) (cB (cB (cB eN))))):=by kernel_rfl
theorem Te:cnF.ntmps=18:=by kernel_rfl
theorem Tb (w:World) (l bb cb wd fl pt:Nat):aJ prog { qG prog with x:=xO w (fun _=>none) (aD [(6,rR wd fl pt)]) (fun _=>none) } 18 (fun _=>tC (Ui wd fl pt) fun _=>none) 60 (cA mU) (eO 0 [.v (.im (yV l)),.v (.im (ptV bb 0)),.v (.im (ptV cb 0))]) [.slot 4 (.pt 4 0),.row 4 true (CU wd fl pt).row,.slot 0 (.im (yV l)),.slot 2 (.im (ptV cb 0))]=some ([oldOf w bb 0 (rR wd fl pt),bW (rR wd fl pt)=3,aB (rR wd fl pt)=aB (rR wd fl pt)],.nrm,[.slot 4 (.pt 4 0),.row 4 true (CU wd fl pt).row,.slot 0 (.im (yV l)),.slot 2 (.im (ptV cb 0))]):=by kernel_rfl
theorem Ta (w:World) (l r cb C:Nat) (s:St):aJ prog { qG prog with x:=xO w (fun _=>none) (fun _=>none) (aD [(8,iI C)]) } 18 (fun _=>tC T0 fun _=>none) 60 (cA (cB mU)) [.at 4 r,.slot 4 (.pt 4 0),.row 4 true s.row,.slot 0 (.im (yV l)),.slot 2 (.im (ptV cb 0))] [.at 4 r,.slot 4 (.pt 4 0),.row 4 true s.row,.slot 0 (.im (yV l)),.slot 8 (.im (iI C)),.slot 9 (.im (iI 0))]=some ([oldOf w cb 0 [.c (iI C)]],.nrm,[.at 4 r,.slot 4 (.pt 4 0),.row 4 true s.row,.slot 0 (.im (yV l)),.slot 8 (.im (iI C)),.slot 9 (.im (iI 0))]):=by kernel_rfl
def lG (l r N C i:Nat) (s:St):List Fact:=[.slot 4 (.pt 4 0),.row 4 true s.row,.at 4 r,.at 18 N,.slot 0 (.im (yV l)),.slot 8 (.im (iI C)),.slot 9 (.im (iI i))]
theorem Tg (l r N C i:Nat) (s:St):aJ prog (qW (fun _=>none) iA) 18 (fun _=>tC T0 (aD [(10,.bool true)])) 60 (cA eN) (lG l r N C i s) (.slot 10 (.im (.bool true))::lG l r N C i s)=some ([aF .lss .i64 (Int.ofNat i) (Int.ofNat C)=some (.bool true)],.nrm,.slot 10 (.im (.bool true))::lG l r N C i s):=by kernel_rfl
theorem Jr (l r N C i:Nat) (s:St):aJ prog (qW (fun _=>none) iA) 18 (fun _=>tC T0 fun _=>none) 60 (cA (cB eN)) (.slot 10 (.im (.bool true))::lG l r N C i s) (lG l r N C i s)=some ([],.nrm,lG l r N C i s):=by kernel_rfl
theorem Zn (l r N C i:Nat) (s:St):aJ prog (qW (fun _=>none) iA) 18 (fun _=>tC T0 (aD [(10,.bool false)])) 60 (cA eN) (lG l r N C i s) (.slot 10 (.im (.bool false))::lG l r N C i s)=some ([aF .lss .i64 (Int.ofNat i) (Int.ofNat C)=some (.bool false)],.nrm,.slot 10 (.im (.bool false))::lG l r N C i s):=by kernel_rfl
theorem Sz (l r N C i:Nat) (s:St):aJ prog (qW (fun _=>none) iA) 18 (fun _=>tC T0 fun _=>none) 60 (cA (cB eN)) (.slot 10 (.im (.bool false))::lG l r N C i s) (lG l r N C i s)=some ([],.ex 0,lG l r N C i s):=by kernel_rfl
theorem Tc (l r N C i:Nat) (s:St):aJ prog (qW (fun _=>none) iA) 18 (fun _=>tC T0 fun _=>none) 60 (cA NL) (lG l r N C i s) (.slot 5 (.im (iI i))::lG l r N C i s)=some ([],.nrm,.slot 5 (.im (iI i))::lG l r N C i s):=by kernel_rfl
def Uj (s t:St) (x:Nat):Tab5:=vL 51 (Lg s.row 0 (.one (.fl [.q x])) t.row)
theorem Tf (l r N C i x:Nat) (s t:St):cS prog (qW (fun _=>none) (Uj s t x)) 18 (tC T0 fun _=>none) ((aE (cA (cB NL))).extract 0 3) (.slot 5 (.im (iI i))::lG l r N C i s) (.slot 12 (.im (yV l)) :: .slot 13 (.im (iI i)) :: .slot 14 (.fl [.q x])::lG l r N C i t)=some ([s.row=s.row,0=0],.slot 12 (.im (yV l)) :: .slot 13 (.im (iI i)) :: .slot 14 (.fl [.q x])::lG l r N C i t):=by kernel_rfl
theorem Jq (l r N C i:Nat) (s:St):cS prog (qW (fun _=>none) iA) 18 (tC T0 fun _=>none) ((aE (cA (cB NL))).extract 4 5) [.slot 4 (.pt 4 0),.row 4 true s.row,.at 4 r,.at 18 N,.slot 0 (.im (yV l)),.slot 8 (.im (iI C)),.slot 9 (.im (iI i)),.slot 15 (.im (.bool true))] (.slot 16 (.im (.bool false))::lG l r N C i s)=some ([],.slot 16 (.im (.bool false))::lG l r N C i s):=by kernel_rfl
theorem Td (l r N C i:Nat) (s:St):aJ prog (qW (fun _=>none) iA) 18 (fun _=>tC T0 (aD [(17,iI (i+1))])) 60 (cB (cB (cB eN))) (lG l r N C i s) (lG l r N C (i+1) s)=some ([aF .add .i64 (Int.ofNat i) 1=some (iI (i+1))],.nrm,lG l r N C (i+1) s):=by kernel_rfl
structure CnS (l r C i:Nat) (s:St) (a:Act) (w:World):Prop where
 defers:a.defers=[]
 size:a.tmps.size=18
 t0:a.tmps[0]?=some (yV l)
 t4:a.tmps[4]?=some (ptV r 0)
 t8:a.tmps[8]?=some (iI C)
 t9:a.tmps[9]?=some (iI i)
 own:Own w r s.row
theorem CnS.holds {l r C i:Nat} {s:St} {a:Act} {w:World} (h:CnS l r C i s a w):Holds 18 r w (lG l r w.heap.size C i s) a w :=
 h.own.holds (k:=4) (ts:=[(0,yV l),(8,iI C),(9,iI i)]) h.defers h.size rfl h.t4 (fun x hx=>by
  simp only[List.mem_cons,List.not_mem_nil,or_false]at hx
  rcases hx with rfl|rfl|rfl
  ·exact h.t0
  ·exact h.t8
  ·exact h.t9)
theorem Holds.cns {l r C i:Nat} {s:St} {A:List Fact} {a:Act} {w w':World} (h:Holds 18 r w A a w') (hA:∀φ∈lG l r w.heap.size C i s,φ∈A) (hlt:r<w.heap.size):CnS l r C i s a w'∧WrC w w' r:=by
 have hW:=h.wrcK (k:=4) (l:=s.row) (hA _ (by simp[lG])) (hA _ (by simp[lG])) (hA _ (by simp[lG]));exact⟨⟨h.defers,h.size,h.slot (hA _ (by simp[lG])),h.ptS (s:=4) (k:=4) (o:=0) (hA _ (by simp[lG])) (hA _ (by simp[lG])),h.slot (hA _ (by simp[lG])),h.slot (hA _ (by simp[lG])),hW.1.own hlt hW.2⟩,hW.1⟩
def Lp (i x:Nat):Array Value:=#[iI i,.agg (aB [At.q x]).toArray]
theorem UG {W1:World} {l bb cb C wd fl pt:Nat} {fu:Nat} {sq:Nat→St} {xs:Nat→Nat} (hbox:oldOf W1 bb 0 (rR wd fl pt)) (hcb:oldOf W1 cb 0 [.c (iI C)]) (b1:wd<4611686018427387904) (b2:fl<4611686018427387904) (b3:pt<4611686018427387904) (hC:C<4611686018427387904) (hg1:0<W1.heap.size)
  (h0:sq 0=CU wd fl pt) (hx:∀i,i<C→cst fu (sq i)=some (xs i,sq (i+1))) (J:Nat→Nat→World→Prop)
  (hJD:∀r i W,J r i W→Dbj W)
  (hJ0:∀r W,W1.heap.size≤r→Below W1.heap.size W1 W→r<W.heap.size→Shape W1 W→J r 0 W) (hJw:∀r i W W',W1.heap.size≤r→J r i W→WrC W W' r→J r i W')
  (hR:∀r i W,W1.heap.size≤r→i<C→J r i W→Own W r (sq (i+1)).row→∃rec,W.heap[l]?=some (.loop rec)∧rec.params.size=2 ∧
   RoundIn Fence.wide 0 prog l rec.fn ((rec.params.zip (Lp i (xs i))).foldl (fun t (p,v)=>t.setIfInBounds p v) rec.tmps) rec.assign rec.body W fun e W'=>e=.returned (.bool true)∧J r (i+1) W'∧Own W' r (sq (i+1)).row) :
  Calls prog 49 #[yV l,ptV bb 0,ptV cb 0] W1 fun e W'=>(∃v,e=.returned v)∧∃r,J r C W':=by
 have hok:∀i,i≤C→(sq i).ok:=fun i=>by
  induction i with
  | zero=>intro _; rw[h0]; exact xS _ _ _
  | succ i ih=>intro hi; exact (oZ (ih (by omega)) (hx i (by omega))).1
 have hG:∀base w,bD prog (qG prog) base w:=fun _ _=>(bM _).w _ _
 have hq:∀base w,bD prog (qW (fun _=>none) iA) base w:=fun _ _=>mP (nA _) _ _
 have hT:∀base w,∀n d:Nat,TabOkW prog T0 base w:=fun _ _ _ _=>(bH _).w _ _
 have hnt:f49.ntmps=18:=Te;refine bP func49 (cs:=[.v (.im (yV l)),.v (.im (ptV bb 0)),.v (.im (ptV cb 0))]) (args:=[yV l,ptV bb 0,ptV cb 0]) (c:=mU) rfl ⟨rfl,rfl,rfl,trivial⟩ (Nat.le_of_ble_eq_true (by kernel_rfl)) fun a w hA => ?_
 rw[hnt]at hA;rw[Bw];refine wp_seq (aA aH (fun _ _=>(Cr b1 b2 b3).w _ _) (bX W1 _ _ _) (Tb W1 l bb cb wd fl pt) ⟨hbox,rfl,rfl,trivial⟩ hA fun a w hA => ?_);rw[←h0]at hA;obtain⟨r,hA⟩:=hA.at (k:=4) (l:=(sq 0).row) (by simp);refine wp_seq (aA aH (hT _ _) (bX W1 _ _ _) (Ta W1 l r cb C (sq 0)) ⟨hcb,trivial⟩ hA fun a w hA => ?_);have hB1:W1.heap.size≤r:=hA.geq (k:=4) (l:=(sq 0).row) (by simp) (by simp);have hO:=hA.own (k:=4) (l:=(sq 0).row) (b:=r) (by simp) (by simp);have hS:CnS l r C 0 (sq 0) a w:=⟨hA.defers,hA.size,hA.slot (by simp),hA.ptS (s:=4) (k:=4) (o:=0) (by simp) (by simp),hA.slot (by simp),hA.slot (by simp),hO⟩;have hJ:=hJ0 r w hB1 hA.below hO.lt hA.shape;clear hA hO;refine wp_block ?_;refine dI (n:=C+1) ?_;have wl:∀Q a w,(Code.seq (cA eN) (.seq (cA (cB eN)) (.seq (.block 1 (.seq (cA NL) (.seq (.region 4 (aE (cA (cB NL))) false) (.cond (.tmp 16) .ret .skip)))) (cB (cB (cB eN)))))).wp prog Q a w→eN.wp prog Q a w:=fun Q a w h=>by rw[Bv]; exact h
 have key:∀k i a w,i+k=C→CnS l r C i (sq i) a w→J r i w→Un prog eN (Exit.inBlock 0 (bodyPost prog f49 fun e W'=>(∃v,e=.returned v)∧∃r,J r C W')) (k+1) a w:=by
  intro k
  induction k with
  | zero =>
   intro i a w hi hS hJ;unfold Un;refine wl _ _ _ ?_;refine wp_seq (aA aH (hT _ _) (hq _ _) (Zn l r w.heap.size C i (sq i)) ⟨bV (by omega),trivial⟩ hS.holds fun a1 w1 h1 => ?_);refine wp_seq (aA aH (hT _ _) (hq _ _) (Sz l r w.heap.size C i (sq i)) trivial h1 fun a1 w1 h1 => ?_);obtain⟨hS',hW⟩:=h1.cns (fun φ h=>h) hS.own.lt;have hJ':=hJw r i w w1 hB1 hJ hW;have hi':i=C:=by omega
   subst hi';simp only[EA.out,Exit.then,Exit.inBlock,if_true];refine⟨hS'.defers,.tuple #[],?_,⟨_,rfl⟩,r,hJ'⟩;simp[results,show f49.results = #[] by kernel_rfl]
  | succ k ih =>
   intro i a w hi hS hJ;have hlt:i<C:=by omega
   have hci:=hx i hlt;have hoi:=hok i (by omega);unfold Un;refine wl _ _ _ ?_;refine wp_seq (aA aH (hT _ _) (hq _ _) (Tg l r w.heap.size C i (sq i)) ⟨bZ hlt,trivial⟩ hS.holds fun a1 w1 h1 => ?_);refine wp_seq (aA aH (hT _ _) (hq _ _) (Jr l r w.heap.size C i (sq i)) trivial h1 fun a1 w1 h1 => ?_);refine wp_seq (wp_block (wp_seq (aA aH (hT _ _) (hq _ _) (Tc l r w.heap.size C i (sq i)) trivial h1 fun a1 w1 h1 => ?_)));obtain⟨hS1,hW1⟩:=h1.cns (fun φ h=>List.mem_cons_of_mem _ h) hS.own.lt;have t5:=h1.slot (s:=5) (v:=iI i) (by simp);have hJ1:=hJw r i w w1 hB1 hJ hW1;have hD1:=hJD r i w1 hJ1;clear h1;have hH1:Holds 18 r w1 (.slot 5 (.im (iI i))::lG l r w1.heap.size C i (sq i)) a1 w1:=by
    have:=hS1.own.holds (k:=4) (nt:=18) (ts:=[(5,iI i),(0,yV l),(8,iI C),(9,iI i)]) hS1.defers hS1.size rfl hS1.t4 (fun x hx=>by
     simp only[List.mem_cons,List.not_mem_nil,or_false]at hx
     rcases hx with rfl|rfl|rfl|rfl
     ·exact t5
     ·exact hS1.t0
     ·exact hS1.t8
     ·exact hS1.t9)
    exact this.sub (fun φ h=>by
     simp only[lG,List.mem_cons,List.not_mem_nil,or_false]at h
     rcases h with rfl|rfl|rfl|rfl|rfl|rfl|rfl|rfl<;>simp)
   refine wp_seq ?_;refine (wpIn_wide (n:=1)).1 ?_;show Code.wpIn (rF none) 1 _ _ _ _ _;refine wpIn_region ?_;rw[show List.range (aE (cA (cB NL))).size=List.range' 0 ((aE (cA (cB NL))).extract 0 3).size++(3::(List.range' 4 ((aE (cA (cB NL))).extract 4 5).size++[])) by kernel_rfl];have hg:0<r:=Nat.lt_of_lt_of_le hg1 hB1;refine wS (c:=tC T0 _) (hT _ _ 0) (PT (T5:=Uj (sq i) (sq (i+1)) (xs i)) fun w' hb=>UD hoi hci (hD1.on hg hb) hg) (Tf l r w1.heap.size C i (xs i) (sq i) (sq (i+1))) ⟨rfl,rfl,trivial⟩ (by kernel_rfl) (by kernel_rfl) hH1 fun a2 w2 h2 => ?_
   obtain⟨hS2,hW2⟩:=h2.cns (fun φ h=>List.mem_cons_of_mem _ (List.mem_cons_of_mem _ (List.mem_cons_of_mem _ h))) hS1.own.lt;have t12:=h2.slot (s:=12) (v:=yV l) (by simp);have t13:=h2.slot (s:=13) (v:=iI i) (by simp);have t14:=h2.slotF (s:=14) (l:=[.q (xs i)]) (by simp);have hJ2:=hJw r i w1 w2 hB1 hJ1 hW2;obtain⟨rec,hrec,hsz,hround⟩:=hR r i w2 hB1 hlt hJ2 hS2.own;obtain⟨o3,ho3,⟨ts3,hop3⟩,hd3,hg3⟩:∃x,(aE (cA (cB NL)))[3]?=some x∧(∃ts,x.op=.call ⟨.value (.tmp 12),#[.tmp 13,.tmp 14],ts⟩)∧x.dst=some 15∧x.guard=none:=⟨_,rfl,⟨_,rfl⟩,rfl,rfl⟩
   refine QV ho3 hg3 (NU (l:=l) (vs:=Lp i (xs i)) hop3 (by rw[cO t12]; rfl) (by simp[cO t13,cO t14,Lp]) hrec (by rw[hsz]; rfl) (hround.mono ?_))
   rintro e W' ⟨rfl,hJ',hO'⟩
   refine⟨_,rfl,?_⟩;rw[hd3];change wpOpsIn (rF none) 1 prog (aE (cA (cB NL))) _ _ (a2.put (some 15) (.bool true)) W';have hH:Holds 18 r W' [.slot 4 (.pt 4 0),.row 4 true (sq (i+1)).row,.at 4 r,.at 18 W'.heap.size,.slot 0 (.im (yV l)),.slot 8 (.im (iI C)),.slot 9 (.im (iI i)),.slot 15 (.im (.bool true))] (a2.put (some 15) (.bool true)) W' :=
    hO'.holds (k:=4) (ts:=[(0,yV l),(8,iI C),(9,iI i),(15,.bool true)]) hS2.defers (by rw[aR]; exact hS2.size) rfl (bF hS2.t4 (by decide)) (fun x hx=>by
     simp only[List.mem_cons,List.not_mem_nil,or_false]at hx
     rcases hx with rfl|rfl|rfl|rfl
     ·exact bF hS2.t0 (by simp)
     ·exact bF hS2.t8 (by simp)
     ·exact bF hS2.t9 (by simp)
     ·exact aZ _ _ _ (by rw[hS2.size]; decide))
   refine wS (c:=tC T0 _) (hT _ _ 0) (hq _ _) (Jq l r W'.heap.size C i (sq (i+1))) trivial (by kernel_rfl) (by kernel_rfl) hH fun a5 w5 h5 => ?_
   obtain⟨hS5,hW5⟩:=h5.cns (fun φ h=>List.mem_cons_of_mem _ h) hO'.lt;have hc:=h5.imV (s:=16) (v:=.bool false) (by simp);have hJ5:=hJw r (i+1) W' w5 hB1 hJ' hW5;show (Code.cond (.tmp 16) .ret .skip).wp _ _ _ _;refine wp_cond_false hc (wp_skip ?_);simp only[Exit.then,Exit.inBlock];refine aA aH (hT _ _) (hq _ _) (Td l r w5.heap.size C i (sq (i+1))) ⟨dT (k:=1) (by omega),trivial⟩ hS5.holds fun a6 w6 h6 => ?_
   obtain⟨hS6,hW6⟩:=h6.cns (fun φ h=>h) hS5.own.lt;exact ih (i+1) a6 w6 (by omega) hS6 (hJw r (i+1) w5 w6 hB1 hJ5 hW6)
 exact key C 0 a w (by omega) hS hJ
end Go.Proofs.YtpbljiejmfahcaaDoor.Ex
