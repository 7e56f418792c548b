/- Ea15 -/
import Derived.ProofKit
import Derived.LaidMore
import Derived.OpenShut
import Derived.Stop.Joined
import Derived.Carry
import Derived.RowKit
import Derived.ChangeSame
import Derived.JoinedOf
import Derived.JoinedAt
import Derived.Laws.IdiomArrays
import Derived.Deep.Strs
import Derived.SizedLaws
import Derived.Lib.LaidTab
import Derived.MakeChecks
import Derived.Deep.Slices
import Derived.Test.YtpbljiejmfahcaaGreatDoorEa14
import Derived.Test.YtpbljiejmfahcaaGreatDoorRows
import Derived.Test.YtpbljiejmfahcaaGreatDoorEa03
import Derived.Test.YtpbljiejmfahcaaGreatDoorEa02
import Derived.Test.YtpbljiejmfahcaaGreatDoorEa07
import Derived.Test.YtpbljiejmfahcaaGreatDoorProg
set_option maxRecDepth 100000
set_option linter.unusedVariables false
set_option linter.unusedSimpArgs false
set_option linter.unnecessarySimpa false
namespace Go.Proofs.YtpbljiejmfahcaaGreatDoor.Ex
open Go.Proofs.Tryz
open Go.RowKit
theorem OB {w:World} {p:Option Addr} {N m s:Nat} {fm:Nat→Nat} (hb:BV w (.slice p N m) N fm) (hs:s<aF) (hDj:Dbj w) (hz:gF s=true) (hN:4096<N):bD prog 8 (.many [.fl Dw,.im (.int .i64 5)]) [.agg (aA [At.q s]).toArray,.slice p N m] w:=by
 have h:=pD hb hs hDj;have e:Fd s N=5:=by unfold Fd; rw[if_pos hz,if_pos hN]
 rw[e,if_neg (by decide)]at h;exact h
theorem NZ {w:World} {p:Option Addr} {N m s:Nat} {fm:Nat→Nat} (hb:BV w (.slice p N m) N fm) (hs:s<aF) (hDj:Dbj w) (hz:gF s=false):bD prog 8 (.many [.fl Dw,.im (.int .i64 121)]) [.agg (aA [At.q s]).toArray,.slice p N m] w:=by
 have h:=pD hb hs hDj;have e:Fd s N=121:=by unfold Fd; rw[if_neg (by rw[hz]; decide)]
 rw[e,if_neg (by decide)]at h;exact h
theorem NY {w:World} {p:Option Addr} {N m s:Nat} {fm:Nat→Nat} (hb:BV w (.slice p N m) N fm) (hs:s<aF) (hDj:Dbj w) (hz:gF s=true) (hN:N≤4096):bD prog 8 (.many [.fl (jD (fU s fm N)),.im (.int .i64 0)]) [.agg (aA [At.q s]).toArray,.slice p N m] w:=by
 have h:=pD hb hs hDj;have e:Fd s N=0:=by unfold Fd; rw[if_pos hz,if_neg (by omega)]
 rw[if_pos e]at h;exact h
theorem Xd (s:Nat) (fm:Nat→Nat) (N:Nat):(fU s fm N).1.1<aF∧(fU s fm N).1.2<aF∧(fU s fm N).2<aF:=⟨(tY (qR _)).1,(tY (qR _)).2,Nat.lt_trans (OA s fm N) FV⟩
theorem oF {w:World} {p:Option Addr} {N m s o:Nat} {fm:Nat→Nat} (hb:BV w (.slice p N m) N fm) (hs:s<aF) (ho:o<aF) (hDj:Dbj w):bD prog 4 (.one (.im (.bool true))) [.agg (aA [At.q s]).toArray,.slice p N m,.agg (aA [At.q o]).toArray] w:=by
 have hG:bO prog (qG prog) w.heap.size w:=(aW _).w _ _;have ha:cD w [.v (.fl [.q s]),.v (.im (.slice p N m)),.v (.fl [.q o])] [.agg (aA [At.q s]).toArray,.slice p N m,.agg (aA [At.q o]).toArray]:=⟨rfl,rfl,rfl,trivial⟩
 by_cases hz:gF s=true
 rotate_left
 ·have hz:gF s=false:=by simpa using hz
  exact bC aI (fun _ _=>yN (fun w' hw=>oM (NZ (hb.on hw) hs (hDj.on hDj.lt hw) hz)) (fun w' _=>cM w')) hG func4 (Ym s o _) ⟨rfl,rfl,hs,hz,trivial⟩ ha
 by_cases hN:4096<N
 ·exact bC aI (fun _ _=>yN (fun w' hw=>oM (OB (hb.on hw) hs (hDj.on hDj.lt hw) hz hN)) (fun w' _=>cM w')) hG func4 (Yn s o _) ⟨rfl,rfl,hs,hz,trivial⟩ ha
 have hN':N≤4096:=by omega
 have hSg:∀w',Below w.heap.size w w'→∀cs pre r,rJ s (.slice p N m) (.many [.fl (jD (fU s fm N)),.im (.int .i64 0)]) cs=some (pre,r)→aT pre→∀(args:List Value),cD w' cs args→bD prog 8 r args w':=fun w' hw=>oM (NY (hb.on hw) hs (hDj.on hDj.lt hw) hz hN')
 obtain⟨q1,q2,q3⟩:=Xd s fm N
 by_cases he:o=(fU s fm N).2
 ·exact bC aI (fun _ _=>yN hSg (fun w' _=>cM w')) hG func4 (Yl s o _ _) ⟨rfl,rfl,hs,hz,by rw[he],trivial⟩ ha
 have hne:aA [At.q o]≠aA [At.q (fU s fm N).2]:=fun q=>he ((nV ho q3).1 q)
 have hck:IU ((fU s fm N).1,o)=if o<lJ then 0 else 4:=by
  unfold IU;rw[if_pos (show fS (fU s fm N).1=0 from lT _)]
 by_cases hol:o<lJ
 ·rw[if_pos hol]at hck;have hv:VC (pN s) fm N ((fU s fm N).1,o)=122:=by
   unfold VC;rw[if_neg (by rw[hck]; decide),if_neg hN];exact if_neg (WG hz hol he)
  have hVf:∀w',Below w.heap.size w w'→∀cs pre r,xT (pN s) (.slice p N m) ((fU s fm N).1,o) 122 cs=some (pre,r)→aT pre→∀(args:List Value),cD w' cs args→bD prog 12 r args w':=fun w' hw=>BJ (by
   have:=lH (hb.on hw) (lT s) (s:=((fU s fm N).1,o)) q1 q2 ho (Or.inr hck) (hDj.on hDj.lt hw);rw[hv]at this;exact this)
  generalize fU s fm N=t at *;exact bC aI (fun _ _=>yN hSg hVf) hG func4 (Yk s o _ t) ⟨rfl,rfl,hs,hz,hne,rfl,rfl,rfl,trivial⟩ ha
 ·rw[if_neg hol]at hck;have hv:VC (pN s) fm N ((fU s fm N).1,o)=4:=by
   unfold VC;rw[if_pos hck]
  have hVf:∀w',Below w.heap.size w w'→∀cs pre r,xT (pN s) (.slice p N m) ((fU s fm N).1,o) 4 cs=some (pre,r)→aT pre→∀(args:List Value),cD w' cs args→bD prog 12 r args w':=fun w' hw=>BJ (by
   have:=lH (hb.on hw) (lT s) (s:=((fU s fm N).1,o)) q1 q2 ho (Or.inl hck) (hDj.on hDj.lt hw);rw[hv]at this;exact this)
  generalize fU s fm N=t at *;exact bC aI (fun _ _=>yN hSg hVf) hG func4 (Yj s o _ t) ⟨rfl,rfl,hs,hz,hne,rfl,rfl,rfl,trivial⟩ ha
theorem FW {w:World} {z:Bool} {sg vf cg dg:gE} (b d:Nat) (h1:∀w',Below w.heap.size w w'→∀cs pre r,sg cs=some (pre,r)→aT pre→∀(args:List Value),cD w' cs args→bD prog 8 r args w')
  (h2:∀w',Below w.heap.size w w'→∀cs pre r,vf cs=some (pre,r)→aT pre→∀(args:List Value),cD w' cs args→bD prog 12 r args w')
  (h3:∀w',Below w.heap.size w w'→∀cs pre r,cg cs=some (pre,r)→aT pre→∀(args:List Value),cD w' cs args→bD prog 13 r args w')
  (h4:∀w',Below w.heap.size w w'→∀cs pre r,dg cs=some (pre,r)→aT pre→∀(args:List Value),cD w' cs args→bD prog 13 r args w'):TabOkW prog (TZ z sg vf cg dg b d) w.heap.size w :=
 TabOkW.add (yN h1 h2) func13 (by kernel_rfl) (by kernel_rfl) fun w' hw=>by
  cases Nat.blt d b
  ·exact h4 w' hw
  ·exact h3 w' hw
theorem EW {w:World} {p p':Option Addr} {N m N' m' s:Nat} {fm fm':Nat→Nat} (hb:BV w (.slice p N m) N fm) (hb':BV w (.slice p' N' m') N' fm') (hs:s<aF) (hDj:Dbj w):bD prog 5 (.one (.im (.bool true))) [.agg (aA [At.q s]).toArray,.slice p N m,.slice p' N' m'] w:=by
 have hG:bO prog (qG prog) w.heap.size w:=(aW _).w _ _;have ha:cD w [.v (.fl [.q s]),.v (.im (.slice p N m)),.v (.im (.slice p' N' m'))] [.agg (aA [At.q s]).toArray,.slice p N m,.slice p' N' m']:=⟨rfl,rfl,rfl,trivial⟩
 by_cases hz:gF s=true
 rotate_left
 ·have hz:gF s=false:=by simpa using hz
  exact bC aI (fun _ d=>FW 0 d (fun w' hw=>oM (NZ (hb.on hw) hs (hDj.on hDj.lt hw) hz)) (fun w' _=>cM w') (fun w' _=>cM w') (fun w' _=>cM w')) hG func5 (Yh s _ _) ⟨rfl,rfl,hs,hz,trivial⟩ ha
 by_cases hN:4096<N
 ·exact bC aI (fun _ d=>FW 0 d (fun w' hw=>oM (OB (hb.on hw) hs (hDj.on hDj.lt hw) hz hN)) (fun w' _=>cM w') (fun w' _=>cM w') (fun w' _=>cM w')) hG func5 (Yi s _ _) ⟨rfl,rfl,hs,hz,trivial⟩ ha
 have hNN:N≤4096:=by omega
 have hSg:∀w',Below w.heap.size w w'→∀cs pre r,rJ s (.slice p N m) (.many [.fl (jD (fU s fm N)),.im (.int .i64 0)]) cs=some (pre,r)→aT pre→∀(args:List Value),cD w' cs args→bD prog 8 r args w':=fun w' hw=>oM (NY (hb.on hw) hs (hDj.on hDj.lt hw) hz hNN)
 obtain⟨q1,q2,q3⟩:=Xd s fm N;have hck:=Xe s fm N;have hR:fS (fU s fm N).1=0:=lT _;have hCa:∀w',Below w.heap.size w w'→∀cs pre r,wB (fU s fm N).1 (pN s) (.slice p N m) (.many [.fl [.q (rZ (fU s fm N).1 (pN s) fm N)],.im (.int .i64 0)]) cs=some (pre,r)→aT pre→∀(args:List Value),cD w' cs args→bD prog 13 r args w':=fun w' hw=>BL (by
  have:=iP (hb.on hw) (lT s) hR (hDj.on hDj.lt hw);rw[decide_eq_false hN]at this;exact this)
 have hV:∀c,VC (pN s) fm' N' (fU s fm N)=c→∀w',Below w.heap.size w w'→∀cs pre r,xT (pN s) (.slice p' N' m') (fU s fm N) c cs=some (pre,r)→aT pre→∀(args:List Value),cD w' cs args→bD prog 12 r args w':=fun c hc w' hw=>BJ (by
  have:=lH (hb'.on hw) (lT s) (s:=fU s fm N) q1 q2 q3 (Or.inr hck) (hDj.on hDj.lt hw);rw[hc]at this;exact this)
 by_cases hN2:4096<N'
 ·have hv:VC (pN s) fm' N' (fU s fm N)=5:=by
   unfold VC;rw[if_neg (by rw[hck]; decide),if_pos hN2]
  have hCb:∀w',Below w.heap.size w w'→∀cs pre r,wB (fU s fm N).1 (pN s) (.slice p' N' m') (.many [.fl zC,.im (.int .i64 5)]) cs=some (pre,r)→aT pre→∀(args:List Value),cD w' cs args→bD prog 13 r args w':=fun w' hw=>BL (by
   have:=iP (hb'.on hw) (lT s) hR (hDj.on hDj.lt hw);rw[decide_eq_true hN2]at this;exact this)
  have hV5:=hV 5 hv;generalize rZ (fU s fm N).1 (pN s) fm N=h at *;generalize fU s fm N=t at *;exact bC aI (fun _ d=>FW 44 d hSg hV5 hCa hCb) hG func5 (Yg s h _ _ t) ⟨rfl,rfl,hs,hz,rfl,rfl,rfl,rfl,rfl,rfl,rfl,rfl,rfl,trivial⟩ ha
 have hCb:∀w',Below w.heap.size w w'→∀cs pre r,wB (fU s fm N).1 (pN s) (.slice p' N' m') (.many [.fl [.q (rZ (fU s fm N).1 (pN s) fm' N')],.im (.int .i64 0)]) cs=some (pre,r)→aT pre→∀(args:List Value),cD w' cs args→bD prog 13 r args w':=fun w' hw=>BL (by
  have:=iP (hb'.on hw) (lT s) hR (hDj.on hDj.lt hw);rw[decide_eq_false hN2]at this;exact this)
 have hiff:=Fc (fm:=fm) (N:=N) hz (sY (fU s fm N).1 (pN s) fm' N');have hv:VC (pN s) fm' N' (fU s fm N)=by classical exact if fU s fm N=BG (pN s) (rZ (fU s fm N).1 (pN s) fm' N') (fU s fm N).2 then 0 else 122:=by
  unfold VC;rw[if_neg (by rw[hck]; decide),if_neg hN2]
 have lw:∀{x:Nat},x<lJ→x<aF:=fun h=>Nat.lt_trans h FV
 by_cases hh:rZ (fU s fm N).1 (pN s) fm N=rZ (fU s fm N).1 (pN s) fm' N'
 ·rw[if_pos (hiff.2 hh)]at hv;have hV0:=hV 0 hv;rw[←hh]at hCb;clear hiff hv hV hh;generalize rZ (fU s fm N).1 (pN s) fm N=h at *;generalize fU s fm N=t at *;exact bC aI (fun _ d=>FW 44 d hSg hV0 hCa hCb) hG func5 (Yf s h _ _ t) ⟨rfl,rfl,hs,hz,rfl,rfl,rfl,rfl,rfl,rfl,rfl,rfl,rfl,rfl,trivial⟩ ha
 ·rw[if_neg (fun q=>hh (hiff.1 q))]at hv;have hV1:=hV 122 hv;have hne:aA [At.q (rZ (fU s fm N).1 (pN s) fm N)]≠aA [At.q (rZ (fU s fm N).1 (pN s) fm' N')]:=fun q=>hh ((nV (lw (sY _ _ _ _)) (lw (sY _ _ _ _))).1 q)
  clear hiff hv hV hh;generalize rZ (fU s fm N).1 (pN s) fm N=h at *;generalize rZ (fU s fm N).1 (pN s) fm' N'=h' at *;generalize fU s fm N=t at *;exact bC aI (fun _ d=>FW 44 d hSg hV1 hCa hCb) hG func5 (Ye s h h' _ _ t) ⟨rfl,rfl,hs,hz,rfl,rfl,rfl,rfl,rfl,rfl,rfl,rfl,rfl,hne,trivial⟩ ha
end Go.Proofs.YtpbljiejmfahcaaGreatDoor.Ex
namespace Go.Proofs.YtpbljiejmfahcaaGreatDoor
open Go.Proofs.Tryz
open Go.ChangeShapes Go.WideShapes Go.ChangeAt Go.RowKit
theorem own:ownKnob prog.godebug=none:=by kernel_rfl
theorem uG:laidOutB prog=true:=by kernel_rfl
theorem QL:prog.cellsOf 22=1:=by kernel_rfl
theorem Zi {α:Type} (l:List α) (h:(⟨l⟩:Array α).size=4):∃a b c d,l=[a,b,c,d]:=by
 match l,h with
 | [a,b,c,d],_=>exact⟨a,b,c,d,rfl⟩
theorem oH {n:Int} (h:(Lit.int .u64 n).wf=true):∃k:Nat,n=(k:Int)∧k<18446744073709551616:=by
 obtain⟨h1,h2⟩:=bounds_u64 h;obtain⟨k,rfl⟩:=Int.eq_ofNat_of_zero_le h1;exact⟨k,rfl,by omega⟩
open Go.Deep Go.ChangeShapes Go.WideShapes Go.ChangeAt Go.RowKit
def iW:List (String×DataW Unit):=[("math/bits.deBruijn64tab",Rows.laid_math_bits_deBruijn64tab)]
theorem GU (os:Os) (args:Array Value):laidMetH prog iW ((World.doorLaid prog 400 os).forCall (fun _ _=>0) ⟨#[],args,[]⟩).memory :=
 laidMetH_of_parts3 (fuel:=8) (laidMet_of_run' 8 (by kernel_rfl) (by kernel_rfl)) (by kernel_rfl) (by kernel_rfl)
theorem Bs:prog.globalNamed "math/bits.deBruijn64tab" = some 2:=by kernel_rfl
theorem Tr:(prog.globals[2]?).map (·.type)=some 193:=by kernel_rfl
theorem Br:(Rows.laid_math_bits_deBruijn64tab:DataW Unit)=Lib.tabData .u8 (Lib.deBruijn64tab.map Int.ofNat):=by kernel_rfl
theorem SZ:prog.cellsOf 193=64:=by kernel_rfl
theorem Tq:prog.cellsOf 5=1:=by kernel_rfl
theorem SY:(iW.all fun x=>x.2.handleName?.isNone)=true:=by kernel_rfl
theorem tO {W:World} (h:laidMetH prog iW W):Ex.Dbj W:=by
 rw[MakeChecks.laidMetH_plain _ _ _ SY]at h;have h2:laidMet prog [("math/bits.deBruijn64tab",Rows.laid_math_bits_deBruijn64tab)] W:=h;rw[Br]at h2;have h3:=Lib.tabIs_of_head (g:=2) Bs Tr underlying193 underlying5 Tq SZ h2;intro j hj;have h4:=h3.cell Bs j (by rw[List.length_map]; exact hj);rw[h4,List.getD_eq_getElem?_getD,List.getElem?_map,List.getD_eq_getElem?_getD,List.getElem?_eq_getElem hj];rfl
namespace Ex
theorem Up {P:Program} {W:World} {base:Nat} {t n e:TypeId} {v:Value} (ht:P.underlying t=some (.array n e)) (h:Value.okWide P W .any base t v):∃cs,v=.agg cs∧cs.size=P.cellsOf t:=by
 obtain⟨cs,rfl,hs,_⟩:∃cs,v=.agg cs∧cs.size=P.cellsOf t∧Row.okWide P W .any base t cs:=by
  simpa[Value.okWide,ht]using h
 exact⟨cs,rfl,hs⟩
section
variable {H:Type} {enc:TypeId×Value→H} {W:World}
theorem AR {base:Nat} {v:Value} {d:DataW H} {ps:List MemPlace} {pt:Array TypeId} {args:Array Value} (hval:∀(j:Nat) t v,pt[j]?=some t→args[j]?=some v→Value.okWide prog W .any base t v) (j:Nat) (hj:pt[j]?=some 24) (ha:args[j]?=some v)
  (h:DataW.Trod enc prog W 0 (fun _=>true) true 24 v d ps):∃x:Nat,x<aF∧v=.agg (aA [At.q x]).toArray:=by
 obtain⟨⟨l⟩,rfl,hs⟩:=Up (t:=24) underlying24 (hval j 24 v hj ha);rw[show prog.cellsOf 24=4 by kernel_rfl]at hs;obtain⟨fuel,h⟩:=h;obtain⟨c0,c1,c2,c3,rfl⟩:=Zi l hs;obtain⟨y0,y1,y2,y3,m,hx,hy0,hy1,hy2,hy3⟩:=trod_array4 underlying24 QL h;obtain⟨x0,e0,rfl,w0⟩:=DataW.trod_int underlying22 hy0;obtain⟨x1,e1,rfl,w1⟩:=DataW.trod_int underlying22 hy1;obtain⟨x2,e2,rfl,w2⟩:=DataW.trod_int underlying22 hy2;obtain⟨x3,e3,rfl,w3⟩:=DataW.trod_int underlying22 hy3;simp at e0 e1 e2 e3;obtain⟨a0,rfl,k0⟩:=oH w0;obtain⟨a1,rfl,k1⟩:=oH w1;obtain⟨a2,rfl,k2⟩:=oH w2;obtain⟨a3,rfl,k3⟩:=oH w3;subst e0 e1 e2 e3;have hv:aC a0 a1 a2 a3<115792089237316195423570985008687907853269984665640564039457584007913129639936:=by unfold aC; omega
 obtain⟨q0,q1',q2',q3⟩:=jN ⟨k0,k1,k2,k3⟩ hv rfl;refine⟨aC a0 a1 a2 a3,hv,?_⟩;show _=Value.agg (w4 (aC a0 a1 a2 a3)++[]).toArray;unfold w4;rw[←q0,←q1',←q2',←q3];rfl
end
end Ex
theorem QJ:prog.cellsOf 5=1:=by kernel_rfl
theorem QK:prog.bytesOf 5=1:=by kernel_rfl
theorem mU {H:Type} {enc:TypeId×Value→H} {W:World} {o:Option Addr} {len cap:Nat} {d:DataW H} {ps:List MemPlace} (h:DataW.Trod enc prog W 0 (fun _=>true) true 25 (.slice o len cap) d ps) (hl:∀x∈ps,x.block<W.heap.size)
  (hsz:∀elems spare,d=.slice elems spare→(elems.length+spare.length)*prog.bytesOf 5≤reachBytes) :
  ∃f,Ex.BV W (.slice o len cap) len f∧len≤140737488355327:=by
 obtain⟨fuel,hf⟩:=h
 rcases open_ints underlying25 underlying5 QJ hf with⟨hcs,hx⟩|⟨a,len',cap',zs,hcs,_,hl',hm,hz,hx,hcell,hwz⟩
 ·simp[Value.cells]at hcs;obtain⟨rfl,rfl,rfl⟩:=hcs;exact⟨fun _=>0,⟨none,0,rfl,Nat.le_refl _,fun _=>Nat.zero_lt_succ _,fun h=>by omega⟩,by omega⟩
 ·simp[Value.cells]at hcs;obtain⟨rfl,rfl,rfl⟩:=hcs;simp only[Prod.mk.injEq]at hx;obtain⟨rfl,rfl⟩:=hx;simp only[if_true]at hz;have hs:=hsz _ _ rfl;rw[QK]at hs;have hlen:len≤140737488355327:=by
   have e1:(lits (H:=H) .u8 (zs.take len)).length=len:=by simp[lits]; omega
   rw[e1]at hs;simp only[reachBytes]at hs;omega
  have hB:∀k,∃n:Nat,n<256∧zs.getD k 0=(n:Int):=fun k=>by
   by_cases hk:k<zs.length
   ·have h1:=bounds_u8 (hwz (zs[k]) (List.getElem_mem hk));refine⟨(zs[k]).toNat,by omega,?_⟩;rw[List.getD_eq_getElem?_getD,List.getElem?_eq_getElem hk];show zs[k]=_;omega
   ·exact⟨0,by omega,by rw[List.getD_eq_getElem?_getD,List.getElem?_eq_none (by omega)]; rfl⟩
  refine⟨fun k=>Classical.choose (hB k),⟨_,cap,rfl,hl',fun k=>(Classical.choose_spec (hB k)).1,fun h0 => ?_⟩,hlen⟩;obtain⟨b,off,spot⟩:=a;have hspot:spot=none:=by simpa[Addr.add]using World.cell?_spot (hcell 0 (by omega))
  subst hspot;have hb:b<W.heap.size:=hl (.cell b off) (MemPlace.mem_row.2 ⟨0,by omega,by simp⟩);refine⟨b,off,rfl,hb,fun k=>(Classical.choose_spec (hB k)).1,fun k hk => ?_⟩;have e2:=(Classical.choose_spec (hB k)).2;have e3:=hcell k (by omega);rw[e2]at e3;have e4:(⟨b,off,none⟩:Addr).add k=⟨b,off+k,none⟩:=by simp[Addr.add]
  rw[e4]at e3;exact e3
open Go.ChangeShapes Go.WideShapes Go.ChangeAt Go.RowKit
theorem BR (os:Os) (started:os.Started) (H:Type) (enc:TypeId×Value→H) :
  ReturnsInHanded {} checked os 4 .any (fun w args=>(Rows.eddsaOneSpec.pre enc prog f4 [] false w args∧laidMetH prog iW w)∧sizedMet enc prog f4 (OpenSpec.ofChange Rows.eddsaOneSpec) false w args)
   (Rows.eddsaOneSpec.post enc prog f4 false true false false):=by
 refine returnsInHanded_of_change_and (C:=checked) (X:=fun w _=>laidMetH prog iW w) (fun _ _ _ hh h=>h.of_heap hh) own started (by kernel_rfl) func4
  (ChangeSpec.witness_shaped (enc:=enc) (C:=checked) (os:=os) (X:=fun w _=>laidMetH prog iW w) false (World.doorLaid prog 400 os) #[.agg #[.int .u64 0,.int .u64 0,.int .u64 0,.int .u64 0],.slice none 0 0,.agg #[.int .u64 0,.int .u64 0,.int .u64 0,.int .u64 0]] 8 rfl (World.shaped_of_RefB (by kernel_rfl) (by kernel_rfl)) (by kernel_rfl) (by kernel_rfl) (by kernel_rfl) (GU os _)) ?_
 intro W base args ds gs before hval0 hW _ hsz0 hL _;have hDj:Ex.Dbj W:=tO hL;have hval:∀(j:Nat) t v,f4.params[j]?=some t→args[j]?=some v→Value.okWide prog W .any base t v:=hval0
 have hW':=hW;obtain⟨p,q,hA0,hV,rfl,_,_⟩:=hW;have hA:DataW.TrodAll enc prog W 0 (fun _=>true) true f4.params.toList args.toList ds p:=hA0;have hsz:(DataW.weightsEach prog (f4.params.toList++Rows.eddsaOneSpec.plain.varTypes prog) (ds++gs)).all (· ≤ reachBytes)=true:=hsz0;rw[params4]at hA hval hsz;obtain⟨v0,v1,v2,d0,d1,d2,p0,p1,p2,rfl,rfl,rfl,h0,h1,h2⟩:=trodAll_three hA;obtain⟨rfl,rfl⟩:=trodVars_none hV;obtain⟨y0,g0,rfl⟩:=Ex.AR hval 0 rfl rfl h0;obtain⟨bo1,bn1,bc1,rfl⟩:=okWide_slice underlying25 (hval 1 _ _ rfl rfl);obtain⟨y2,g2,rfl⟩:=Ex.AR hval 2 rfl rfl h2;clear hA0 hval0;simp only[List.append_nil]at hW';have l0:∀x∈p0,x.block<W.heap.size:=fun x hx=>hW'.lt x (by simp[hx])
 have l1:∀x∈p1,x.block<W.heap.size:=fun x hx=>hW'.lt x (by simp[hx])
 have l2:∀x∈p2,x.block<W.heap.size:=fun x hx=>hW'.lt x (by simp[hx])
 obtain⟨f1,bv1,nz1⟩:=mU h1 l1 (fun elems spare e=>sized_slice hsz (j:=1) (t:=25) (e:=5) rfl (by rw[e]; rfl) underlying25);refine Calls.mono (Ex.oF bv1 g0 g2 hDj) fun e W' ⟨he,hbl⟩ => ?_
 subst he;have kB:∀{v d ps},DataW.Trod enc prog W 0 (fun _=>true) true 25 v d ps→(∀x∈ps,x.block<W.heap.size)→DataW.Trod enc prog W' 0 (fun b=>decide (b<W.heap.size)) true 25 v d ps :=
  fun h l=>Below.trod uG (by kernel_rfl) (of_decide_eq_true (by kernel_rfl)) h hbl l
 have kW:∀{v d ps},DataW.Trod enc prog W 0 (fun _=>true) true 24 v d ps→(∀x∈ps,x.block<W.heap.size)→DataW.Trod enc prog W' 0 (fun b=>decide (b<W.heap.size)) true 24 v d ps :=
  fun h l=>Below.trod uG (by kernel_rfl) (of_decide_eq_true (by kernel_rfl)) h hbl l
 exact⟨_,rfl,⟨_,_,_,[],_,[],hW',trodAll_mk1 (shut_bool underlying4 _),trodAll_mk3 (kW h0 l0) (kB h1 l1) (kW h2 l2),rfl,hbl.frame _,fun h=>by cases h⟩⟩
theorem tM:Rows.EddsaOneSaid :=
 OpenClaim.holds_of_wide 4 f4 rfl rfl rfl rfl rfl rfl rfl ⟨rfl,rfl,rfl,rfl,rfl⟩ rfl rfl rfl rfl rfl (by kernel_rfl) func4 (by kernel_rfl)
  (of_decide_eq_true (by kernel_rfl)) (by unfold Func.isWrapper; first|(rw[if_pos (by decide +kernel)]; kernel_rfl)|(rw[if_neg (by decide +kernel)]; exact⟨rfl,rfl⟩))
  (fun os started H enc _=>BR os started H enc)
end Go.Proofs.YtpbljiejmfahcaaGreatDoor
