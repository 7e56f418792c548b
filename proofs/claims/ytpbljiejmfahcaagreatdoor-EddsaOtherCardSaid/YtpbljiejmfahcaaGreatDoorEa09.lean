/- Ea09 -/
import Derived.Test.YtpbljiejmfahcaaGreatDoorEa08
import Derived.Test.YtpbljiejmfahcaaGreatDoorEa03
import Derived.Test.YtpbljiejmfahcaaGreatDoorEa04
import Derived.Test.YtpbljiejmfahcaaGreatDoorProg
set_option maxRecDepth 100000
set_option linter.unusedVariables false
set_option linter.unusedSimpArgs false
set_option linter.unnecessarySimpa false
noncomputable section
namespace Go.Proofs.YtpbljiejmfahcaaGreatDoor.Ex
open Go.Proofs.Tryz
open Go.RowKit
theorem XP {w0:World} {wd fl pt m so:Nat} {xs f:Nat→Nat} {cs is:Value} {sb:Nat} (hM:PmM w0 wd fl pt xs cs is) (hv:LV w0 (aV sb so wd m) wd f) (hf:∀q,q<wd→f q<RM) (h0:0<wd) (hw:wd≤32) (hfl:fl≤1024) (hpt:pt≤1024) :
  Calls prog 112 [.agg (aA (rP wd fl pt cs is)).toArray,aV sb so wd m].toArray w0 fun e w'=>∃b c,e=.returned (aV b 0 wd c)∧wd≤c∧Below w0.heap.size w0 w'∧w0.heap.size≤b∧Own w' b (bP (el (gP xs wd fl pt (fl+pt) f)) 0 wd):=by
 obtain⟨⟨cb,rfl,hcb⟩,⟨ib,rfl,hib⟩,hxl⟩:=hM;have hG:∀base w,bO prog (qG prog) base w:=fun _ _=>(aW _).w _ _
 have hT:∀base w,∀n d:Nat,TabOkW prog T0 base w:=fun _ _ _ _=>(bT _).w _ _
 have hnt:f112.ntmps=89:=Xv;have hmu:wd*(fl+pt)≤65536:=Nat.le_trans (Nat.mul_le_mul hw (show fl+pt≤2048 by omega)) (by decide);refine cQ func112 (cs:=[.v (.fl (rP wd fl pt _ _)),.v (.im (aV sb so wd m))]) (args:=[.agg (aA (rP wd fl pt _ _)).toArray,aV sb so wd m]) (c:=fY) rfl ⟨rfl,rfl,trivial⟩ (Nat.le_of_ble_eq_true (by kernel_rfl)) fun a w hA => ?_
 rw[hnt]at hA;rw[Gx];refine wp_seq (aB aI (hT _ _) (hG _ _) (Xr wd (aV sb so wd m) fl pt _ _) trivial hA fun a w1 hA => ?_);obtain⟨pb,hA⟩:=hA.at (k:=2) (l:=rP wd fl pt (aV cb 0 (wd*(fl+pt)) (wd*(fl+pt))) (aV ib 0 (2*wd-1) (2*wd-1))) (by simp);have hpb:oldOf w1 pb 0 (rP wd fl pt (aV cb 0 (wd*(fl+pt)) (wd*(fl+pt))) (aV ib 0 (2*wd-1) (2*wd-1))):=hA.old (k:=2) (by simp) (by simp);have hcb:=hcb.on hA.below;have hib:=hib.on hA.below;have hv1:=hv.on hA.below;have hbl:=hA.below;have hS:=bB (nt:=89) (w:=w1) (a:=a) (ts:=[(1,aV sb so wd m),(2,ptV pb 0)]) hA.defers hA.size (fun x hx=>by
  simp only[List.mem_cons,List.not_mem_nil,or_false]at hx
  rcases hx with rfl|rfl
  ·exact hA.slot (by simp)
  ·exact hA.ptS (s:=2) (k:=2) (o:=0) (by simp) (by simp))
 clear hA;have p0:oldOf w1 pb 0 [.c (iI wd)]:=⟨hpb.1,dN (i:=0) (n:=1) hpb.2 rfl⟩;have p1:oldOf w1 pb 1 [.c (iI fl)]:=⟨hpb.1,dN (i:=1) (n:=1) hpb.2 rfl⟩;have p2:oldOf w1 pb 2 [.c (iI pt)]:=⟨hpb.1,dN (i:=2) (n:=1) hpb.2 rfl⟩;have p3:oldOf w1 pb 3 [.c (aV cb 0 (wd*(fl+pt)) (wd*(fl+pt)))]:=⟨hpb.1,dN (i:=3) (n:=1) hpb.2 rfl⟩;refine wp_seq (aB aI (hT _ _) (jS w1 _ _ _ _) (Xq w1 pb wd (aV sb so wd m)) ⟨p0,trivial⟩ hS fun a w2 hA => ?_);clear hS;refine wp_seq (aB aI (hT _ _) (Dy wd _ _) (Xp pb wd (aV sb so wd m)) ⟨PA (t:=92) (e:=27) (z:=[.q 0]) (v:=.int .u64 0) (n:=4) (by8:=32) (by kernel_rfl) (by kernel_rfl) rfl uD (by omega) (by omega) (by omega),trivial⟩ hA fun a w3 hA => ?_);obtain⟨b6,hA⟩:=hA.at (k:=17) (l:=sA wd) (by simp);have hl6:w1.heap.size≤b6:=hA.geq (k:=17) (l:=sA wd) (by simp) (by simp);have ho6:Own w3 b6 (sA wd):=hA.own (k:=17) (by simp) (by simp);have hb3:=hA.below;have hsh3:=hA.shape;have hS:=bB (nt:=89) (w:=w3) (a:=a) (ts:=[(1,aV sb so wd m),(2,ptV pb 0),(5,iI wd),(6,aV b6 0 wd wd)]) hA.defers hA.size (fun x hx=>by
  simp only[List.mem_cons,List.not_mem_nil,or_false]at hx
  rcases hx with rfl|rfl|rfl|rfl
  ·exact hA.slot (by simp)
  ·exact hA.slot (by simp)
  ·exact hA.slot (by simp)
  ·exact (hA.im (s:=6) (k:=17) (o:=0) (n:=wd) (m:=wd) (b:=b6) (by simp) (by simp)).slot (by simp))
 clear hA;refine wp_seq (bQ (l:=List.range' 0 ((aD (cA (cB (cB (cB fY))))).extract 0 1).size++(1::(List.range' 2 ((aD (cA (cB (cB (cB fY))))).extract 2 3).size++[]))) (by kernel_rfl) ?_);refine aU (c:=tC T0 _) (hT _ _ 0) (hG _ _) (Yb pb wd (aV sb so wd m) (aV b6 0 wd wd)) trivial (by kernel_rfl) hS fun a4 w4 hA => ?_
 obtain⟨o1,ho1,⟨ts1,hop1⟩,hd1,hg1⟩:∃x,(aD (cA (cB (cB (cB fY)))))[1]?=some x∧(∃ts,x.op=.call ⟨.value (.func 124),#[.tmp 18],ts⟩)∧x.dst=some 19∧x.guard=none:=⟨_,rfl,⟨_,rfl⟩,rfl,rfl⟩
 have hv4:=hv1.on (hb3.trans (hA.below.mono hb3.size));refine bM ho1 hg1 (dI hop1 (vs:=[aV sb so wd m]) (List.cons_eq_cons.2 ⟨cU (hA.slot (s:=18) (by simp)),rfl⟩) (fun args=>bR func124 (by kernel_rfl) (by kernel_rfl) args _) (Ca hv4 h0 (by omega)) fun e w5 hw' => ?_);obtain⟨b7,c7,rfl,hcc,hb5,hl7',ho7⟩:=hw';refine⟨_,rfl,?_⟩;rw[hd1];have hs4:w1.heap.size≤w4.heap.size:=Nat.le_trans hb3.size hA.below.size;have hl7:w1.heap.size≤b7:=Nat.le_trans hs4 hl7';have hb4:Below w1.heap.size w1 w4:=hb3.trans (hA.below.mono hb3.size);have hb15:Below w1.heap.size w1 w5:=hb4.trans (hb5.mono hs4);have hsh5:Shape w1 w5:=(hsh3.trans hA.shape).trans (Shape.below hb5);have ho65:Own w5 b6 (sA wd):=(ho6.on hA.below).on hb5;have hne:b6≠b7:=fun e=>by have:=(ho6.on hA.below).lt; omega
 have hS5:=bB (nt:=89) (w:=w5) (a:=a4.put (some 19) (aV b7 0 wd c7)) (ts:=[(19,aV b7 0 wd c7),(2,ptV pb 0),(5,iI wd),(6,aV b6 0 wd wd)]) hA.defers (by rw[aG]; exact hA.size) (fun x hx=>by
  simp only[List.mem_cons,List.not_mem_nil,or_false]at hx
  rcases hx with rfl|rfl|rfl|rfl
  ·exact aY _ _ _ (by rw[hA.size]; decide)
  ·exact aS (hA.slot (by simp)) (by simp)
  ·exact aS (hA.slot (by simp)) (by simp)
  ·exact aS (hA.slot (by simp)) (by simp))
 clear hA hS;refine aU (c:=tC T0 _) (hT _ _ 0) (hG _ _) (Ya pb wd (aV b7 0 wd c7) (aV b6 0 wd wd)) trivial (by kernel_rfl) hS5 fun a6 w6 hA => ?_
 have hb16:=hb15.trans (hA.below.mono hb15.size);have hsh6:=hsh5.trans hA.shape;have ho66:=ho65.on hA.below;have ho76:=ho7.on hA.below;have hS6:=bB (nt:=89) (w:=w6) (a:=a6) (ts:=[(2,ptV pb 0),(5,iI wd),(6,aV b6 0 wd wd),(7,aV b7 0 wd c7)]) hA.defers hA.size (fun x hx=>by
  simp only[List.mem_cons,List.not_mem_nil,or_false]at hx
  rcases hx with rfl|rfl|rfl|rfl<;>exact hA.slot (by simp))
 clear hA hS5;show (Code.seq _ _).wp _ _ _ _;have p1':=p1.on hb16;have p2':=p2.on hb16;refine wp_seq (wp_seq (aB aI (hT _ _) (jS w6 _ _ _ _) (Xu w6 pb wd (fl+pt) fl pt (aV b6 0 wd wd) (aV b7 0 wd c7)) ⟨p1',p2',sO (by omega),trivial⟩ hS6 fun a7 w7 hA => ?_));have hc7:∃f6:Nat→Nat,aA (sA wd)=aA (bP (el f6) 0 wd):=⟨fun _=>0,rfl⟩
 obtain⟨f6,hz⟩:=hc7;have hP:PmS w1 pb wd (fl+pt) 0 b6 wd b7 c7 f6 (gP xs wd fl pt 0 f) a7 w7:=⟨hA.defers,hA.size,hA.slot (by simp),hA.slot (by simp),hA.slot (by simp),hA.slot (by simp),hA.slot (by simp),hA.slot (by simp),hb16.trans (hA.below.mono hb16.size),hsh6.trans hA.shape,(ho66.on hA.below).eq hz,ho76.on hA.below,hl6,hl7,hne⟩;clear hA hS6;refine wp_block (dV (n:=fl+pt+1) ?_);have wl:∀Q a w,(Code.seq (cA fP) (.seq (cA (cB fP)) (.seq (.block 1 (.seq (cA Hc) (.seq (.seq (cA pm1) (.block 2 (.loop Ha))) (.seq (.seq (cA pm2) (.block 4 (.loop Gz))) (.seq (.seq (cA pm3) (.block 6 (.loop Gy))) (cB (cB (cB (cB Hc))))))))) (cB (cB (cB fP)))))).wp prog Q a w→fP.wp prog Q a w:=fun Q a w h=>by rw[Gw]; exact h
 have key:∀k r b6 m6 b7 m7 f6 a w,r+k=fl+pt→PmS w1 pb wd (fl+pt) r b6 m6 b7 m7 f6 (gP xs wd fl pt r f) a w→wd≤m6→wd≤m7→Un prog fP (Exit.inBlock 0 (Exit.then ((cB Vb).wp prog (bodyPost prog f112 fun e w'=>∃b c,e=.returned (aV b 0 wd c)∧wd≤c∧Below w0.heap.size w0 w'∧w0.heap.size≤b∧Own w' b (bP (el (gP xs wd fl pt (fl+pt) f)) 0 wd))) (bodyPost prog f112 fun e w'=>∃b c,e=.returned (aV b 0 wd c)∧wd≤c∧Below w0.heap.size w0 w'∧w0.heap.size≤b∧Own w' b (bP (el (gP xs wd fl pt (fl+pt) f)) 0 wd)))) (k+1) a w:=by
  intro k
  induction k with
  | zero =>
   intro r b6 m6 b7 m7 f6 a w hr hS hm6 hm7;have hre:r=fl+pt:=by omega
   subst hre;unfold Un;refine wl _ _ _ (wp_seq (aB aI (hT _ _) (hG _ _) (aEn pb wd (fl+pt) (fl+pt) b6 m6 b7 m7 _ _) ⟨dS (by omega),trivial⟩ hS.holds fun a w hA => ?_));refine wp_seq (aB aI (hT _ _) (hG _ _) (Xo pb wd (fl+pt) (fl+pt) b6 m6 b7 m7 _ _) trivial hA fun a w hA => ?_);simp only[EA.out,Exit.then,Exit.inBlock,if_true];refine aB aI (hT _ _) (hG _ _) (Px pb wd (fl+pt) (fl+pt) b6 m6 b7 m7 _ _) trivial hA fun a w hA => ?_
   have hO:=hA.own (k:=1007) (b:=b7) (l:=bP (el (gP xs wd fl pt (fl+pt) f)) 0 wd) (by simp) (by simp);have hb:=hA.below;exact cT (l:=[.im (aV b7 0 wd m7)]) (r:=.one (.im (aV b7 0 wd m7))) (by kernel_rfl) (by kernel_rfl) (hA.im (s:=4) (k:=1007) (o:=0) (n:=wd) (m:=m7) (b:=b7) (by simp) (by simp)) ⟨b7,m7,rfl,hm7,hbl.trans (hb.mono hbl.size),Nat.le_trans hbl.size hS.l7,hO⟩
  | succ k ih =>
   intro r b6 m6 b7 m7 f6 a w hr hS hm6 hm7;have hlt:r<fl+pt:=by omega
   have hfr:=OO (xs:=xs) (fl:=fl) (pt:=pt) hf r;have hnx:gP xs wd fl pt (r+1) f=rnd xs wd fl pt r (gP xs wd fl pt r f):=rfl;have ih:=ih (r+1) b7 m7 b6 m6;generalize gP xs wd fl pt r f=g at hS hfr hnx;unfold Un;refine wl _ _ _ (wp_seq (aB aI (hT _ _) (hG _ _) (Xz pb wd (fl+pt) r b6 m6 b7 m7 _ _) ⟨fB hlt,trivial⟩ hS.holds fun a w hA => ?_));refine wp_seq (aB aI (hT _ _) (hG _ _) (Pw pb wd (fl+pt) r b6 m6 b7 m7 _ _) trivial hA fun a w hA => ?_);refine wp_seq (wp_block (wp_seq (aB aI (hT _ _) (hG _ _) (Xt pb wd (fl+pt) r b6 m6 b7 m7 _ _) trivial hA fun a w hA => ?_)));have hr1:(r+1)*wd≤wd*(fl+pt):=by rw[Nat.mul_comm wd]; exact Nat.mul_le_mul_right wd (by omega)
   have hrw:(r+1)*wd=r*wd+wd:=by rw[Nat.add_mul,Nat.one_mul]
   refine wp_seq (wp_seq (aB aI (hT _ _) (jS w1 _ _ _ _) (Xs w1 pb wd (fl+pt) r b6 m6 b7 m7 _ _ cb (wd*(fl+pt)) (0+r*wd*4) (wd*(fl+pt)-r*wd)) ⟨p3,KL (by omega),gM (k:=1) (by omega),KL (by omega),fun w=>by
    have:=WB (b:=cb) (o:=0) (N:=wd*(fl+pt)) (m:=wd*(fl+pt)) (i:=r*wd) (j:=(r+1)*wd) (by omega) hr1 (by omega) w
    rwa [show (r+1)*wd-r*wd=wd by omega]at this,trivial⟩ hA fun a w hA => ?_))
   refine wp_block ?_;rw[←YV (uY xs wd r g) g]at hA;refine kE aI (fun j=>Qa (aV cb (0+r*wd*4) wd (wd*(fl+pt)-r*wd)) j pb wd (fl+pt) r b6 m6 b7 m7 (bP (el f6) 0 wd) (bP (el (oS (uY xs wd r g) g j)) 0 wd)) wd (fun j hj => ?_) (.ex 2) (by simp) (ON pb wd (fl+pt) r b6 m6 b7 m7 (bP (el f6) 0 wd) (bP (el (oS (uY xs wd r g) g wd)) 0 wd)) ⟨_,_,_,_,hG _ _,hT _ _,Pv pb wd (fl+pt) r b6 m6 b7 m7 _ _ _ wd,dS (Nat.le_refl _),trivial⟩ hA fun a w hA => ?_
   ·have hmj:oS (uY xs wd r g) g j j=g j:=by unfold oS; rw[if_neg (Nat.lt_irrefl _)]
    have hci:r*wd+j<wd*(fl+pt):=by omega
    have ho:oldOf w1 cb (0+r*wd*4+j*4) [.q (xs (r*wd+j))]:=by
     have:=mW (o:=0) hcb.1 hcb.2 hci
     rwa [show 0+(r*wd+j)*4=0+r*wd*4+j*4 by omega]at this
    have hp:=AM (g:=uY xs wd r g) (f:=g) hj;exact⟨_,_,_,_,jS w1 _ _ _ _,fun _ _=>FB.w _ _,Xy w1 pb wd (fl+pt) r b6 m6 b7 m7 _ _ cb (0+r*wd*4) (wd*(fl+pt)-r*wd) j (g j) (xs (r*wd+j)) _,fB hj,rfl,hj,ho,rfl,rfl,hj,by rw[AD hj,hmj],hfr j hj,hxl _ hci,rfl,hj,hp,gM (k:=1) (by omega),trivial⟩
   have e1:bP (el (oS (uY xs wd r g) g wd)) 0 wd=bP (el (uY xs wd r g)) 0 wd:=fI wd 0 fun q hq=>by unfold oS; rw[if_pos (by omega)]
   rw[e1]at hA;have hgr:=Fz xs wd r g;have hnx:gP xs wd fl pt (r+1) f=xK wd (QR (rz wd fl pt r) (uY xs wd r g)):=hnx;generalize uY xs wd r g=g1 at hA hgr hnx;simp only[EA.out,Exit.then,Exit.inBlock,if_true];have hk:rz wd fl pt r≤wd:=by
    unfold rz
    by_cases q1:r<fl/2
    ·rw[if_pos q1]; exact Nat.le_refl _
    ·rw[if_neg q1]
     by_cases q2:fl/2+pt≤r
     ·rw[if_pos q2]; exact Nat.le_refl _
     ·rw[if_neg q2]; exact h0
   refine wp_seq (wp_seq (aB aI (fun _ _=>IN (by omega) (by omega)) (jS w1 _ _ _ _) (Pr w1 pb wd (fl+pt) r b6 m6 b7 m7 _ _ fl pt (rz wd fl pt r) _ _) ⟨hpb,rfl,rfl,rfl,trivial⟩ hA fun a w hA => ?_));refine wp_block ?_;rw[←YV (fun q=>Jo (g1 q)) g1]at hA;refine kE aI (fun j=>Pz (rz wd fl pt r) j pb wd (fl+pt) r b6 m6 b7 m7 (bP (el f6) 0 wd) (bP (el (oS (fun q=>Jo (g1 q)) g1 j)) 0 wd)) (rz wd fl pt r) (fun j hj => ?_) (.ex 4) (by simp) (ON pb wd (fl+pt) r b6 m6 b7 m7 (bP (el f6) 0 wd) (bP (el (QR (rz wd fl pt r) g1)) 0 wd)) ⟨_,_,_,_,hG _ _,hT _ _,Pu pb wd (fl+pt) r b6 m6 b7 m7 _ _ (rz wd fl pt r) (rz wd fl pt r),dS (Nat.le_refl _),trivial⟩ hA fun a w hA => ?_
   ·have hjw:j<wd:=by omega
    have hmj:oS (fun q=>Jo (g1 q)) g1 j j=g1 j:=by unfold oS; rw[if_neg (Nat.lt_irrefl _)]
    have hp:=AM (g:=fun q=>Jo (g1 q)) (f:=g1) hjw;exact⟨_,_,_,_,jS w1 _ _ _ _,fun _ _=>FB.w _ _,Xx w1 pb wd (fl+pt) r b6 m6 b7 m7 _ _ (rz wd fl pt r) j (g1 j) _,fB hj,rfl,hjw,by rw[AD hjw,hmj],hgr j,rfl,hjw,hp,gM (k:=1) (by omega),trivial⟩
   have hg2:=Fy (k:=rz wd fl pt r) hgr;generalize QR (rz wd fl pt r) g1=g2 at hA hg2 hnx;simp only[EA.out,Exit.then,Exit.inBlock,if_true];refine wp_seq (wp_seq (aB aI (hT _ _) (hG _ _) (Pq pb wd (fl+pt) r b6 m6 b7 m7 _ _) trivial hA fun a w hA => ?_));refine wp_block ?_;rw[←YV (xK wd g2) f6]at hA;refine kE aI (fun j=>Py j pb wd (fl+pt) r b6 m6 b7 m7 (bP (el (oS (xK wd g2) f6 j)) 0 wd) (bP (el g2) 0 wd)) wd (fun j hj => ?_) (.ex 6) (by simp) (vD pb wd (fl+pt) r b6 m6 b7 m7 (bP (el (oS (xK wd g2) f6 wd)) 0 wd) (bP (el g2) 0 wd)) ⟨_,_,_,_,hG _ _,hT _ _,Ps pb wd (fl+pt) r b6 m6 b7 m7 _ _ wd,dS (Nat.le_refl _),trivial⟩ hA fun a w hA => ?_
   ·have hp:=AM (g:=xK wd g2) (f:=f6) hj;have hL:∀w,Below w1.heap.size w1 w→LV w (aV ib (0+j*4) wd (2*wd-1-j)) wd (fun q=>inv (wd+(j+q))):=fun w hb =>
     ((hib.on hb).lv (fun _ _=>kO (LE _))).piece (o:=0) (i:=j) (k:=wd) (f:=fun j=>inv (wd+j)) (by omega)
    exact⟨_,_,_,_,jS w1 _ _ _ _,fun _ _=>Le (g:=fun q=>inv (wd+(j+q))) (h:=g2) (by omega) (by omega) (by omega) hL (fun q _=>LE _) (fun q _=>hg2 q),Xw w1 pb wd (fl+pt) r b6 m6 b7 m7 _ _ fl pt j (xK wd g2 j) _ _ (aV ib (0+j*4) wd (2*wd-1-j)) _,fB hj,hpb,rfl,rfl,rfl,rfl,rfl,rfl,hm7,rfl,hj,hp,gM (k:=1) (by omega),trivial⟩
   have e3:bP (el (oS (xK wd g2) f6 wd)) 0 wd=bP (el (xK wd g2)) 0 wd:=fI wd 0 fun q hq=>by unfold oS; rw[if_pos (by omega)]
   rw[e3,←hnx]at hA;simp only[EA.out,Exit.then,Exit.inBlock,if_true];refine aB aI (hT _ _) (hG _ _) (Pp pb wd (fl+pt) r b6 m6 b7 m7 _ _) trivial hA fun a w hA => ?_
   simp only[EA.out,Exit.then,Exit.inBlock];refine aB aI (hT _ _) (hG _ _) (Po pb wd (fl+pt) r b6 m6 b7 m7 _ _) ⟨gM (k:=1) (by omega),trivial⟩ hA fun a w hA => ?_
   exact ih g2 a w (by omega) (hA.pmS rfl rfl hS.ne) hm7 hm6
 exact key (fl+pt) 0 b6 wd b7 c7 f6 a7 w7 (by omega) hP (Nat.le_refl _) hcc
section
variable {ops:Array Oper} {o:Oper} {a:Act} {v:Value} {s:Nat} {S:World→Prop}
theorem pV {t b of:Nat} {vs:List Value} {d:TypeDesc} (hop:o.op=.load t (.tmp s)) (hg:o.guard=none) (h:a.tmps[s]?=some (ptV b of)) (hu:prog.underlying t=some d) (hd:d.isRow=true) (hi:(prog.info? t).map (·.size)=some vs.length) (hS:∀wx,S wx→wx.rangeAt b of vs):YieldsIf prog ops S o (.agg vs.toArray) a :=
 Or.inl ⟨by simp[Region.wanted,hg],fun wx hw=>by
  have:=run_loadAt_mid (P:=prog) wx b of t vs d (hS wx hw) hu hd hi;simp[execOp,hop,cU h,ptV,this]⟩
theorem UV {t b of i n:Nat} (hop:o.op=.fieldAddr t (.tmp s) i) (hg:o.guard=none) (h:a.tmps[s]?=some (ptV b of)) (hf:∀w:World,(Instr.fieldAt t (ptV b of) i).run prog w=.ok (ptV b n) w):YieldsIf prog ops S o (ptV b n) a :=
 Or.inl ⟨by simp[Region.wanted,hg],fun wx hw=>by simp[execOp,hop,cU h,hf wx]⟩
end
noncomputable abbrev mdF:Func:=f85
def vM:Code:=(f85.body).getD .skip
def Hw:Code:=cA (cB vM)
theorem Hv:vM=.seq (cA vM) (.seq (.region 1 (aD Hw) true) .ret):=by kernel_rfl
theorem Ze:mdF.ntmps=10:=by kernel_rfl
def zP:List At:=[.c (iI 0),.c (iI 0),.c (iI 0),.c (.slice none 0 0),.c (.slice none 0 0)]
theorem Zd (wd fl pt:Nat):bE prog (qG prog) 10 (fun _=>tC T0 fun _=>none) 60 (cA vM) (fT 0 [.v (.fl (rR wd fl pt))]) [.slot 1 (.pt 1 0),.row 1 true (rR wd fl pt),.slot 2 (.pt 2 0),.row 2 true zP]=some ([],.nrm,[.slot 1 (.pt 1 0),.row 1 true (rR wd fl pt),.slot 2 (.pt 2 0),.row 2 true zP]):=by kernel_rfl
theorem YY (wd fl pt:Nat) (cs is:Value) (h1:∃p n m,cs=.slice p n m) (h2:∃p n m,is=.slice p n m):prog.built 132 [(0,.agg (aA (rR wd fl pt)).toArray),(1,cs),(2,is)]=some (aA (rP wd fl pt cs is)).toArray:=by
 obtain⟨p,n,m,rfl⟩:=h1;obtain⟨q,k,l,rfl⟩:=h2
 kernel_rfl
theorem Wt:(prog.info? 132).map (·.size)=some 5:=by kernel_rfl
theorem WD:(prog.info? 96).map (·.size)=some 3:=by kernel_rfl
theorem Ny:∃d,prog.underlying 96=some d∧d.isRow=true:=⟨_,underlying96,rfl⟩
theorem aEy (b:Nat) (w:World):(Instr.fieldAt 96 (ptV b 0) 0).run prog w=.ok (ptV b 0) w:=by
 have hn:cL prog 3=some 1:=by kernel_rfl
 simp[Instr.fieldAt,ptV,run_underlying underlying96,Instr.sureAddr,fieldPlace,bA hn,Addr.add_mid]
theorem YX {w0:World} {wd fl pt:Nat} {xs:Nat→Nat} {fu:Nat} {sq:Nat→St} (h2:2≤wd) (hw:wd≤32) (hfl:fl≤1024) (hpt:pt≤1024) (h0:sq 0=IW wd fl pt) (hx:∀i,i<wd*(fl+pt)→xV fu (sq i)=some (xs i,sq (i+1))) (hDj:Dbj w0) :
  Calls prog 85 [.agg (aA (rR wd fl pt)).toArray].toArray w0 fun e w'=>∃cs is,e=.returned (.agg (aA (rP wd fl pt cs is)).toArray)∧PmM w' wd fl pt xs cs is∧Below w0.heap.size w0 w':=by
 have hG:∀base w,bO prog (qG prog) base w:=fun _ _=>(aW _).w _ _
 have hT:∀base w,∀n d:Nat,TabOkW prog T0 base w:=fun _ _ _ _=>(bT _).w _ _
 have hmu:wd*(fl+pt)≤65536:=Nat.le_trans (Nat.mul_le_mul hw (show fl+pt≤2048 by omega)) (by decide);have hok:∀i,i≤wd*(fl+pt)→(sq i).ok:=fun i=>by
  induction i with
  | zero=>intro _; rw[h0]; exact MU _ _ _
  | succ i ih=>intro hi; exact (BU (ih (by omega)) (hx i (by omega))).1
 have hnt:f85.ntmps=10:=Ze;refine cQ func85 (cs:=[.v (.fl (rR wd fl pt))]) (args:=[.agg (aA (rR wd fl pt)).toArray]) (c:=vM) rfl ⟨rfl,trivial⟩ (Nat.le_of_ble_eq_true (by kernel_rfl)) fun a w hA => ?_
 rw[hnt]at hA;rw[Hv];refine wp_seq (aB aI (hT _ _) (hG _ _) (Zd wd fl pt) trivial hA fun a w hA => ?_);obtain⟨b1,hA⟩:=hA.at (k:=1) (l:=rR wd fl pt) (by simp);obtain⟨b2,hA⟩:=hA.at (k:=2) (l:=zP) (by simp);have m1:oldOf w b1 0 (rR wd fl pt):=hA.old (k:=1) (by simp) (by simp);have m2:Own w b2 zP:=hA.own (k:=2) (by simp) (by simp);have hB2:w0.heap.size≤b2:=hA.geq (k:=2) (l:=zP) (by simp) (by simp);have hbl:=hA.below;have hD:Dbj w:=hDj.on hDj.lt hbl;have t1:=hA.ptS (s:=1) (k:=1) (o:=0) (b:=b1) (by simp) (by simp);have t2:=hA.ptS (s:=2) (k:=2) (o:=0) (b:=b2) (by simp) (by simp);have hdf:=hA.defers;have hsz:=hA.size;clear hA;have hd:Below w.heap.size w w.drew:=(Below.refl _ w).drew;have S1:∀{u:World},oldOf u b1 0 (rR wd fl pt)→u.rangeAt b1 0 (aA (rR wd fl pt)):=fun h=>h.2
 obtain⟨dR,huR,hdR⟩:=Ny;refine wp_seq (Code.wp_mono (Q:=gL fun a' w'=>∃cs is,a'.defers=[]∧a'.tmps.size=10∧a'.tmps[2]?=some (ptV b2 0)∧Own w' b2 (rP wd fl pt cs is)∧PmM w' wd fl pt xs cs is∧Below w0.heap.size w0 w') (fun e a3 w3 h => ?_) (cF (fun wx=>wx.rangeAt b1 0 (aA (rR wd fl pt))) 7 aI ?_))
 ·obtain⟨rfl,cs,is,e1,e2,e3,e4,e5,e6⟩:=h;have hH:=e4.holds (k:=2) (nt:=10) (a:=a3) (ts:=[]) e1 e2 rfl e3 (fun x hx=>by cases hx);exact wp_ret (cT (l:=[.fl (rP wd fl pt cs is)]) (r:=.one (.fl (rP wd fl pt cs is))) (by kernel_rfl) (by kernel_rfl) hH ⟨cs,is,rfl,e5,e6⟩)
 have hS:w.drew.rangeAt b1 0 (aA (rR wd fl pt)):=(m1.on hd).2;obtain⟨o0,ho0,hop0,hd0,hg0⟩:∃x,(aD Hw)[0]?=some x∧x.op=.load 96 (.tmp 1)∧x.dst=some 3∧x.guard=none:=⟨_,rfl,rfl,rfl,rfl⟩
 refine aE (i:=0) (v:=.agg (aA (rR wd fl pt)).toArray) ho0 (by kernel_rfl) (by kernel_rfl) (by kernel_rfl) (by kernel_rfl) (fun _ _ _ h=>gQ h) hS (pV hop0 hg0 t1 huR hdR WD fun _ h=>h) ?_;rw[hd0];obtain⟨o1,ho1,hop1,hd1,hg1⟩:∃x,(aD Hw)[1]?=some x∧x.op=.load 96 (.tmp 1)∧x.dst=some 4∧x.guard=none:=⟨_,rfl,rfl,rfl,rfl⟩
 refine aE (i:=1) (v:=.agg (aA (rR wd fl pt)).toArray) ho1 (by kernel_rfl) (by kernel_rfl) (by kernel_rfl) (by kernel_rfl) (fun _ _ _ h=>gQ h) hS (pV hop1 hg1 (aS t1 (by decide)) huR hdR WD fun _ h=>h) ?_;rw[hd1];obtain⟨o3,ho3,hop3,hd3,hg3⟩:∃x,(aD Hw)[3]?=some x∧x.op=.fieldAddr 96 (.tmp 1) 0∧x.dst=some 6∧x.guard=none:=⟨_,rfl,rfl,rfl,rfl⟩
 refine aE (i:=3) (v:=ptV b1 0) ho3 (by kernel_rfl) (by kernel_rfl) (by kernel_rfl) (by kernel_rfl) (fun _ _ _ h=>gQ h) hS (UV hop3 hg3 (aS (aS t1 (by decide)) (by decide)) (aEy b1)) ?_;rw[hd3];obtain⟨o4,ho4,hop4,hd4,hg4⟩:∃x,(aD Hw)[4]?=some x∧x.op=.load 3 (.tmp 6)∧x.dst=some 7∧x.guard=none:=⟨_,rfl,rfl,rfl,rfl⟩
 refine aE (i:=4) (v:=iI wd) ho4 (by kernel_rfl) (by kernel_rfl) (by kernel_rfl) (by kernel_rfl) (fun _ _ _ h=>gQ h) hS (zL hop4 hg4 (aY _ _ _ (by simp only[aG,hsz]; decide)) (by kernel_rfl) fun wx h=>by have:=h 0 _ rfl; rwa [Nat.zero_add]at this) ?_;rw[hd4];have g3:((((a.put (some 3) (.agg (aA (rR wd fl pt)).toArray)).put (some 4) (.agg (aA (rR wd fl pt)).toArray)).put (some 6) (ptV b1 0)).put (some 7) (iI wd)).tmps[3]?=some (.agg (aA (rR wd fl pt)).toArray):=aS (aS (aS (aY _ _ _ (by simp only[aG,hsz]; decide)) (by decide)) (by decide)) (by decide);have g4:((((a.put (some 3) (.agg (aA (rR wd fl pt)).toArray)).put (some 4) (.agg (aA (rR wd fl pt)).toArray)).put (some 6) (ptV b1 0)).put (some 7) (iI wd)).tmps[4]?=some (.agg (aA (rR wd fl pt)).toArray):=aS (aS (aY _ _ _ (by simp only[aG,hsz]; decide)) (by decide)) (by decide);have g7:((((a.put (some 3) (.agg (aA (rR wd fl pt)).toArray)).put (some 4) (.agg (aA (rR wd fl pt)).toArray)).put (some 6) (ptV b1 0)).put (some 7) (iI wd)).tmps[7]?=some (iI wd):=aY _ _ _ (by simp only[aG,hsz]; decide);have g2:((((a.put (some 3) (.agg (aA (rR wd fl pt)).toArray)).put (some 4) (.agg (aA (rR wd fl pt)).toArray)).put (some 6) (ptV b1 0)).put (some 7) (iI wd)).tmps[2]?=some (ptV b2 0):=aS (aS (aS (aS t2 (by decide)) (by decide)) (by decide)) (by decide);have gd:((((a.put (some 3) (.agg (aA (rR wd fl pt)).toArray)).put (some 4) (.agg (aA (rR wd fl pt)).toArray)).put (some 6) (ptV b1 0)).put (some 7) (iI wd)).defers=[]:=hdf;have gs:((((a.put (some 3) (.agg (aA (rR wd fl pt)).toArray)).put (some 4) (.agg (aA (rR wd fl pt)).toArray)).put (some 6) (ptV b1 0)).put (some 7) (iI wd)).tmps.size=10:=by simp only[aG,hsz]
 generalize (((a.put (some 3) (.agg (aA (rR wd fl pt)).toArray)).put (some 4) (.agg (aA (rR wd fl pt)).toArray)).put (some 6) (ptV b1 0)).put (some 7) (iI wd)=a4 at *;obtain⟨o2,ho2,⟨ts2,hop2⟩,hd2,hg2⟩:∃x,(aD Hw)[2]?=some x∧(∃ts,x.op=.call ⟨.value (.func 108),#[.tmp 4],ts⟩)∧x.dst=some 5∧x.guard=none:=⟨_,rfl,⟨_,rfl⟩,rfl,rfl⟩
 refine aM (i:=2) (by kernel_rfl) ho2 fun K2 hK2 => ?_
 rw[if_pos (by simp[Region.wanted,hg2])];have hDd:Dbj w.drew:=hD.on hD.lt hd;refine dI hop2 (vs:=[.agg (aA (rR wd fl pt)).toArray]) (List.cons_eq_cons.2 ⟨cU g4,rfl⟩) (fun args=>bR func108 (by kernel_rfl) (by kernel_rfl) args _) (Bt (sq:=sq) (xs:=xs) (by omega) (by omega) (by omega) (by omega) (by omega) h0 hx hDd) fun e w2 hr => ?_
 obtain⟨cb,rfl,hb2,hcge,hc2,hc3,_⟩:=hr;refine⟨_,rfl,?_⟩;rw[hd2];have hcb:LM w2 cb (wd*(fl+pt)) xs:=⟨hc2,hc3⟩;have Vf:=(m1.on hd).on hb2;have m22:=(m2.on hd).on hb2;have hB2':Below w0.heap.size w0 w2:=(hbl.trans (hd.mono hbl.size)).trans (hb2.mono (Nat.le_trans hbl.size hd.size));refine hK2.out _ _ (Or.inr Vf.2) fun _ => ?_
 clear hK2;show dC _ _ _ _ _ _ _ _ (a4.put (some 5) (aV cb 0 (wd*(fl+pt)) (wd*(fl+pt)))) w2;obtain⟨o5,ho5,⟨ts5,hop5⟩,hd5,hg5⟩:∃x,(aD Hw)[5]?=some x∧(∃ts,x.op=.call ⟨.value (.func 109),#[.tmp 7],ts⟩)∧x.dst=some 8∧x.guard=none:=⟨_,rfl,⟨_,rfl⟩,rfl,rfl⟩
 refine aM (i:=5) (by kernel_rfl) ho5 fun K5 hK5 => ?_
 rw[if_pos (by simp[Region.wanted,hg5])];refine dI hop5 (vs:=[iI wd]) (List.cons_eq_cons.2 ⟨cU (aS g7 (by decide)),rfl⟩) (fun args=>bR func109 (by kernel_rfl) (by kernel_rfl) args _) (ZS (wd:=wd) (N:=2*wd-1) (by omega) (by omega)) fun e w3 hr => ?_
 obtain⟨ib,rfl,hb3,hige,hib⟩:=hr;refine⟨_,rfl,?_⟩;rw[hd5];have hcb:=hcb.on hb3;have m13:=Vf.on hb3;have m23:=m22.on hb3;have hB3:=hB2'.trans (hb3.mono hB2'.size);refine hK5.out _ _ (Or.inr m13.2) fun _ => ?_
 clear hK5;obtain⟨o6,ho6,hop6,hd6,hg6⟩:∃x,(aD Hw)[6]?=some x∧x.op=.build 132 #[(0,.tmp 3),(1,.tmp 5),(2,.tmp 8)]∧x.dst=some 9∧x.guard=none:=⟨_,rfl,rfl,rfl,rfl⟩
 have k3:=aS (d:=8) (u:=aV ib 0 (2*wd-1) (2*wd-1)) (aS (d:=5) (u:=aV cb 0 (wd*(fl+pt)) (wd*(fl+pt))) g3 (by decide)) (by decide);have k2:=aS (d:=8) (u:=aV ib 0 (2*wd-1) (2*wd-1)) (aS (d:=5) (u:=aV cb 0 (wd*(fl+pt)) (wd*(fl+pt))) g2 (by decide)) (by decide);have k5:=aS (d:=8) (u:=aV ib 0 (2*wd-1) (2*wd-1)) (aY a4 5 (aV cb 0 (wd*(fl+pt)) (wd*(fl+pt))) (by rw[gs]; decide)) (by decide);have k8:=aY (a4.put (some 5) (aV cb 0 (wd*(fl+pt)) (wd*(fl+pt)))) 8 (aV ib 0 (2*wd-1) (2*wd-1)) (by rw[aG,gs]; decide);have ks:((a4.put (some 5) (aV cb 0 (wd*(fl+pt)) (wd*(fl+pt)))).put (some 8) (aV ib 0 (2*wd-1) (2*wd-1))).tmps.size=10:=by simp only[aG,gs]
 have kd:((a4.put (some 5) (aV cb 0 (wd*(fl+pt)) (wd*(fl+pt)))).put (some 8) (aV ib 0 (2*wd-1) (2*wd-1))).defers=[]:=gd;change dC _ _ _ _ _ _ _ _ ((a4.put (some 5) (aV cb 0 (wd*(fl+pt)) (wd*(fl+pt)))).put (some 8) (aV ib 0 (2*wd-1) (2*wd-1))) w3;generalize (a4.put (some 5) (aV cb 0 (wd*(fl+pt)) (wd*(fl+pt)))).put (some 8) (aV ib 0 (2*wd-1) (2*wd-1))=a5 at *;refine aM (i:=6) (by kernel_rfl) ho6 fun K6 hK6 => ?_
 rw[if_pos (by simp[Region.wanted,hg6])];have hbt:=YY wd fl pt (aV cb 0 (wd*(fl+pt)) (wd*(fl+pt))) (aV ib 0 (2*wd-1) (2*wd-1)) ⟨_,_,_,rfl⟩ ⟨_,_,_,rfl⟩;have hrun6:(execOp a5.eval o6).run prog w3=.ok (.value (.agg (aA (rP wd fl pt (aV cb 0 (wd*(fl+pt)) (wd*(fl+pt))) (aV ib 0 (2*wd-1) (2*wd-1)))).toArray)) w3:=by
  have:=run_build (P:=prog) w3 132 #[(0,.agg (aA (rR wd fl pt)).toArray),(1,aV cb 0 (wd*(fl+pt)) (wd*(fl+pt))),(2,aV ib 0 (2*wd-1) (2*wd-1))] _ hbt;simp[execOp,hop6,cU k3,cU k5,cU k8,this]
 refine cO hrun6 ?_;rw[hd6];refine hK6.out _ _ (Or.inr m13.2) fun _ => ?_
 clear hK6;have q2:=aS (d:=9) (u:=.agg (aA (rP wd fl pt (aV cb 0 (wd*(fl+pt)) (wd*(fl+pt))) (aV ib 0 (2*wd-1) (2*wd-1)))).toArray) k2 (by decide);have q9:=aY a5 9 (.agg (aA (rP wd fl pt (aV cb 0 (wd*(fl+pt)) (wd*(fl+pt))) (aV ib 0 (2*wd-1) (2*wd-1)))).toArray) (by rw[ks]; decide);obtain⟨o7,ho7,hop7,hd7,hg7⟩:∃x,(aD Hw)[7]?=some x∧x.op=.store 132 (.tmp 2) (.tmp 9)∧x.dst=none∧x.guard=none:=⟨_,rfl,rfl,rfl,rfl⟩
 refine aM (i:=7) (by kernel_rfl) ho7 fun K7 hK7 => ?_
 rw[if_pos (by simp[Region.wanted,hg7])];have hput:put zP 0 (rP wd fl pt (aV cb 0 (wd*(fl+pt)) (wd*(fl+pt))) (aV ib 0 (2*wd-1) (2*wd-1)))=some (rP wd fl pt (aV cb 0 (wd*(fl+pt)) (wd*(fl+pt))) (aV ib 0 (2*wd-1) (2*wd-1))):=rfl;obtain⟨hO,hW⟩:=m23.set hput;refine eT (vs:=aA (rP wd fl pt (aV cb 0 (wd*(fl+pt)) (wd*(fl+pt))) (aV ib 0 (2*wd-1) (2*wd-1)))) hop7 hd7 (cU q2) (cU q9) rfl rfl Wt (m23.there (o:=0) (n:=5) (Nat.le_of_ble_eq_true rfl)) ?_;refine hK7.out _ _ (Or.inl rfl) fun _=>cK (by kernel_rfl) ?_
 generalize w3.setCells b2 0 (aA (rP wd fl pt (aV cb 0 (wd*(fl+pt)) (wd*(fl+pt))) (aV ib 0 (2*wd-1) (2*wd-1))))=w4 at *;have hnc:cb≠b2:=fun e=>by have:=m2.lt; have:=hd.size; omega
 have hni:ib≠b2:=fun e=>by have:=m22.lt; omega
 exact⟨rfl,_,_,kd,by rw[aG]; exact ks,q2,hO,⟨⟨cb,rfl,oldOf.wr hcb hW hnc⟩,⟨ib,rfl,oldOf.wr hib hW hni⟩,fun i hi=>(BU (hok i (by omega)) (hx i hi)).2⟩,hB3.trans (hW.below.mono hB2)⟩
theorem Fu (w:World) (p:Option Addr) (n m:Nat):bZ prog { qG prog with x:=xO w (fun _=>none) (fun _=>none) (assoc [(5,u6 n)]) } (fun _=>tC UD fun _=>none) f110 60 [.v (.im (.slice p n m))]=some ([∀w:World,(convert 3 22 (iI n)).run prog w=.ok (u6 n) w,n<18446744073709551616],.one (.fl [.q n])):=by kernel_rfl
theorem TC {w:World} {p:Option Addr} {n m:Nat} (hn:n≤65536):bD prog 110 (.one (.fl [.q n])) [.slice p n m] w :=
 bC aI (fun _ _=>FE.w _ _) (eK w _ _ _) func110 (Fu w p n m) ⟨BX (by omega),by omega,trivial⟩ (args:=[.slice p n m]) ⟨rfl,trivial⟩
def gCt (v:Value) (n:Nat):gE
 | [.v (.im u)]=>some ([u=v],.one (.fl [.q n]))
 | _=>none
noncomputable abbrev dgF:Func:=f86
def jO:Code:=(f86.body).getD .skip
def dgX:Code:=cB (cB (cB (cB jO)))
def Tn:Code:=kD (kD (kD dgX))
def dg5:Code:=cA (cB Tn)
def dgL:Code:=kD (kD (cB dg5))
def MF:Code:=cA (cB (cB Tn))
def To:Code:=cA (cB (cB (cB Tn)))
def UM:Code:=cB (cB (cB (cB Tn)))
theorem Kd:jO=.seq (cA jO) (.seq (cA (cB jO)) (.seq (cA (cB (cB jO))) (.seq (cA (cB (cB (cB jO)))) (.block 0 (.loop (.block 1 (.seq (cA Tn) (.seq (.seq (cA dg5) (.block 2 (.loop dgL))) (.seq (.region 10 (aD MF) false) (.seq To UM)))))))))):=by kernel_rfl
theorem aBs:dgF.ntmps=59:=by kernel_rfl
theorem aBo (v:Value) (wd fl pt:Nat) (cs is:Value):bE prog (qG prog) 59 (fun _=>tC T0 fun _=>none) 60 (cA jO) (fT 0 [.v (.fl (rP wd fl pt cs is)),.v (.im v)]) [.slot 1 (.im v),.slot 2 (.pt 2 0),.row 2 true (rP wd fl pt cs is),.slot 4 (.pt 4 0),.row 4 true zC]=some ([],.nrm,[.slot 1 (.im v),.slot 2 (.pt 2 0),.row 2 true (rP wd fl pt cs is),.slot 4 (.pt 4 0),.row 4 true zC]):=by kernel_rfl
def dA (v:Value) (pb rb:Nat):List Fact:=[.slot 1 (.im v),.slot 2 (.im (ptV pb 0)),.slot 4 (.im (ptV rb 0))]
theorem aBn (w:World) (v:Value) (pb rb wd:Nat):bE prog { qG prog with x:=xO w (fun _=>none) (fun _=>none) (assoc [(12,iI wd)]) } 59 (fun _=>tC T0 (assoc [(13,iI (wd-1))])) 60 (cA (cB jO)) (dA v pb rb) (.slot 5 (.im (iI (wd-1)))::dA v pb rb)=some ([oldOf w pb 0 [.c (iI wd)],aN .sub .i64 (Int.ofNat wd) 1=some (iI (wd-1))],.nrm,.slot 5 (.im (iI (wd-1)))::dA v pb rb):=by kernel_rfl
def xD (w:World) (N:Nat):Ext:={ Ext.none with mks:=assoc [(17,(N,sA N))],gen:=assoc [(16,iI N)],old:=oldOf w,T2:=Dt,T3:=Dg,T4:=Dr,T5:=kI,T6:=Ds }
theorem Vx (w:World) (N:Nat):bO prog { qG prog with x:=xD w N } w.heap.size w :=
 ⟨(aW _).1,iZ (fun b o l h=>h) (fun w' _=>FrAt.none _ _) (fun w' _=>FsAt.none _ _)⟩
theorem aBm (w:World) (v:Value) (pb rb wd:Nat):bE prog { qG prog with x:=xD w wd } 59 (fun _=>tC T0 fun _=>none) 60 (cA (cB (cB jO))) (.slot 5 (.im (iI (wd-1)))::dA v pb rb) (.slot 6 (.sl 17 0 wd wd) :: .row 17 true (sA wd) :: .slot 5 (.im (iI (wd-1)))::dA v pb rb)=some ([oldOf w pb 0 [.c (iI wd)],∃e,∀w:World,(Instr.makeSlice 92 (iI wd) (iI wd)).run prog w=.ok (.slice (some ⟨w.heap.size,0,none⟩) wd wd) (w.alloc (.cells (aA (sA wd)).toArray e))],.nrm,.slot 6 (.sl 17 0 wd wd) :: .row 17 true (sA wd) :: .slot 5 (.im (iI (wd-1)))::dA v pb rb):=by kernel_rfl
def xI2 (i:Nat) (Z:List At):Ext:={ Ext.none with idx:=assoc [(21,i)],st:=assoc [(21,Z)],T2:=Dt,T3:=Dg,T4:=Dr,T5:=kI,T6:=Ds }
theorem Nr (i:Nat) (Z:List At) (base:Nat) (w:World):bO prog { qG prog with x:=xI2 i Z } base w :=
 ⟨(aW _).1,iZ (fun b o l h=>h.elim) (fun w' _=>FrAt.none _ _) (fun w' _=>FsAt.none _ _)⟩
theorem aBl (v:Value) (pb rb wd N:Nat) (Z Z':List At):bE prog { qG prog with x:=xI2 0 Z' } 59 (fun _=>tC (T0.add 110 (gCt v N)) fun _=>none) 60 (cA (cB (cB (cB jO)))) (.slot 6 (.sl 17 0 wd wd) :: .row 17 true Z :: .slot 5 (.im (iI (wd-1)))::dA v pb rb) (.slot 6 (.sl 17 0 wd wd) :: .row 17 true Z' :: .slot 5 (.im (iI (wd-1)))::dA v pb rb)=some ([v=v,(0:Int)=Int.ofNat 0,0<wd,put Z (0+0*4) [.q N]=some Z'],.nrm,.slot 6 (.sl 17 0 wd wd) :: .row 17 true Z' :: .slot 5 (.im (iI (wd-1)))::dA v pb rb):=by kernel_rfl
def dF (v:Value) (pb rb wd sb m6:Nat) (l6:List At):List Fact:=.slot 6 (.sl 1006 0 wd m6) :: .row 1006 true l6 :: .at 1006 sb :: .slot 5 (.im (iI (wd-1)))::dA v pb rb
def dG (v:Value) (T pb rb wd sb m6:Nat) (l6:List At):List Fact:=.slot 7 (.im (iI T))::dF v pb rb wd sb m6 l6
def dH (v cv:Value) (T j pb rb wd sb m6:Nat) (l6:List At):List Fact:=.slot 28 (.im cv) :: .slot 29 (.im (iI T)) :: .slot 30 (.im (iI j))::dG v T pb rb wd sb m6 l6
section
variable (w:World) (pb rb wd sb m6:Nat) (l6:List At)
theorem aBq (p:Option Addr) (N m T:Nat):bE prog (qG prog) 59 (fun _=>tC T0 (assoc [(25,iI T)])) 60 (cA Tn) (dF (.slice p N m) pb rb wd sb m6 l6) (dG (.slice p N m) T pb rb wd sb m6 l6)=some ([Value.int .i64 (if Int.ofNat N<Int.ofNat (wd-1)then Int.ofNat N else Int.ofNat (wd-1))=iI T],.nrm,dG (.slice p N m) T pb rb wd sb m6 l6):=by kernel_rfl
theorem aBp (p:Option Addr) (N m T:Nat):bE prog (qG prog) 59 (fun _=>tC T0 fun _=>none) 60 (cA dg5) (dG (.slice p N m) T pb rb wd sb m6 l6) (dH (.slice p N m) (.slice p T m) T 0 pb rb wd sb m6 l6)=some ([T≤m],.nrm,dH (.slice p N m) (.slice p T m) T 0 pb rb wd sb m6 l6):=by kernel_rfl
theorem aFt (v:Value) (b o T m j x c:Nat) (l6':List At):bE prog { qG prog with x:=zM w (assoc [(33,j),(41,1+j),(45,1+j)]) (assoc [(34,[.q c]),(42,[.q x])]) (assoc [(45,l6')]) (fun _=>none) } 59 (fun _=>tC UC (assoc [(31,.bool true),(37,iI (1+j)),(40,iI (1+j)),(46,iI (j+1))])) 60 dgL (dH v (aV b o T m) T j pb rb wd sb m6 l6) (dH v (aV b o T m) T (j+1) pb rb wd sb m6 l6')=some ([aN .lss .i64 (Int.ofNat j) (Int.ofNat T)=some (.bool true),Int.ofNat j=Int.ofNat j,j<T,oldOf w b (o+j*4) [.q c],dD [.q c]=4,aN .add .i64 1 (Int.ofNat j)=some (iI (1+j)),aN .add .i64 1 (Int.ofNat j)=some (iI (1+j)),Int.ofNat (1+j)=Int.ofNat (1+j),1+j<wd,yC l6 (0+(1+j)*4) 4=some [.q x],x<RM,c<RM,Int.ofNat (1+j)=Int.ofNat (1+j),1+j<wd,put l6 (0+(1+j)*4) [.q (gS x c)]=some l6',aN .add .i64 (Int.ofNat j) 1=some (iI (j+1))],.nrm,dH v (aV b o T m) T (j+1) pb rb wd sb m6 l6'):=by kernel_rfl
theorem aBt (v cv:Value) (T j:Nat):bE prog (qG prog) 59 (fun _=>tC T0 (assoc [(31,.bool false)])) 60 dgL (dH v cv T j pb rb wd sb m6 l6) (dG v T pb rb wd sb m6 l6)=some ([aN .lss .i64 (Int.ofNat j) (Int.ofNat T)=some (.bool false)],.ex 2,dG v T pb rb wd sb m6 l6):=by kernel_rfl
end
def dK (v u:Value) (pb rb wd T:Nat):List Fact:=[.slot 6 (.im u),.slot 7 (.im (iI T)),.slot 5 (.im (iI (wd-1))),.slot 1 (.im v),.slot 2 (.im (ptV pb 0)),.slot 4 (.im (ptV rb 0))]
theorem Tm (w:World) (v u:Value) (pb rb wd T fl pt:Nat) (cs is:Value):eH prog { qG prog with x:=xO w (fun _=>none) (assoc [(47,rP wd fl pt cs is)]) (fun _=>none) } 59 (tC T0 fun _=>none) ((aD MF).extract 0 2) (dK v u pb rb wd T) (.slot 47 (.fl (rP wd fl pt cs is)) :: .slot 48 (.im u)::dK v u pb rb wd T)=some ([oldOf w pb 0 (rP wd fl pt cs is),dD (rP wd fl pt cs is)=5],.slot 47 (.fl (rP wd fl pt cs is)) :: .slot 48 (.im u)::dK v u pb rb wd T):=by kernel_rfl
theorem Tl (v u x:Value) (pb rb wd T:Nat):eH prog (qG prog) 59 (tC T0 fun _=>none) ((aD MF).extract 3 4) (.slot 49 (.im u)::dK v x pb rb wd T) (dK v u pb rb wd T)=some ([],dK v u pb rb wd T):=by kernel_rfl
theorem aBv (w:World) (v v' u:Value) (pb rb wd T:Nat):bE prog { qG prog with x:=xO w (fun _=>none) (fun _=>none) (assoc [(52,v')]) } 59 (fun _=>tC T0 fun _=>none) 60 To (dK v u pb rb wd T) (dK v' u pb rb wd T)=some ([∀w:World,(Instr.sliceAt 92 v (some (iI T)) none none).run prog w=.ok v' w],.nrm,dK v' u pb rb wd T):=by kernel_rfl
def IF:Code→Code
 | .cond _ x _=>x
 | c=>c
theorem aFu:UM=.seq (cA UM) (.cond (.tmp 55) (.seq (.region 13 (aD (cA (IF (cB UM)))) false) .ret) .skip):=by kernel_rfl
theorem Mr (u:Value) (p:Option Addr) (N m:Nat) (z:Bool) (pb rb wd T:Nat):bE prog (qG prog) 59 (fun _=>tC T0 (assoc [(55,.bool z)])) 60 (cA UM) (dK (.slice p N m) u pb rb wd T) (.slot 55 (.im (.bool z))::dK (.slice p N m) u pb rb wd T)=some ([aN .eql .i64 (Int.ofNat N) 0=some (.bool z)],.nrm,.slot 55 (.im (.bool z))::dK (.slice p N m) u pb rb wd T):=by kernel_rfl
theorem aBu (w:World) (v:Value) (pb rb wd T sb m x:Nat):eH prog { qG prog with x:=xO w (assoc [(57,1)]) (assoc [(58,[.q x])]) (fun _=>none) } 59 (tC T0 fun _=>none) ((aD (cA (IF (cB UM)))).extract 0 3) (dK v (aV sb 0 wd m) pb rb wd T) [.slot 58 (.fl [.q x]),.slot 4 (.im (ptV rb 0))]=some ([(1:Int)=Int.ofNat 1,1<wd,oldOf w sb (0+1*4) [.q x],dD [.q x]=4],[.slot 58 (.fl [.q x]),.slot 4 (.im (ptV rb 0))]):=by kernel_rfl
theorem OH {h h':Nat→Nat} {n p y:Nat} (hp:p<n) (e1:h' p=y) (e2:∀q,q≠p→h' q=h q):put (bP (el h) 0 n) (0+p*4) [.q y]=some (bP (el h') 0 n):=by
 rw[jF (el h) p n 0 hp,jF (el h') p n 0 hp];have q1:bP (el h) 0 p=bP (el h') 0 p:=fI p 0 fun q hq=>(e2 _ (by omega)).symm
 have q2:bP (el h) (0+p+1) (n-p-1)=bP (el h') (0+p+1) (n-p-1):=fI _ _ fun q hq=>(e2 _ (by omega)).symm
 have q3:el h' (0+p)=[.q y]:=by show [At.q (h' (0+p))]=_; rw[Nat.zero_add,e1]
 rw[AN (bP (el h) 0 p) (el h (0+p)) _ [.q y] (by rw[fJ (f:=el h) (c:=4) (fun _=>rfl)]; omega) rfl,q1,q2,q3]
theorem Ez {b o n m i:Nat} (h:i≤n) (hm:n≤m) (w:World):(Instr.sliceAt 92 (aV b o n m) (some (iI i)) none none).run prog w=.ok (aV b (if m=i then o else o+i*4) (n-i) (m-i)) w:=by
 have hu:prog.underlying 92=some (.slice 27):=underlying92;have hs:cL prog 27=some 4:=by kernel_rfl
 by_cases e:m=i
 ·rw[if_pos e];simp[Instr.sliceAt,Instr.slice,aV,iI,run_underlying hu,Instr.sliceBounds,Instr.sliceBound,asIntOf,bA hs,h,e]
 ·rw[if_neg e];simp[Instr.sliceAt,Instr.slice,aV,iI,run_underlying hu,Instr.sliceBounds,Instr.sliceBound,asIntOf,bA hs,h,e,Addr.add_mid]
def lU (s g:Nat→Nat) (j q:Nat):Nat:=if 1≤q∧q<1+j then gS (s q) (g (q-1))else s q
theorem Qw (s g:Nat→Nat):lU s g 0=s:=funext fun q=>by unfold lU; rw[if_neg (by omega)]
def Ew (P:(Nat→Nat)→Nat→Nat) (rt:Nat):Nat→Nat→(Nat→Nat)→(Nat→Nat)→Nat
 | 0,_,_,s=>s 1
 | k+1,N,f,s=>if N-min rt N=0 then P (lU s f (min rt N)) 1 else Ew P rt k (N-min rt N) (fun j=>f (min rt N+j)) (P (lU s f (min rt N)))
structure DgS (w1:World) (pb rb wd sb m6:Nat) (v:Value) (s:Nat→Nat) (a:Act) (w:World):Prop where
 defers:a.defers=[]
 size:a.tmps.size=59
 t1:a.tmps[1]?=some v
 t2:a.tmps[2]?=some (ptV pb 0)
 t4:a.tmps[4]?=some (ptV rb 0)
 t5:a.tmps[5]?=some (iI (wd-1))
 t6:a.tmps[6]?=some (aV sb 0 wd m6)
 below:Below w1.heap.size w1 w
 shape:Shape w1 w
 o6:Own w sb (bP (el s) 0 wd)
 l6:w1.heap.size≤sb
theorem DgS.holds {w1:World} {pb rb wd sb m6:Nat} {v:Value} {s:Nat→Nat} {a:Act} {w:World} (h:DgS w1 pb rb wd sb m6 v s a w):Holds 59 w1.heap.size w1 (dF v pb rb wd sb m6 (bP (el s) 0 wd)) a w:=by
 refine⟨h.defers,h.size,h.below,h.below.size,fun k=>bif Nat.beq k 1006 then (sb,0,m6)else (w1.heap.size,0,0),fun φ hφ => ?_,fun k k' o' l l' e1 e2 hne => ?_,fun k l e1 => ?_,h.below.size,fun p q1 q2 => ?_,h.shape⟩
 ·simp only[dF,dA,List.mem_cons,List.not_mem_nil,or_false]at hφ
  rcases hφ with rfl|rfl|rfl|rfl|rfl|rfl|rfl
  ·exact h.t6
  ·exact⟨h.o6.lt,h.o6.row,fun _=>⟨h.l6,rfl,h.o6.free⟩,fun h=>by cases h⟩
  ·exact⟨rfl,rfl⟩
  ·exact h.t5
  ·exact h.t1
  ·exact h.t2
  ·exact h.t4
 ·simp only[dF,dA,List.mem_cons,reduceCtorEq,Fact.row.injEq,false_or,List.not_mem_nil,or_false]at e1 e2;exact (hne (e1.1.trans e2.1.symm)).elim
 ·simp only[dF,dA,List.mem_cons,reduceCtorEq,Fact.row.injEq,false_or,List.not_mem_nil,or_false]at e1;obtain⟨rfl,_⟩:=e1;exact Or.inr h.l6
 ·exact absurd (Nat.lt_trans q1 q2) (Nat.lt_irrefl _)
theorem pH (x:Nat):(aA [At.q x]).all (·.oneCell')=true:=by simp[aA,At.cells,w4,Value.oneCell']
theorem Lh {base:Nat} {w0:World} {p:Option Addr} {n m:Nat} (hn:n≤65536):TabOkW prog (T0.add 110 (gCt (.slice p n m) n)) base w0 :=
 TabOkW.add ((bT _).w _ _) func110 (by kernel_rfl) (by kernel_rfl) (fun w hw cs pre r hg hp args ha=>by
  unfold gCt at hg;split at hg
  ·cases hg
   match args,ha with
   | [u],ha =>
    have e:u=_:=ha.1;rw[hp.1]at e;subst e;exact TC hn
   | [],ha=>exact ha.elim
   | _::_::_,ha=>exact ha.2.elim
  ·cases hg)
def Dc (p:Option Addr) (m:Nat):Prop:=(p=none∧m=0)∨∃b o,p=some ⟨b,o,none⟩
theorem YK (w:World):(Instr.sliceAt 92 (.slice none 0 0) (some (iI 0)) none none).run prog w=.ok (.slice none 0 0) w:=by
 have hu:prog.underlying 92=some (.slice 27):=underlying92;have hs:cL prog 27=some 4:=by kernel_rfl
 simp[Instr.sliceAt,Instr.slice,iI,run_underlying hu,Instr.sliceBounds,Instr.sliceBound,asIntOf,bA hs]
theorem Ep {w1:World} {p:Option Addr} {N m T:Nat} {f:Nat→Nat} (h:Dc p m) (hv:LV w1 (.slice p N m) N f) (hT:T≤N):∃p2 m2,N-T≤m2∧(∀w:World,(Instr.sliceAt 92 (.slice p N m) (some (iI T)) none none).run prog w=.ok (.slice p2 (N-T) m2) w)∧LV w1 (.slice p2 (N-T) m2) (N-T) (fun j=>f (T+j))∧Dc p2 m2:=by
 obtain⟨p',m',e,hNm,h256,hmem⟩:=id hv;cases e
 rcases h with⟨rfl,rfl⟩|⟨b,o,rfl⟩
 ·obtain rfl:N=0:=by omega
  obtain rfl:T=0:=by omega
  exact⟨none,0,Nat.le_refl _,YK,⟨none,0,rfl,Nat.le_refl _,fun j h=>by omega,fun h=>by omega⟩,Or.inl ⟨rfl,rfl⟩⟩
 ·refine⟨some ⟨b,if m=T then o else o+T*4,none⟩,m-T,by omega,fun w=>Ez hT hNm w,?_,Or.inr ⟨_,_,rfl⟩⟩
  by_cases e:m=T
  ·exact⟨_,_,rfl,by omega,fun j h=>h256 _ (by omega),fun h=>by omega⟩
  ·rw[if_neg e]
   by_cases hz:N-T=0
   ·exact⟨_,_,rfl,by omega,fun j h=>h256 _ (by omega),fun h=>by omega⟩
   ·exact hv.piece (o:=o) (i:=T) (k:=N-T) (by omega)
theorem SX {w0:World} {wd fl pt N m:Nat} {p:Option Addr} {xs f:Nat→Nat} {cs is:Value} (hM:PmM w0 wd fl pt xs cs is) (hsv:Dc p m) (hv:LV w0 (.slice p N m) N f) (hf:∀q,q<N→f q<RM) (h2:2≤wd) (hw:wd≤32) (hfl:fl≤1024) (hpt:pt≤1024) (hN:N≤65536) :
  bD prog 86 (.one (.fl [.q (Ew (gP xs wd fl pt (fl+pt)) (wd-1) (N+1) N f fun q=>if q=0 then N else 0)])) [.agg (aA (rP wd fl pt cs is)).toArray,.slice p N m] w0:=by
 have hG:∀base w,bO prog (qG prog) base w:=fun _ _=>(aW _).w _ _
 have hT:∀base w,∀n d:Nat,TabOkW prog T0 base w:=fun _ _ _ _=>(bT _).w _ _
 have hnt:f86.ntmps=59:=aBs;refine cQ func86 (cs:=[.v (.fl (rP wd fl pt cs is)),.v (.im (.slice p N m))]) (args:=[.agg (aA (rP wd fl pt cs is)).toArray,.slice p N m]) (c:=jO) rfl ⟨rfl,rfl,trivial⟩ (Nat.le_of_ble_eq_true (by kernel_rfl)) fun a w hA => ?_
 rw[hnt]at hA;rw[Kd];refine wp_seq (aB aI (hT _ _) (hG _ _) (aBo (.slice p N m) wd fl pt cs is) trivial hA fun a w1 hA => ?_);obtain⟨pb,hA⟩:=hA.at (k:=2) (l:=rP wd fl pt cs is) (by simp);obtain⟨rb,hA⟩:=hA.at (k:=4) (l:=zC) (by simp);have hpb:oldOf w1 pb 0 (rP wd fl pt cs is):=hA.old (k:=2) (by simp) (by simp);have hrb:Own w1 rb zC:=hA.own (k:=4) (by simp) (by simp);have hrB:w0.heap.size≤rb:=hA.geq (k:=4) (l:=zC) (by simp) (by simp);have hM1:=hM.on hA.below;have hv1:=hv.on hA.below;have hbl:=hA.below;have hS:=bB (nt:=59) (w:=w1) (a:=a) (ts:=[(1,.slice p N m),(2,ptV pb 0),(4,ptV rb 0)]) hA.defers hA.size (fun x hx=>by
  simp only[List.mem_cons,List.not_mem_nil,or_false]at hx
  rcases hx with rfl|rfl|rfl
  ·exact hA.slot (by simp)
  ·exact hA.ptS (s:=2) (k:=2) (o:=0) (by simp) (by simp)
  ·exact hA.ptS (s:=4) (k:=4) (o:=0) (by simp) (by simp))
 clear hA;have p0:oldOf w1 pb 0 [.c (iI wd)]:=⟨hpb.1,dN (i:=0) (n:=1) hpb.2 rfl⟩;refine wp_seq (aB aI (hT _ _) (eK w1 _ _ _) (aBn w1 (.slice p N m) pb rb wd) ⟨p0,qT (i:=wd) (k:=1) (by omega) (by omega),trivial⟩ hS fun a w2 hA => ?_);refine wp_seq (aB aI (hT _ _) (Vx w1 wd) (aBm w1 (.slice p N m) pb rb wd) ⟨p0,PA (t:=92) (e:=27) (z:=[.q 0]) (v:=.int .u64 0) (n:=4) (by8:=32) (by kernel_rfl) (by kernel_rfl) rfl uD (by omega) (by omega) (by omega),trivial⟩ hA fun a w2 hA => ?_);have hput:put (sA wd) (0+0*4) [.q N]=some (bP (el fun q=>if q=0 then N else 0) 0 wd):=OH (h:=fun _=>0) (h':=fun q=>if q=0 then N else 0) (p:=0) (by omega) (if_pos rfl) fun q hq=>if_neg hq
 refine wp_seq (aB aI (fun _ _=>Lh hN) (Nr 0 _ _ _) (aBl (.slice p N m) pb rb wd N (sA wd) _) ⟨rfl,rfl,by omega,hput,trivial⟩ hA fun a w3 hA => ?_);obtain⟨sb,hA⟩:=hA.at (k:=17) (l:=bP (el fun q=>if q=0 then N else 0) 0 wd) (by simp);have hD:DgS w1 pb rb wd sb wd (.slice p N m) (fun q=>if q=0 then N else 0) a w3:=⟨hA.defers,hA.size,hA.slot (by simp[dA]),hA.slot (by simp[dA]),hA.slot (by simp[dA]),hA.slot (by simp),(hA.im (s:=6) (k:=17) (o:=0) (n:=wd) (m:=wd) (b:=sb) (by simp) (by simp)).slot (by simp),hA.below,hA.shape,hA.own (k:=17) (by simp) (by simp),hA.geq (k:=17) (l:=bP (el fun q=>if q=0 then N else 0) 0 wd) (by simp) (by simp)⟩;have hs0:∀q,q<wd→(fun q=>if q=0 then N else 0) q<RM:=fun q _=>by
  have:N<RM:=Nat.lt_of_le_of_lt hN (by decide)
  by_cases e:q=0
  ·show (if q=0 then N else 0)<RM;rw[if_pos e]; exact this
  ·show (if q=0 then N else 0)<RM;rw[if_neg e]; exact fW
 generalize (fun q=>if q=0 then N else 0:Nat→Nat)=s0 at hD hs0;clear hA hS hput hv;refine wp_block (dV (n:=N+1) ?_);generalize hX:Ew (gP xs wd fl pt (fl+pt)) (wd-1) (N+1) N f s0=X;have key:∀k N p m f s sb m6 a w,N<k→N≤65536→wd≤m6→Dc p m→LV w1 (.slice p N m) N f→(∀q,q<N→f q<RM)→(∀q,q<wd→s q<RM)→DgS w1 pb rb wd sb m6 (.slice p N m) s a w→Ew (gP xs wd fl pt (fl+pt)) (wd-1) k N f s=X →
   Un prog (.block 1 (.seq (cA Tn) (.seq (.seq (cA dg5) (.block 2 (.loop dgL))) (.seq (.region 10 (aD MF) false) (.seq To UM))))) (Exit.inBlock 0 (bodyPost prog f86 fun e w'=>e=.returned (RV.one (.fl [.q X])).den∧Below w0.heap.size w0 w')) k a w:=by
  intro k
  induction k with
  | zero=>intro N p m f s sb m6 a w h; omega
  | succ k ih =>
   intro N p m f s sb m6 a w hk hN hm6 hsv hv hf hs hS hX;obtain⟨p',m',e',hNm,h256,hmem⟩:=id hv;cases e';unfold Un;refine wp_block ?_;obtain⟨T,hTe⟩:∃T,min (wd-1) N=T:=⟨_,rfl⟩
   have hTN:T≤N:=by omega
   have hTw:T≤wd-1:=by omega
   have hmin:Value.int .i64 (if Int.ofNat N<Int.ofNat (wd-1)then Int.ofNat N else Int.ofNat (wd-1))=iI T:=by
    by_cases h:N<wd-1
    ·rw[if_pos (by show (N:Int)<((wd-1:Nat):Int); omega),show T=N by omega]; rfl
    ·rw[if_neg (by show ¬(N:Int)<((wd-1:Nat):Int); omega),show T=wd-1 by omega]; rfl
   refine wp_seq (aB aI (hT _ _) (hG _ _) (aBq pb rb wd sb m6 _ _ N m T) ⟨hmin,trivial⟩ hS.holds fun a w hA => ?_);refine wp_seq (wp_seq (aB aI (hT _ _) (hG _ _) (aBp pb rb wd sb m6 _ _ N m T) ⟨by omega,trivial⟩ hA fun a w hA => ?_));refine wp_block ?_;rw[←Qw s f]at hA;refine kE aI (fun j=>dH (.slice p N m) (.slice p T m) T j pb rb wd sb m6 (bP (el (lU s f j)) 0 wd)) T (fun j hj => ?_) (.ex 2) (by simp) (dG (.slice p N m) T pb rb wd sb m6 (bP (el (lU s f T)) 0 wd)) ⟨_,_,_,_,hG _ _,hT _ _,aBt pb rb wd sb m6 _ (.slice p N m) (.slice p T m) T T,dS (Nat.le_refl _),trivial⟩ hA fun a w hA => ?_
   ·obtain⟨b',o',e,hb,hr⟩:=hmem (by omega);cases e;have hmj:lU s f j (1+j)=s (1+j):=by unfold lU; rw[if_neg (by omega)]
    have hp:put (bP (el (lU s f j)) 0 wd) (0+(1+j)*4) [.q (gS (s (1+j)) (f j))]=some (bP (el (lU s f (j+1))) 0 wd):=OH (by omega) (by unfold lU; rw[if_pos (by omega),show 1+j-1=j by omega]) fun q hq=>by
     unfold lU
     by_cases c:1≤q∧q<1+j
     ·rw[if_pos c,if_pos (by omega)]
     ·rw[if_neg c,if_neg (by omega)]
    exact⟨_,_,_,_,jS w1 _ _ _ _,fun _ _=>FB.w _ _,aFt w1 pb rb wd sb m6 _ (.slice (some ⟨b',o',none⟩) N m) b' o' T m j (s (1+j)) (f j) _,fB hj,rfl,hj,mW hb hr (by omega),rfl,gM (i:=1) (by omega),gM (i:=1) (by omega),rfl,by omega,by rw[AD (by omega),hmj],hs _ (by omega),hf _ (by omega),rfl,by omega,hp,gM (k:=1) (by omega),trivial⟩
   have hms:∀q,q<wd→lU s f T q<RM:=fun q hq=>by
    unfold lU
    by_cases c:1≤q∧q<1+T
    ·rw[if_pos c]; exact cR _ _
    ·rw[if_neg c]; exact hs q hq
   have hX:(if N-T=0 then gP xs wd fl pt (fl+pt) (lU s f T) 1 else Ew (gP xs wd fl pt (fl+pt)) (wd-1) k (N-T) (fun j=>f (T+j)) (gP xs wd fl pt (fl+pt) (lU s f T)))=X:=by
    have hX:(if N-min (wd-1) N=0 then gP xs wd fl pt (fl+pt) (lU s f (min (wd-1) N)) 1 else Ew (gP xs wd fl pt (fl+pt)) (wd-1) k (N-min (wd-1) N) (fun j=>f (min (wd-1) N+j)) (gP xs wd fl pt (fl+pt) (lU s f (min (wd-1) N))))=X:=hX
    rwa [hTe]at hX
   generalize lU s f T=g at hA hms hX;simp only[EA.out,Exit.then,Exit.inBlock,if_true];have hO:Own w sb (bP (el g) 0 wd):=hA.own (k:=1006) (by simp[dG,dF]) (by simp[dG,dF]);have hb1:=hA.below;have hsh1:=hA.shape;have hl6:=hS.l6;have hS2:=bB (nt:=59) (w:=w) (a:=a) (ts:=[(6,aV sb 0 wd m6),(7,iI T),(5,iI (wd-1)),(1,.slice p N m),(2,ptV pb 0),(4,ptV rb 0)]) hA.defers hA.size (fun x hx=>by
    simp only[List.mem_cons,List.not_mem_nil,or_false]at hx
    rcases hx with rfl|rfl|rfl|rfl|rfl|rfl
    ·exact (hA.im (s:=6) (k:=1006) (o:=0) (n:=wd) (m:=m6) (b:=sb) (by simp[dG,dF]) (by simp[dG,dF])).slot (by simp)
    ·exact hA.slot (by simp[dG,dF,dA])
    ·exact hA.slot (by simp[dG,dF,dA])
    ·exact hA.slot (by simp[dG,dF,dA])
    ·exact hA.slot (by simp[dG,dF,dA])
    ·exact hA.slot (by simp[dG,dF,dA]))
   clear hA hS;refine wp_seq (bQ (l:=List.range' 0 ((aD MF).extract 0 2).size++(2::(List.range' 3 ((aD MF).extract 3 4).size++[]))) (by kernel_rfl) ?_);refine aU (c:=tC T0 _) (hT _ _ 0) (eK w _ _ _) (Tm w (.slice p N m) (aV sb 0 wd m6) pb rb wd T fl pt cs is) ⟨hpb.on hb1,rfl,trivial⟩ (by kernel_rfl) hS2 fun a2 w2 hA => ?_
   obtain⟨o2,ho2,⟨ts2,hop2⟩,hd2,hg2⟩:∃x,(aD MF)[2]?=some x∧(∃ts,x.op=.call ⟨.value (.func 112),#[.tmp 47,.tmp 48],ts⟩)∧x.dst=some 49∧x.guard=none:=⟨_,rfl,⟨_,rfl⟩,rfl,rfl⟩
   have hb2:=hb1.trans (hA.below.mono hb1.size);have hO2:=hO.on hA.below;have hvs:LV w2 (aV sb 0 wd m6) wd g:=⟨_,m6,rfl,hm6,fun q hq=>kO (hms q hq),fun _=>⟨sb,0,rfl,hO2.lt,hO2.row⟩⟩;refine bM ho2 hg2 (dI hop2 (vs:=[.agg (aA (rP wd fl pt cs is)).toArray,aV sb 0 wd m6]) (List.cons_eq_cons.2 ⟨cU (hA.slotF (s:=47) (by simp)),List.cons_eq_cons.2 ⟨cU (hA.slot (s:=48) (by simp)),rfl⟩⟩) (fun args=>bR func112 (by kernel_rfl) (by kernel_rfl) args _) (XP (hM1.on hb2) hvs hms (by omega) hw hfl hpt) fun e w3 hr => ?_);obtain⟨sc,mc,rfl,hmc,hb3,hge3,hO3⟩:=hr;refine⟨_,rfl,?_⟩;rw[hd2];have hb13:=hb2.trans (hb3.mono hb2.size);have hsh3:=(hsh1.trans hA.shape).trans (Shape.below hb3);have hlc:w1.heap.size≤sc:=Nat.le_trans hb2.size hge3;have hS3:=bB (nt:=59) (w:=w3) (a:=a2.put (some 49) (aV sc 0 wd mc)) (ts:=[(49,aV sc 0 wd mc),(6,aV sb 0 wd m6),(7,iI T),(5,iI (wd-1)),(1,.slice p N m),(2,ptV pb 0),(4,ptV rb 0)]) hA.defers (by rw[aG]; exact hA.size) (fun x hx=>by
    simp only[List.mem_cons,List.not_mem_nil,or_false]at hx
    rcases hx with rfl|rfl|rfl|rfl|rfl|rfl|rfl
    ·exact aY _ _ _ (by rw[hA.size]; decide)
    all_goals exact aS (hA.slot (by simp[dK])) (by simp))
   clear hA hS2 hO hO2 hvs;refine aU (c:=tC T0 _) (hT _ _ 0) (hG _ _) (Tl (.slice p N m) (aV sc 0 wd mc) (aV sb 0 wd m6) pb rb wd T) trivial (by kernel_rfl) hS3 fun a4 w4 hA => ?_
   show (Code.seq _ _).wp _ _ _ _;obtain⟨p2,m2,hm2,htl,hv2,hsv2⟩:=Ep hsv hv hTN;refine wp_seq (aB aI (hT _ _) (eK w3 _ _ _) (aBv w3 (.slice p N m) (.slice p2 (N-T) m2) (aV sc 0 wd mc) pb rb wd T) ⟨htl,trivial⟩ hA fun a5 w5 hA => ?_);have wlE:∀Q a w,(Code.seq (cA UM) (.cond (.tmp 55) (.seq (.region 13 (aD (cA (IF (cB UM)))) false) .ret) .skip)).wp prog Q a w→UM.wp prog Q a w:=fun Q a w h=>by rw[aFu]; exact h
   refine wlE _ _ _ ?_
   by_cases hz:N-T=0
   ·rw[if_pos hz]at hX;refine wp_seq (aB aI (hT _ _) (hG _ _) (Mr _ _ (N-T) m2 true pb rb wd T) ⟨by rw[hz]; rfl,trivial⟩ hA fun a6 w6 hA => ?_);have hc:=hA.imV (s:=55) (v:=.bool true) (by simp);refine wp_cond_true hc ?_;have hO6:=hO3.on hA.below;have hB6:=hb13.trans (hA.below.mono hb13.size);have hS6:=bB (nt:=59) (w:=w6) (a:=a6) (ts:=[(6,aV sc 0 wd mc),(7,iI T),(5,iI (wd-1)),(1,.slice p2 (N-T) m2),(2,ptV pb 0),(4,ptV rb 0)]) hA.defers hA.size (fun x hx=>by
     simp only[List.mem_cons,List.not_mem_nil,or_false]at hx
     rcases hx with rfl|rfl|rfl|rfl|rfl|rfl<;>exact hA.slot (by simp[dK,aV]))
    clear hA hS3;refine wp_seq (bQ (l:=List.range' 0 ((aD (cA (IF (cB UM)))).extract 0 3).size++(3::[])) (by kernel_rfl) ?_);refine aU (c:=tC T0 _) (hT _ _ 0) (eK w6 _ _ _) (aBu w6 (.slice p2 (N-T) m2) pb rb wd T sc mc (gP xs wd fl pt (fl+pt) g 1)) ⟨rfl,by omega,mW hO6.lt hO6.row (by omega),rfl,trivial⟩ (by kernel_rfl) hS6 fun a7 w7 hA => ?_
    obtain⟨o3,ho3,hop3,hd3,hg3⟩:∃x,(aD (cA (IF (cB UM))))[3]?=some x∧x.op=.store 27 (.tmp 4) (.tmp 58)∧x.dst=none∧x.guard=none:=⟨_,rfl,rfl,rfl,rfl⟩
    have hB7:=hB6.trans (hA.below.mono hB6.size);have hR7:=hrb.on hB7;have hput:put zC 0 [.q (gP xs wd fl pt (fl+pt) g 1)]=some [.q (gP xs wd fl pt (fl+pt) g 1)]:=rfl;obtain⟨hR8,hW8⟩:=hR7.set hput;refine bM ho3 hg3 (eT (vs:=aA [.q (gP xs wd fl pt (fl+pt) g 1)]) hop3 hd3 (cU (hA.slot (s:=4) (by simp))) (cU (hA.slotF (s:=58) (by simp))) rfl (pH _) Oh (hR7.there (o:=0) (n:=4) (Nat.le_of_ble_eq_true rfl)) ?_);have hH:=hR8.holds (k:=4) (nt:=59) (a:=a7) (ts:=[]) hA.defers hA.size rfl (hA.slot (by simp)) (fun x hx=>by cases hx);rw[hX]at hH hW8 ⊢;refine wp_ret ?_;simp only[Exit.then,Exit.inBlock];exact (cT (l:=[.fl [.q X]]) (r:=.one (.fl [.q X])) (by kernel_rfl) (by kernel_rfl) hH ⟨rfl,(hbl.trans (hB7.mono hbl.size)).trans (hW8.below.mono hrB)⟩)
   ·rw[if_neg hz]at hX;refine wp_seq (aB aI (hT _ _) (hG _ _) (Mr _ _ (N-T) m2 false pb rb wd T) ⟨by
     show some (Value.bool (Int.ofNat (N-T)==0))=_;rw[show (Int.ofNat (N-T)==0)=false by rw[beq_eq_false_iff_ne]; intro e; exact hz (by simpa using e)],trivial⟩ hA fun a6 w6 hA => ?_)
    have hc:=hA.imV (s:=55) (v:=.bool false) (by simp);refine wp_cond_false hc (wp_skip ?_);simp only[Exit.then,Exit.inBlock];refine ih (N-T) p2 m2 (fun j=>f (T+j)) (gP xs wd fl pt (fl+pt) g) sc mc a6 w6 (by omega) (by omega) hmc hsv2 hv2 (fun q hq=>hf _ (by omega)) (OO hms _) ⟨hA.defers,hA.size,hA.slot (by simp[dK,aV]),hA.slot (by simp[dK]),hA.slot (by simp[dK]),hA.slot (by simp[dK]),hA.slot (by simp[dK]),hb13.trans (hA.below.mono hb13.size),hsh3.trans hA.shape,hO3.on hA.below,hlc⟩ hX
 exact key (N+1) N p m f s0 sb wd a w3 (by omega) hN (Nat.le_refl _) hsv hv1 hf hs0 hD hX
theorem Fv (wd fl pt:Nat):bZ prog (qG prog) (fun _=>tC T0 (assoc [(5,.bool false),(9,.bool false),(13,.bool false),(17,.bool false),(22,iI (fl%2)),(23,.bool false),(27,.bool false),(31,.bool false)])) f83 60 [.v (.fl (rR wd fl pt))]=some ([aN .lss .i64 (Int.ofNat wd) 2=some (.bool false),aN .gtr .i64 (Int.ofNat wd) 8=some (.bool false),aN .lss .i64 (Int.ofNat fl) 2=some (.bool false),aN .gtr .i64 (Int.ofNat fl) 64=some (.bool false),aN .rem .i64 (Int.ofNat fl) 2=some (iI (fl%2)),aN .neq .i64 (Int.ofNat (fl%2)) 0=some (.bool false),aN .lss .i64 (Int.ofNat pt) 0=some (.bool false),aN .gtr .i64 (Int.ofNat pt) 128=some (.bool false)],.one (.im (.int .i64 0))):=by kernel_rfl
structure RdOk (wd fl pt:Nat):Prop where
 w2:2≤wd
 w8:wd≤8
 f2:2≤fl
 f64:fl≤64
 ev:fl%2=0
 p128:pt≤128
theorem BI {n k:Nat} (h:n≤k):aN .gtr .i64 (Int.ofNat n) (Int.ofNat k)=some (.bool false):=by
 show some (Value.bool (decide ((n:Int)>(k:Int))))=_;rw[decide_eq_false (by omega)]
theorem TH {wd fl pt:Nat} (h:RdOk wd fl pt) (args:List Value) (w:World) (ha:cD w [.v (.fl (rR wd fl pt))] args):bD prog 83 (.one (.im (.int .i64 0))) args w :=
 bC aI (fun _ _=>(bT _).w _ _) ((aW _).w _ _) func83 (Fv wd fl pt) ⟨dS (i:=wd) (n:=2) h.w2,BI (k:=8) h.w8,dS (i:=fl) (n:=2) h.f2,BI (k:=64) h.f64,by
  show (if (2:Int)=0 then none else some (Value.int .i64 ((fl:Int).tmod 2)))=_;rw[if_neg (by decide),show (fl:Int).tmod 2=((fl%2:Nat):Int) by rw[Int.tmod_eq_emod_of_nonneg (by omega)]; rfl];rfl,by rw[h.ev]; rfl,dS (i:=pt) (n:=0) (Nat.zero_le _),BI (k:=128) h.p128,trivial⟩ ha
noncomputable abbrev haF:Func:=f52
def jM:Code:=(f52.body).getD .skip
def haX:Code:=cB (cB (cB (cB jM)))
def Dl:Code:=cA haX
theorem Ir:jM=.seq (cA jM) (.seq (cA (cB jM)) (.seq (cA (cB (cB jM))) (.seq (cA (cB (cB (cB jM)))) (.seq (.region 8 (aD Dl) false) .ret)))):=by kernel_rfl
theorem aAp:haF.ntmps=25:=by kernel_rfl
def hA (v:Value) (pb rb:Nat):List Fact:=[.slot 1 (.im v),.slot 2 (.im (ptV pb 0)),.slot 4 (.im (ptV rb 0))]
theorem aAo (v:Value) (wd fl pt:Nat):bE prog (qG prog) 25 (fun _=>tC T0 fun _=>none) 60 (cA jM) (fT 0 [.v (.fl (rR wd fl pt)),.v (.im v)]) [.slot 1 (.im v),.slot 2 (.pt 2 0),.row 2 true (rR wd fl pt),.slot 4 (.pt 4 0),.row 4 true zC]=some ([],.nrm,[.slot 1 (.im v),.slot 2 (.pt 2 0),.row 2 true (rR wd fl pt),.slot 4 (.pt 4 0),.row 4 true zC]):=by kernel_rfl
def Sj (wd fl pt:Nat):gE
 | [.v (.fl l)]=>some ([aA l=aA (rR wd fl pt)],.one (.im (.int .i64 0)))
 | _=>none
def gBw (v:Value):gE
 | [.v (.im u)]=>some ([u=v],.one (.im (.bool true)))
 | _=>none
theorem aEN (w:World) (v:Value) (pb rb wd fl pt:Nat):bE prog { qG prog with x:=xO w (fun _=>none) (assoc [(7,rR wd fl pt)]) (fun _=>none) } 25 (fun _=>tC (T0.add 83 (Sj wd fl pt)) fun _=>none) 60 (cA (cB jM)) (hA v pb rb) (hA v pb rb)=some ([oldOf w pb 0 (rR wd fl pt),dD (rR wd fl pt)=3,aA (rR wd fl pt)=aA (rR wd fl pt)],.nrm,hA v pb rb):=by kernel_rfl
theorem aEM (p:Option Addr) (N m pb rb:Nat):bE prog (qG prog) 25 (fun _=>tC T0 (assoc [(15,.bool false)])) 60 (cA (cB (cB jM))) (hA (.slice p N m) pb rb) (hA (.slice p N m) pb rb)=some ([aN .gtr .i64 (Int.ofNat N) 4096=some (.bool false)],.nrm,hA (.slice p N m) pb rb):=by kernel_rfl
theorem aEL (v:Value) (pb rb:Nat):bE prog (qG prog) 25 (fun _=>tC (T0.add 84 (gBw v)) fun _=>none) 60 (cA (cB (cB (cB jM)))) (hA v pb rb) (hA v pb rb)=some ([v=v],.nrm,hA v pb rb):=by kernel_rfl
theorem aAs (w:World) (v:Value) (pb rb wd fl pt:Nat):eH prog { qG prog with x:=xO w (fun _=>none) (assoc [(21,rR wd fl pt)]) (fun _=>none) } 25 (tC T0 fun _=>none) ((aD Dl).extract 0 1) (hA v pb rb) (.slot 21 (.fl (rR wd fl pt))::hA v pb rb)=some ([oldOf w pb 0 (rR wd fl pt),dD (rR wd fl pt)=3],.slot 21 (.fl (rR wd fl pt))::hA v pb rb):=by kernel_rfl
theorem aAr (v:Value) (pb rb:Nat) (l:List At):eH prog (qG prog) 25 (tC T0 fun _=>none) ((aD Dl).extract 2 3) (.slot 22 (.fl l)::hA v pb rb) [.slot 22 (.fl l),.slot 23 (.im v),.slot 4 (.im (ptV rb 0))]=some ([],[.slot 22 (.fl l),.slot 23 (.im v),.slot 4 (.im (ptV rb 0))]):=by kernel_rfl
theorem aAq (N rb X:Nat):eH prog (qG prog) 25 (tC T0 fun _=>none) ((aD Dl).extract 5 6) [.slot 4 (.pt 4 0),.row 4 true [.q X],.at 4 rb,.at 25 N] [.slot 4 (.pt 4 0),.row 4 true [.q X],.at 4 rb,.at 25 N,.slot 5 (.im (.int .i64 0))]=some ([],[.slot 4 (.pt 4 0),.row 4 true [.q X],.at 4 rb,.at 25 N,.slot 5 (.im (.int .i64 0))]):=by kernel_rfl
theorem Cz {base:Nat} {w0:World} {wd fl pt:Nat} (h:RdOk wd fl pt):TabOkW prog (T0.add 83 (Sj wd fl pt)) base w0 :=
 TabOkW.add ((bT _).w _ _) func83 (by kernel_rfl) (by kernel_rfl) (fun w hw cs pre r hg hp args ha=>by
  unfold Sj at hg;split at hg
  ·cases hg
   match args,ha with
   | [u],ha =>
    have e:u=.agg (aA _).toArray:=ha.1;rw[hp.1]at e;exact TH h [u] w ⟨e,trivial⟩
   | [],ha=>exact ha.elim
   | _::_::_,ha=>exact ha.2.elim
  ·cases hg)
theorem Li {w0:World} {v:Value} {N:Nat} {f:Nat→Nat} (hv:LV w0 v N f) (hf:oU N f) (hN:N≤65536):TabOkW prog (T0.add 84 (gBw v)) w0.heap.size w0 :=
 TabOkW.add ((bT _).w _ _) func84 (by kernel_rfl) (by kernel_rfl) (fun w hw cs pre r hg hp args ha=>by
  unfold gBw at hg;split at hg
  ·cases hg
   match args,ha with
   | [u],ha =>
    have e:u=_:=ha.1;rw[hp.1]at e;subst e;have:=zE (hv.on hw) (by omega);rw[decide_eq_true hf]at this;exact this
   | [],ha=>exact ha.elim
   | _::_::_,ha=>exact ha.2.elim
  ·cases hg)
def CN (xs:Nat→Nat) (wd fl pt N:Nat) (f:Nat→Nat):Nat:=Ew (gP xs wd fl pt (fl+pt)) (wd-1) (N+1) N f fun q=>if q=0 then N else 0
theorem SH {w0:World} {wd fl pt N m:Nat} {p:Option Addr} {xs f:Nat→Nat} {fu:Nat} {sq:Nat→St} (hr:RdOk wd fl pt) (hsv:Dc p m) (hv:LV w0 (.slice p N m) N f) (hf:∀q,q<N→f q<RM) (hN:N≤4096) (h0:sq 0=IW wd fl pt) (hx:∀i,i<wd*(fl+pt)→xV fu (sq i)=some (xs i,sq (i+1))) (hDj:Dbj w0) :
  bD prog 52 (.many [.fl [.q (CN xs wd fl pt N f)],.im (.int .i64 0)]) [.agg (aA (rR wd fl pt)).toArray,.slice p N m] w0:=by
 have hw8:=hr.w8;have hf64:=hr.f64;have hp128:=hr.p128;have hG:∀base w,bO prog (qG prog) base w:=fun _ _=>(aW _).w _ _
 have hT:∀base w,∀n d:Nat,TabOkW prog T0 base w:=fun _ _ _ _=>(bT _).w _ _
 have hnt:f52.ntmps=25:=aAp;refine cQ func52 (cs:=[.v (.fl (rR wd fl pt)),.v (.im (.slice p N m))]) (args:=[.agg (aA (rR wd fl pt)).toArray,.slice p N m]) (c:=jM) rfl ⟨rfl,rfl,trivial⟩ (Nat.le_of_ble_eq_true (by kernel_rfl)) fun a w hA => ?_
 rw[hnt]at hA;rw[Ir];refine wp_seq (aB aI (hT _ _) (hG _ _) (aAo (.slice p N m) wd fl pt) trivial hA fun a w1 hA => ?_);obtain⟨pb,hA⟩:=hA.at (k:=2) (l:=rR wd fl pt) (by simp);obtain⟨rb,hA⟩:=hA.at (k:=4) (l:=zC) (by simp);have hpb:oldOf w1 pb 0 (rR wd fl pt):=hA.old (k:=2) (by simp) (by simp);have hrb:Own w1 rb zC:=hA.own (k:=4) (by simp) (by simp);have hrB:w0.heap.size≤rb:=hA.geq (k:=4) (l:=zC) (by simp) (by simp);have hv1:=hv.on hA.below;have hD1:=hDj.on hDj.lt hA.below;have hbl:=hA.below;have hS:=bB (nt:=25) (w:=w1) (a:=a) (ts:=[(1,.slice p N m),(2,ptV pb 0),(4,ptV rb 0)]) hA.defers hA.size (fun x hx=>by
  simp only[List.mem_cons,List.not_mem_nil,or_false]at hx
  rcases hx with rfl|rfl|rfl
  ·exact hA.slot (by simp)
  ·exact hA.ptS (s:=2) (k:=2) (o:=0) (by simp) (by simp)
  ·exact hA.ptS (s:=4) (k:=4) (o:=0) (by simp) (by simp))
 clear hA;refine wp_seq (aB aI (fun _ _=>Cz hr) (eK w1 _ _ _) (aEN w1 (.slice p N m) pb rb wd fl pt) ⟨hpb,rfl,rfl,trivial⟩ hS fun a w2 hA => ?_);refine wp_seq (aB aI (hT _ _) (hG _ _) (aEM _ N m pb rb) ⟨BI (k:=4096) hN,trivial⟩ hA fun a w2 hA => ?_);refine wp_seq (aB aI (fun _ _=>Li hv1 hf (by omega)) (hG _ _) (aEL (.slice p N m) pb rb) ⟨rfl,trivial⟩ hA fun a w2 hA => ?_);clear hS;refine wp_seq (bQ (l:=List.range' 0 ((aD Dl).extract 0 1).size++(1::(List.range' 2 ((aD Dl).extract 2 3).size++(3::4::(List.range' 5 ((aD Dl).extract 5 6).size++[]))))) (by kernel_rfl) ?_);refine aU (c:=tC T0 _) (hT _ _ 0) (eK w1 _ _ _) (aAs w1 (.slice p N m) pb rb wd fl pt) ⟨hpb,rfl,trivial⟩ (by kernel_rfl) hA fun a3 w3 hA => ?_
 obtain⟨o1,ho1,⟨ts1,hop1⟩,hd1,hg1⟩:∃x,(aD Dl)[1]?=some x∧(∃ts,x.op=.call ⟨.value (.func 85),#[.tmp 21],ts⟩)∧x.dst=some 22∧x.guard=none:=⟨_,rfl,⟨_,rfl⟩,rfl,rfl⟩
 have hb3:=hA.below;refine bM ho1 hg1 (dI hop1 (vs:=[.agg (aA (rR wd fl pt)).toArray]) (List.cons_eq_cons.2 ⟨cU (hA.slotF (s:=21) (by simp)),rfl⟩) (fun args=>bR func85 (by kernel_rfl) (by kernel_rfl) args _) (YX (sq:=sq) (xs:=xs) hr.w2 (by omega) (by omega) (by omega) h0 hx (hD1.on hD1.lt hb3)) fun e w4 hq => ?_);obtain⟨cs,is,rfl,hM,hb4⟩:=hq;refine⟨_,rfl,?_⟩;rw[hd1];have hb14:=hb3.trans (hb4.mono hb3.size);have hS4:=qE (nt:=25) (w:=w4) (a:=a3.put (some 22) (.agg (aA (rP wd fl pt cs is)).toArray)) (ts:=[(22,.fl (rP wd fl pt cs is)),(1,.im (.slice p N m)),(2,.im (ptV pb 0)),(4,.im (ptV rb 0))]) hA.defers (by rw[aG]; exact hA.size) (fun x hx=>by
  simp only[List.mem_cons,List.not_mem_nil,or_false]at hx
  rcases hx with rfl|rfl|rfl|rfl
  ·exact aY _ _ _ (by rw[hA.size]; decide)
  ·exact aS (hA.slot (v:=.slice p N m) (by simp[Ex.hA])) (by simp)
  ·exact aS (hA.slot (v:=ptV pb 0) (by simp[Ex.hA])) (by simp)
  ·exact aS (hA.slot (v:=ptV rb 0) (by simp[Ex.hA])) (by simp))
 clear hA;refine aU (c:=tC T0 _) (hT _ _ 0) (hG _ _) (aAr (.slice p N m) pb rb _) trivial (by kernel_rfl) hS4 fun a5 w5 hA => ?_
 obtain⟨o3,ho3,⟨ts3,hop3⟩,hd3,hg3⟩:∃x,(aD Dl)[3]?=some x∧(∃ts,x.op=.call ⟨.value (.func 86),#[.tmp 22,.tmp 23],ts⟩)∧x.dst=some 24∧x.guard=none:=⟨_,rfl,⟨_,rfl⟩,rfl,rfl⟩
 have hb15:=hb14.trans (hA.below.mono hb14.size);refine bM ho3 hg3 (dI hop3 (vs:=[.agg (aA (rP wd fl pt cs is)).toArray,.slice p N m]) (List.cons_eq_cons.2 ⟨cU (hA.slotF (s:=22) (by simp)),List.cons_eq_cons.2 ⟨cU (hA.slot (s:=23) (by simp)),rfl⟩⟩) (fun args=>bR func86 (by kernel_rfl) (by kernel_rfl) args _) (SX (hM.on hA.below) hsv (hv1.on hb15) hf hr.w2 (by omega) (by omega) (by omega) (by omega)) fun e w6 hq => ?_);obtain⟨rfl,hb6⟩:=hq;refine⟨_,rfl,?_⟩;rw[hd3];have hb16:=hb15.trans (hb6.mono hb15.size);have t4:=aS (d:=24) (u:=(RV.one (.fl [.q (CN xs wd fl pt N f)])).den) (hA.slot (s:=4) (v:=ptV rb 0) (by simp)) (by decide);have t24:=aY a5 24 (.agg (aA [.q (CN xs wd fl pt N f)]).toArray) (by rw[hA.size]; decide);have hdf:=hA.defers;have hsz:=hA.size;clear hA hS4;obtain⟨o4,ho4,hop4,hd4,hg4⟩:∃x,(aD Dl)[4]?=some x∧x.op=.store 27 (.tmp 4) (.tmp 24)∧x.dst=none∧x.guard=none:=⟨_,rfl,rfl,rfl,rfl⟩
 have hR6:=hrb.on hb16;have hput:put zC 0 [.q (CN xs wd fl pt N f)]=some [.q (CN xs wd fl pt N f)]:=rfl;obtain⟨hR7,hW7⟩:=hR6.set hput;refine bM ho4 hg4 (eT (vs:=aA [.q (CN xs wd fl pt N f)]) hop4 hd4 (cU t4) (cU t24) rfl (pH _) Oh (hR6.there (o:=0) (n:=4) (Nat.le_of_ble_eq_true rfl)) ?_);generalize w6.setCells rb 0 (aA [.q (CN xs wd fl pt N f)])=w7 at *;have hH:=hR7.holds (k:=4) (nt:=25) (a:=a5.put (some 24) (.agg (aA [.q (CN xs wd fl pt N f)]).toArray)) (ts:=[]) hdf (by rw[aG]; exact hsz) rfl t4 (fun x hx=>by cases hx);refine aU (c:=tC T0 _) (hT _ _ 0) (hG _ _) (aAq w7.heap.size rb (CN xs wd fl pt N f)) trivial (by kernel_rfl) hH fun a8 w8 hA => ?_
 have hb8:=hA.below;exact wp_ret (cT (l:=[.fl [.q (CN xs wd fl pt N f)],.im (.int .i64 0)]) (r:=.many [.fl [.q (CN xs wd fl pt N f)],.im (.int .i64 0)]) (by kernel_rfl) (by kernel_rfl) hA ⟨rfl,((hbl.trans (hb16.mono hbl.size)).trans (hW7.below.mono hrB)).trans (hb8.mono hrB)⟩)
theorem Ad {w0:World} {wd fl pt b o N m:Nat} {xs f:Nat→Nat} {fu:Nat} {sq:Nat→St} (hr:RdOk wd fl pt) (hv:LV w0 (aV b o N m) N f) (hf:∀q,q<N→f q<RM) (hN:N≤4096) (h0:sq 0=IW wd fl pt) (hx:∀i,i<wd*(fl+pt)→xV fu (sq i)=some (xs i,sq (i+1))) (hDj:Dbj w0) :
  bD prog 52 (.many [.fl [.q (CN xs wd fl pt N f)],.im (.int .i64 0)]) [.agg (aA (rR wd fl pt)).toArray,aV b o N m] w0:=SH hr (Or.inr ⟨b,o,rfl⟩) hv hf hN h0 hx hDj
theorem He:(wR 195 (IW 3 8 57)).isSome=true:=by kernel_rfl
def pcL:List Nat:=(wR 195 (IW 3 8 57)).getD []
def pcX (i:Nat):Nat:=pcL.getD i 0
theorem GV:∀(n:Nat) (s:St) (l:List Nat),MJ n s=some l→∃sq:Nat→St,sq 0=s∧∀i,i<n→xV 100 (sq i)=some (l.getD i 0,sq (i+1))
 | 0,s,l,_=>⟨fun _=>s,rfl,fun i hi=>by omega⟩
 | n+1,s,l,h=>by
  unfold MJ at h;cases hc:xV 100 s with
  | none=>rw[hc]at h; cases h
  | some x =>
   obtain⟨x,t⟩:=x;rw[hc]at h;simp only at h;cases hr:MJ n t with
   | none=>rw[hr]at h; cases h
   | some r =>
    rw[hr]at h;cases h;obtain⟨sq,h0,h1⟩:=GV n t r hr;refine⟨fun i=>match i with|0=>s|i+1=>sq i,rfl,fun i hi => ?_⟩;cases i with
    | zero =>
     show xV 100 s=some (x,sq 0);rw[hc,h0]
    | succ i =>
     show xV 100 (sq i)=some ((x::r).getD (i+1) 0,sq (i+1));rw[h1 i (by omega),List.getD_cons_succ]
theorem Qf:∃sq:Nat→St,sq 0=IW 3 8 57∧∀i,i<3*(8+57)→xV 100 (sq i)=some (pcX i,sq (i+1)):=by
 have h:=He;have hL:wR 195 (IW 3 8 57)=some pcL:=by
  unfold pcL;cases hc:wR 195 (IW 3 8 57)with
  | none=>rw[hc]at h; cases h
  | some l=>rfl
 rw[GW 195 (MU 3 8 57)]at hL;exact GV 195 _ _ hL
def Vh (N:Nat) (f:Nat→Nat):Nat:=CN pcX 3 8 57 N f
theorem Ae {w0:World} {b o N m:Nat} {f:Nat→Nat} (hv:LV w0 (aV b o N m) N f) (hf:∀q,q<N→f q<RM) (hN:N≤4096) (hDj:Dbj w0) :
  bD prog 52 (.many [.fl [.q (Vh N f)],.im (.int .i64 0)]) [.agg (aA (rR 3 8 57)).toArray,aV b o N m] w0:=by
 obtain⟨sq,h0,hx⟩:=Qf;exact Ad ⟨by decide,by decide,by decide,by decide,by decide,by decide⟩ hv hf hN h0 hx hDj
theorem XQ {xs:Nat→Nat} {wd fl pt:Nat} {f:Nat→Nat} (r:Nat) (q:Nat):gP xs wd fl pt (r+1) f q<RM:=OE _ _ _
theorem VZ {P:(Nat→Nat)→Nat→Nat} (hP:∀s q,P s q<RM) {rt:Nat}:∀(k N:Nat) (f s:Nat→Nat),N<k→0<rt→Ew P rt k N f s<RM
 | 0,N,f,s,h,_=>by omega
 | k+1,N,f,s,h,hr=>by
  unfold Ew
  by_cases e:N-min rt N=0
  ·rw[if_pos e]; exact hP _ _
  ·rw[if_neg e]; exact VZ hP k _ _ _ (by omega) hr
theorem Rq (N:Nat) (f:Nat→Nat):Vh N f<RM:=VZ (fun s q=>XQ (xs:=pcX) (wd:=3) (fl:=8) (pt:=57) (f:=s) 64 q) (N+1) N f _ (by omega) (by omega)
end Go.Proofs.YtpbljiejmfahcaaGreatDoor.Ex
namespace Go.Proofs.YtpbljiejmfahcaaGreatDoor
open Go.Proofs.Tryz
open Go.RowKit
structure LW (w wr:World) (s0 s1 s2 s3 a0 a1 a2 a3 b0 b1 b2 b3:Nat):Prop where
 below:Below w.heap.size w wr
 size:w.heap.size+1+1+1<wr.heap.size
 rowS:Row4 wr w.heap.size s0 s1 s2 s3
 rowA:Row4 wr (w.heap.size+1) a0 a1 a2 a3
 rowB:Row4 wr (w.heap.size+1+1) b0 b1 b2 b3
 rowO:Row4 wr (w.heap.size+1+1+1) 0 0 0 0
theorem MY (w:World) (o1 o2 o3 o4:Obj):Below w.heap.size w ((((w.alloc o1).alloc o2).alloc o3).alloc o4) :=
 (MZ w o1 o2 o3).alloc (by simp; omega) o4
def VH (a0 a1 a2 a3:Nat):Nat→Nat
 | 0=>0
 | 1=>a3
 | 2=>a3*18446744073709551616+a2
 | 3=>(a3*18446744073709551616+a2)*18446744073709551616+a1
 | _=>((a3*18446744073709551616+a2)*18446744073709551616+a1)*18446744073709551616+a0
def CS (a0 a1 a2 a3:Nat):Nat→Nat
 | 0=>a3
 | 1=>a2
 | 2=>a1
 | _=>a0
theorem QM (a0 a1 a2 a3:Nat) {k:Nat} (h:k<4):VH a0 a1 a2 a3 (k+1)=VH a0 a1 a2 a3 k*18446744073709551616+CS a0 a1 a2 a3 k:=by
 match k,h with
 | 0,_=>simp[VH,CS]
 | 1,_=>rfl
 | 2,_=>rfl
 | 3,_=>rfl
theorem UY {a0 a1 a2 a3:Nat} (h:cC a0 a1 a2 a3) (k:Nat):CS a0 a1 a2 a3 k<18446744073709551616:=by
 obtain⟨h0,h1,h2,h3⟩:=h
 match k with
 | 0=>exact h3
 | 1=>exact h2
 | 2=>exact h1
 | k+3=>exact h0
theorem YR (n m x b:Nat):((n%b)*m+x)%b=(n*m+x)%b:=by
 rw[Nat.add_mod,Nat.mul_mod,Nat.mod_mod,←Nat.mul_mod,←Nat.add_mod]
def TIn (R b:Nat) (a0 a1 a2 a3 k v:Nat):Prop:=v<b∧v=(R*18446744073709551616^k+VH a0 a1 a2 a3 k)%b
theorem VL {R b k v x:Nat} {a0 a1 a2 a3:Nat} (h:TIn R b a0 a1 a2 a3 k v) (hk:k<4) (hb:0<b) (hx:x=CS a0 a1 a2 a3 k):TIn R b a0 a1 a2 a3 (k+1) ((v*18446744073709551616+x)%b):=by
 refine⟨Nat.mod_lt _ hb,?_⟩;rw[h.2,YR,QM _ _ _ _ hk,hx,Nat.pow_succ,Nat.add_mul,Nat.mul_assoc,Nat.add_assoc]
theorem Ei {R b v:Nat} {a0 a1 a2 a3:Nat} (h:TIn R b a0 a1 a2 a3 4 v):v=(R*115792089237316195423570985008687907853269984665640564039457584007913129639936+aC a0 a1 a2 a3)%b:=by
 rw[h.2,show 18446744073709551616^4=115792089237316195423570985008687907853269984665640564039457584007913129639936 by simp,show VH a0 a1 a2 a3 4=aC a0 a1 a2 a3 by show ((a3*18446744073709551616+a2)*18446744073709551616+a1)*18446744073709551616+a0=_; unfold aC; omega]
theorem WO {w:World} {g:Nat} {a0 a1 a2 a3:Nat} (rA:Row4 w g a0 a1 a2 a3) (k:Nat) (hk:k<4):∃j x,j+k=3∧x=CS a0 a1 a2 a3 k∧w.cell? ⟨g,j,none⟩=some (.int .u64 (x:Nat)):=by
 match k,hk with
 | 0,_=>exact⟨3,_,rfl,rfl,rA.c3⟩
 | 1,_=>exact⟨2,_,rfl,rfl,rA.c2⟩
 | 2,_=>exact⟨1,_,rfl,rfl,rA.c1⟩
 | 3,_=>exact⟨0,_,rfl,rfl,rA.c0⟩
set_option maxHeartbeats 1000000 in
theorem qB (r0 r1 r2 r3 a0 a1 a2 a3 b0 b1 b2 b3:Nat) (hr:cC r0 r1 r2 r3) (ha:cC a0 a1 a2 a3) (hb:cC b0 b1 b2 b3) (h3:9223372036854775808≤b3) (hlt:aC r0 r1 r2 r3<aC b0 b1 b2 b3) (w:World) :
  Calls prog 91 #[.agg #[.int .u64 r0,.int .u64 r1,.int .u64 r2,.int .u64 r3],.agg #[.int .u64 a0,.int .u64 a1,.int .u64 a2,.int .u64 a3],.agg #[.int .u64 b0,.int .u64 b1,.int .u64 b2,.int .u64 b3]] w (cJ (fun n=>n=(aC r0 r1 r2 r3*115792089237316195423570985008687907853269984665640564039457584007913129639936+aC a0 a1 a2 a3)%aC b0 b1 b2 b3) w):=by
 go_enter func91,ntmps91
 go_wp2_with fail
 go_loopw [8] (fun i wr=>∃k s0 s1 s2 s3:Nat,k≤4∧i=.int .i64 k∧cC s0 s1 s2 s3∧Hid (TIn (aC r0 r1 r2 r3) (aC b0 b1 b2 b3) a0 a1 a2 a3 k (aC s0 s1 s2 s3))∧LW w wr s0 s1 s2 s3 a0 a1 a2 a3 b0 b1 b2 b3) (fun i _=>4-(intOf i).toNat)
 case atStart =>
  refine⟨0,r0,r1,r2,r3,by omega,rfl,hr,Lib.hid ⟨hlt,by show _=(_*18446744073709551616^0+0)%_; rw[Nat.pow_zero,Nat.mul_one,Nat.add_zero,Nat.mod_eq_of_lt hlt]⟩,⟨MY _ _ _ _ _,by simp,?_,?_,?_,?_⟩⟩
  all_goals exact⟨by simp[go_sem],by simp[go_sem],by simp[go_sem],by simp[go_sem],fun k=>by simp[go_sem]⟩
 case round =>
  obtain⟨k,s0,s1,s2,s3,hk,rfl,hs,ti,lw⟩:=hrel;have hsz:=lw.size;obtain⟨x0,x1,x2,x3,xf⟩:=lw.rowS;obtain⟨z0,z1,z2,z3,zf⟩:=lw.rowB
  by_cases hlt':k<4
  ·obtain⟨j,x,hj,hx,cx⟩:=WO lw.rowA k hlt';have wj:IntKind.i64.wrap (3-(k:Int))=(j:Int):=by simp[IntKind.wrap,IntKind.bits,IntKind.signed]; omega
   have bj:(j:Int)<4:=by omega
   have bx:x<18446744073709551616:=by rw[hx]; exact UY ha k
   have Hx:=Lib.hid hx;have HL:=Lib.hid lw;clear lw hx hj;go_wp2_with fail;refine wp_region_still_tail 6 (by kernel_rfl) (by kernel_rfl) ?_;simp only[List.take_succ_cons,List.take_zero,List.drop_succ_cons,List.drop_zero];change wpStill _ _ wr.drew _ _ _
   repeat still_step
   refine wpStill_nil ?_;change wpList _ _ _ _ _ wr.drew;go_wp2_with fail;refine (uQ s0 s1 s2 s3 x b0 b1 b2 b3 hs bx hb h3 ti.out.1 _).mono ?_
   rintro e w3 ⟨n0,n1,n2,n3,rfl,hn,en,hbl⟩
   have hz3:wr.heap.size≤w3.heap.size:=hbl.size;have S3:=HL.out.rowS.drewN 1 |>.below hbl (show w.heap.size<wr.heap.size by omega)
   have T3:LW w (set4 w3 w.heap.size n0 n1 n2 n3) n0 n1 n2 n3 a0 a1 a2 a3 b0 b1 b2 b3 :=
    ⟨bF ((HL.out.below.drew).trans (hbl.mono HL.out.below.size)) (Nat.le_refl _) _ _ _ _,by unfold set4; simp only[World.size_setCell]; omega,S3.set4 _ _ _ _,
     (HL.out.rowA.drewN 1 |>.below hbl (show w.heap.size+1<wr.heap.size by omega)).set4_other (by omega) _ _ _ _,
     (HL.out.rowB.drewN 1 |>.below hbl (show w.heap.size+1+1<wr.heap.size by omega)).set4_other (by omega) _ _ _ _,
     (HL.out.rowO.drewN 1 |>.below hbl (show w.heap.size+1+1+1<wr.heap.size by omega)).set4_other (by omega) _ _ _ _⟩
   have HT:=Lib.hid T3;have Hti:=Lib.hid (VL ti.out hlt' (by have:=ti.out.1; omega) Hx.out);rw[←en]at Hti;obtain⟨v0,v1,v2,v3,vf⟩:=S3;clear hbl en T3 ti;go_wp2_with fail
   go_roundw
   case rel=>exact⟨k+1,n0,n1,n2,n3,by omega,by go_num,hn,Hti,HT.out⟩
   case measure=>simp[intOf]; omega
  ·obtain rfl:k=4:=by omega
   have HF:=Lib.hid (Ei ti.out);obtain⟨o0,o1,o2,o3,of⟩:=lw.rowO;have HB:=Lib.hid lw.below;clear ti lw;go_wp2_with fail;refine bodyPost_ret (v:=.agg #[.int .u64 s0,.int .u64 s1,.int .u64 s2,.int .u64 s3]) (by simp[results,results91,go_sem, *]) rfl ?_;exact⟨s0,s1,s2,s3,rfl,hs,HF.out,bF HB.out (by omega) _ _ _ _⟩
theorem Xc (a0 a1 a2 a3:Nat) (n:Int) (ha:cC a0 a1 a2 a3) (h0:0<n) (hq:n/64=0) (w:World) :
  Calls prog 90 #[.agg #[.int .u64 a0,.int .u64 a1,.int .u64 a2,.int .u64 a3],.int .i64 n] w (cJ (fun v=>v=aC a0 a1 a2 a3*2^n.toNat%115792089237316195423570985008687907853269984665640564039457584007913129639936) w):=by
 obtain⟨p,hr,hp,en⟩:=GM (by omega) 0 hq (by omega);have b1:n<256:=by omega
 have t0:decide (n≤0)=false:=decide_eq_false (by omega);obtain⟨lo0,hi0,u0,d0,bl0,bh0,e0,g0,m0⟩:=oY (a:=a0) (p:=p) ha.1 hp;obtain⟨lo1,hi1,u1,d1,bl1,bh1,e1,g1,m1⟩:=oY (a:=a1) (p:=p) ha.2.1 hp;obtain⟨lo2,hi2,u2,d2,bl2,bh2,e2,g2,m2⟩:=oY (a:=a2) (p:=p) ha.2.2.1 hp;obtain⟨lo3,hi3,u3,d3,bl3,bh3,e3,g3,m3⟩:=oY (a:=a3) (p:=p) ha.2.2.2 hp;obtain⟨s1,o1,bs1,f1⟩:=yU bl1 bh0 g0 m1;obtain⟨s2,o2,bs2,f2⟩:=yU bl2 bh1 g1 m2;obtain⟨s3,o3,bs3,f3⟩:=yU bl3 bh2 g2 m3;have HF:Hid (aC lo0 s1 s2 s3=aC a0 a1 a2 a3*2^n.toNat%115792089237316195423570985008687907853269984665640564039457584007913129639936):=Lib.hid (by
  have hk:cC lo0 s1 s2 s3:=⟨bl0,bs1,bs2,bs3⟩;rw[en,qN];have:=e0.out;have:=e1.out;have:=e2.out;have:=e3.out;have:=f1.out;have:=f2.out;have:=f3.out;have hv:=bN hk;have hT:aC a0 a1 a2 a3*(18446744073709551616^((0:Int)).toNat*2^p)=aC a0 a1 a2 a3*2^p*1:=by
   rw[show 18446744073709551616^((0:Int)).toNat=1 by simp,Nat.mul_comm 1,Nat.mul_assoc]
  rw[hT];have hD:aC a0 a1 a2 a3*2^p=a0*2^p+18446744073709551616*(a1*2^p)+340282366920938463463374607431768211456*(a2*2^p)+6277101735386680763835789423207666416102355444464034512896*(a3*2^p):=by
   unfold aC; simp only[Nat.add_mul,Nat.mul_assoc]; omega
  rw[hD];unfold aC at hv ⊢;generalize 2^p=T at *;omega)
 clear e0 g0 m0 e1 g1 m1 e2 g2 m2 e3 g3 m3 f1 f2 f3;have HEN:=Lib.hid en;clear en
 go_enter func90,ntmps90
 go_wp2_with fail;refine wp_loop_rounds 5 ?_;rw[rounds_succ];go_wp2_with fail;rw[rounds_succ];go_wp2_with fail
 go_region
 go_wp2_with fail;rw[rounds_succ];go_wp2_with fail
 go_region
 go_wp2_with fail;rw[rounds_succ];go_wp2_with fail
 go_region
 go_wp2_with fail;rw[rounds_succ];go_wp2_with fail;refine bodyPost_ret (v:=.agg #[.int .u64 lo0,.int .u64 s1,.int .u64 s2,.int .u64 s3]) (by simp[results,results90,go_sem]) rfl ?_;refine⟨lo0,s1,s2,s3,rfl,⟨bl0,bs1,bs2,bs3⟩,HF.out,?_⟩
 repeat (first|exact Below.refl _ _|refine Below.drew ?_|refine Below.alloc ?_ (by first|(simp; done)|(simp; omega)) _)
theorem Xb (a0 a1 a2 a3:Nat) (n:Int) (ha:cC a0 a1 a2 a3) (h0:0<n) (hq:n/64=1) (w:World) :
  Calls prog 90 #[.agg #[.int .u64 a0,.int .u64 a1,.int .u64 a2,.int .u64 a3],.int .i64 n] w (cJ (fun v=>v=aC a0 a1 a2 a3*2^n.toNat%115792089237316195423570985008687907853269984665640564039457584007913129639936) w):=by
 obtain⟨p,hr,hp,en⟩:=GM (by omega) 1 hq (by omega);have b1:n<256:=by omega
 have t0:decide (n≤0)=false:=decide_eq_false (by omega);obtain⟨lo0,hi0,u0,d0,bl0,bh0,e0,g0,m0⟩:=oY (a:=a0) (p:=p) ha.1 hp;obtain⟨lo1,hi1,u1,d1,bl1,bh1,e1,g1,m1⟩:=oY (a:=a1) (p:=p) ha.2.1 hp;obtain⟨lo2,hi2,u2,d2,bl2,bh2,e2,g2,m2⟩:=oY (a:=a2) (p:=p) ha.2.2.1 hp;obtain⟨s1,o1,bs1,f1⟩:=yU bl1 bh0 g0 m1;obtain⟨s2,o2,bs2,f2⟩:=yU bl2 bh1 g1 m2;have HF:Hid (aC 0 lo0 s1 s2=aC a0 a1 a2 a3*2^n.toNat%115792089237316195423570985008687907853269984665640564039457584007913129639936):=Lib.hid (by
  have hk:cC 0 lo0 s1 s2:=⟨(by omega),bl0,bs1,bs2⟩;rw[en,qN];have:=e0.out;have:=e1.out;have:=e2.out;have:=f1.out;have:=f2.out;have hv:=bN hk;have hT:aC a0 a1 a2 a3*(18446744073709551616^((1:Int)).toNat*2^p)=aC a0 a1 a2 a3*2^p*18446744073709551616:=by
   rw[show 18446744073709551616^((1:Int)).toNat=18446744073709551616 by simp,Nat.mul_comm 18446744073709551616,Nat.mul_assoc]
  rw[hT];have hD:aC a0 a1 a2 a3*2^p=a0*2^p+18446744073709551616*(a1*2^p)+340282366920938463463374607431768211456*(a2*2^p)+6277101735386680763835789423207666416102355444464034512896*(a3*2^p):=by
   unfold aC; simp only[Nat.add_mul,Nat.mul_assoc]; omega
  rw[hD];unfold aC at hv ⊢;generalize 2^p=T at *;omega)
 clear e0 g0 m0 e1 g1 m1 e2 g2 m2 f1 f2;have HEN:=Lib.hid en;clear en
 go_enter func90,ntmps90
 go_wp2_with fail;refine wp_loop_rounds 4 ?_;rw[rounds_succ];go_wp2_with fail;rw[rounds_succ];go_wp2_with fail
 go_region
 go_wp2_with fail;rw[rounds_succ];go_wp2_with fail
 go_region
 go_wp2_with fail;rw[rounds_succ];go_wp2_with fail;refine bodyPost_ret (v:=.agg #[.int .u64 0,.int .u64 lo0,.int .u64 s1,.int .u64 s2]) (by simp[results,results90,go_sem]) rfl ?_;refine⟨0,lo0,s1,s2,rfl,⟨(by omega),bl0,bs1,bs2⟩,HF.out,?_⟩
 repeat (first|exact Below.refl _ _|refine Below.drew ?_|refine Below.alloc ?_ (by first|(simp; done)|(simp; omega)) _)
theorem Xa (a0 a1 a2 a3:Nat) (n:Int) (ha:cC a0 a1 a2 a3) (h0:0<n) (hq:n/64=2) (w:World) :
  Calls prog 90 #[.agg #[.int .u64 a0,.int .u64 a1,.int .u64 a2,.int .u64 a3],.int .i64 n] w (cJ (fun v=>v=aC a0 a1 a2 a3*2^n.toNat%115792089237316195423570985008687907853269984665640564039457584007913129639936) w):=by
 obtain⟨p,hr,hp,en⟩:=GM (by omega) 2 hq (by omega);have b1:n<256:=by omega
 have t0:decide (n≤0)=false:=decide_eq_false (by omega);obtain⟨lo0,hi0,u0,d0,bl0,bh0,e0,g0,m0⟩:=oY (a:=a0) (p:=p) ha.1 hp;obtain⟨lo1,hi1,u1,d1,bl1,bh1,e1,g1,m1⟩:=oY (a:=a1) (p:=p) ha.2.1 hp;obtain⟨s1,o1,bs1,f1⟩:=yU bl1 bh0 g0 m1;have HF:Hid (aC 0 0 lo0 s1=aC a0 a1 a2 a3*2^n.toNat%115792089237316195423570985008687907853269984665640564039457584007913129639936):=Lib.hid (by
  have hk:cC 0 0 lo0 s1:=⟨(by omega),(by omega),bl0,bs1⟩;rw[en,qN];have:=e0.out;have:=e1.out;have:=f1.out;have hv:=bN hk;have hT:aC a0 a1 a2 a3*(18446744073709551616^((2:Int)).toNat*2^p)=aC a0 a1 a2 a3*2^p*340282366920938463463374607431768211456:=by
   rw[show 18446744073709551616^((2:Int)).toNat=340282366920938463463374607431768211456 by simp,Nat.mul_comm 340282366920938463463374607431768211456,Nat.mul_assoc]
  rw[hT];have hD:aC a0 a1 a2 a3*2^p=a0*2^p+18446744073709551616*(a1*2^p)+340282366920938463463374607431768211456*(a2*2^p)+6277101735386680763835789423207666416102355444464034512896*(a3*2^p):=by
   unfold aC; simp only[Nat.add_mul,Nat.mul_assoc]; omega
  rw[hD];unfold aC at hv ⊢;generalize 2^p=T at *;omega)
 clear e0 g0 m0 e1 g1 m1 f1;have HEN:=Lib.hid en;clear en
 go_enter func90,ntmps90
 go_wp2_with fail;refine wp_loop_rounds 3 ?_;rw[rounds_succ];go_wp2_with fail;rw[rounds_succ];go_wp2_with fail
 go_region
 go_wp2_with fail;rw[rounds_succ];go_wp2_with fail;refine bodyPost_ret (v:=.agg #[.int .u64 0,.int .u64 0,.int .u64 lo0,.int .u64 s1]) (by simp[results,results90,go_sem]) rfl ?_;refine⟨0,0,lo0,s1,rfl,⟨(by omega),(by omega),bl0,bs1⟩,HF.out,?_⟩
 repeat (first|exact Below.refl _ _|refine Below.drew ?_|refine Below.alloc ?_ (by first|(simp; done)|(simp; omega)) _)
theorem Wz (a0 a1 a2 a3:Nat) (n:Int) (ha:cC a0 a1 a2 a3) (h0:0<n) (hq:n/64=3) (w:World) :
  Calls prog 90 #[.agg #[.int .u64 a0,.int .u64 a1,.int .u64 a2,.int .u64 a3],.int .i64 n] w (cJ (fun v=>v=aC a0 a1 a2 a3*2^n.toNat%115792089237316195423570985008687907853269984665640564039457584007913129639936) w):=by
 obtain⟨p,hr,hp,en⟩:=GM (by omega) 3 hq (by omega);have b1:n<256:=by omega
 have t0:decide (n≤0)=false:=decide_eq_false (by omega);obtain⟨lo0,hi0,u0,d0,bl0,bh0,e0,g0,m0⟩:=oY (a:=a0) (p:=p) ha.1 hp;have HF:Hid (aC 0 0 0 lo0=aC a0 a1 a2 a3*2^n.toNat%115792089237316195423570985008687907853269984665640564039457584007913129639936):=Lib.hid (by
  have hk:cC 0 0 0 lo0:=⟨(by omega),(by omega),(by omega),bl0⟩;rw[en,qN];have:=e0.out;have hv:=bN hk;have hT:aC a0 a1 a2 a3*(18446744073709551616^((3:Int)).toNat*2^p)=aC a0 a1 a2 a3*2^p*6277101735386680763835789423207666416102355444464034512896:=by
   rw[show 18446744073709551616^((3:Int)).toNat=6277101735386680763835789423207666416102355444464034512896 by simp,Nat.mul_comm 6277101735386680763835789423207666416102355444464034512896,Nat.mul_assoc]
  rw[hT];have hD:aC a0 a1 a2 a3*2^p=a0*2^p+18446744073709551616*(a1*2^p)+340282366920938463463374607431768211456*(a2*2^p)+6277101735386680763835789423207666416102355444464034512896*(a3*2^p):=by
   unfold aC; simp only[Nat.add_mul,Nat.mul_assoc]; omega
  rw[hD];unfold aC at hv ⊢;generalize 2^p=T at *;omega)
 clear e0 g0 m0;have HEN:=Lib.hid en;clear en
 go_enter func90,ntmps90
 go_wp2_with fail;refine wp_loop_rounds 2 ?_;rw[rounds_succ];go_wp2_with fail;rw[rounds_succ];go_wp2_with fail;refine bodyPost_ret (v:=.agg #[.int .u64 0,.int .u64 0,.int .u64 0,.int .u64 lo0]) (by simp[results,results90,go_sem]) rfl ?_;refine⟨0,0,0,lo0,rfl,⟨(by omega),(by omega),(by omega),bl0⟩,HF.out,?_⟩
 repeat (first|exact Below.refl _ _|refine Below.drew ?_|refine Below.alloc ?_ (by first|(simp; done)|(simp; omega)) _)
theorem WF (a0 a1 a2 a3:Nat) (n:Int) (ha:cC a0 a1 a2 a3) (h0:n≤0) (w:World) :
  Calls prog 90 #[.agg #[.int .u64 a0,.int .u64 a1,.int .u64 a2,.int .u64 a3],.int .i64 n] w (cJ (fun v=>v=aC a0 a1 a2 a3) w):=by
 have t0:decide (n≤0)=true:=decide_eq_true h0
 go_enter func90,ntmps90
 go_wp2_with fail;refine bodyPost_ret (v:=.agg #[.int .u64 a0,.int .u64 a1,.int .u64 a2,.int .u64 a3]) (by simp[results,results90,go_sem]) rfl ?_;refine⟨a0,a1,a2,a3,rfl,ha,rfl,?_⟩
 repeat (first|exact Below.refl _ _|refine Below.drew ?_|refine Below.alloc ?_ (by first|(simp; done)|(simp; omega)) _)
theorem Fb (a0 a1 a2 a3:Nat) (n:Int) (ha:cC a0 a1 a2 a3) (h0:256≤n) (h1:n≤9223372036854775807) (w:World) :
  Calls prog 90 #[.agg #[.int .u64 a0,.int .u64 a1,.int .u64 a2,.int .u64 a3],.int .i64 n] w (cJ (fun v=>v=0) w):=by
 have t0:decide (n≤0)=false:=decide_eq_false (by omega);obtain⟨q,hq,bq,bq'⟩:∃q:Nat,n/64=(q:Int)∧4≤q∧q≤9223372036854775807:=⟨(n/64).toNat,by omega,by omega,by omega⟩
 have t1:decide ((0:Int)<4-(q:Int))=false:=decide_eq_false (by omega)
 go_enter func90,ntmps90
 go_wp2_with fail;refine wp_loop_rounds 1 ?_;rw[rounds_succ];go_wp2_with fail;refine bodyPost_ret (v:=.agg #[.int .u64 0,.int .u64 0,.int .u64 0,.int .u64 0]) (by simp[results,results90,go_sem]) rfl ?_;refine⟨0,0,0,0,rfl,⟨by omega,by omega,by omega,by omega⟩,rfl,?_⟩
 repeat (first|exact Below.refl _ _|refine Below.drew ?_|refine Below.alloc ?_ (by first|(simp; done)|(simp; omega)) _)
theorem sB (a0 a1 a2 a3:Nat) (n:Int) (ha:cC a0 a1 a2 a3) (h0:0≤n) (h1:n≤9223372036854775807) (w:World) :
  Calls prog 90 #[.agg #[.int .u64 a0,.int .u64 a1,.int .u64 a2,.int .u64 a3],.int .i64 n] w (cJ (fun v=>v=aC a0 a1 a2 a3*2^n.toNat%115792089237316195423570985008687907853269984665640564039457584007913129639936) w):=by
 by_cases hz:n≤0
 ·refine (WF a0 a1 a2 a3 n ha hz w).mono ?_
  rintro e w' ⟨s0,s1,s2,s3,he,hs,hv,hb⟩
  refine⟨s0,s1,s2,s3,he,hs,?_,hb⟩;have:=bN ha;rw[hv,show n.toNat=0 by omega,Nat.pow_zero]; omega
 ·by_cases hf:256≤n
  ·refine (Fb a0 a1 a2 a3 n ha hf h1 w).mono ?_
   rintro e w' ⟨s0,s1,s2,s3,he,hs,hv,hb⟩
   refine⟨s0,s1,s2,s3,he,hs,?_,hb⟩;rw[hv];obtain⟨k,hk⟩:∃k,n.toNat=256+k:=⟨n.toNat-256,by omega⟩
   rw[hk,Nat.pow_add,Nat.mul_left_comm,show (2:Nat)^256=115792089237316195423570985008687907853269984665640564039457584007913129639936 by simp];exact (Nat.mul_mod_right _ _).symm
  ·have hq:n/64=0∨n/64=1∨n/64=2∨n/64=3:=by omega
   rcases hq with h|h|h|h
   ·exact Xc a0 a1 a2 a3 n ha (by omega) h w
   ·exact Xb a0 a1 a2 a3 n ha (by omega) h w
   ·exact Xa a0 a1 a2 a3 n ha (by omega) h w
   ·exact Wz a0 a1 a2 a3 n ha (by omega) h w
theorem Hy {m L:Nat} (hL:L≤256) (h:LenIs m L) (hm:0<m):0<L∧m*2^(256-L)<115792089237316195423570985008687907853269984665640564039457584007913129639936∧57896044618658097711785492504343953926634992332820282019728792003956564819968≤m*2^(256-L):=by
 have hpos:0<L:=by
  rcases Nat.eq_zero_or_pos L with e|e
  ·subst e; have:=h.1; simp at this; omega
  ·exact e
 have e:2^L*2^(256-L)=115792089237316195423570985008687907853269984665640564039457584007913129639936:=by rw[←Nat.pow_add,show L+(256-L)=256 by omega]
 have e':2^(L-1)*2^(256-L)=57896044618658097711785492504343953926634992332820282019728792003956564819968:=by rw[←Nat.pow_add,show L-1+(256-L)=255 by omega]
 refine⟨hpos,?_,?_⟩
 ·have:=Nat.mul_lt_mul_of_pos_right h.1 (Nat.two_pow_pos (256-L));rw[e]at this; exact this
 ·have:=Nat.mul_le_mul_right (2^(256-L)) (h.2 hpos);rw[e']at this; exact this
theorem Ef {b0 b1 b2 b3:Nat} (h:cC b0 b1 b2 b3) (hb:57896044618658097711785492504343953926634992332820282019728792003956564819968≤aC b0 b1 b2 b3):9223372036854775808≤b3:=by
 obtain⟨h0,h1,h2,h3⟩:=h;unfold aC at hb; omega
theorem Ga {x m L:Nat} (hL:L≤256) (hm:0<m) (hx:x<115792089237316195423570985008687907853269984665640564039457584007913129639936):x/2^L<m*2^(256-L):=by
 have e:2^(256-L)*2^L=115792089237316195423570985008687907853269984665640564039457584007913129639936:=by rw[←Nat.pow_add,show 256-L+L=256 by omega]
 have h1:x/2^L<2^(256-L):=by rw[Nat.div_lt_iff_lt_mul (Nat.two_pow_pos _),e]; exact hx
 have h2:=Nat.mul_le_mul_right (2^(256-L)) (show 1≤m from hm);omega
theorem CT {x L:Nat} (hL:L≤256):x/2^L*115792089237316195423570985008687907853269984665640564039457584007913129639936+x*2^(256-L)%115792089237316195423570985008687907853269984665640564039457584007913129639936=x*2^(256-L):=by
 have e:2^L*2^(256-L)=115792089237316195423570985008687907853269984665640564039457584007913129639936:=by rw[←Nat.pow_add,show L+(256-L)=256 by omega]
 have hd:x*2^(256-L)/115792089237316195423570985008687907853269984665640564039457584007913129639936=x/2^L:=by rw[←e]; exact Nat.mul_div_mul_right _ _ (Nat.two_pow_pos _)
 rw[←hd]; omega
theorem ZP {x y L:Nat} (hL:L≤256) (hy:y<115792089237316195423570985008687907853269984665640564039457584007913129639936):(x*2^(256-L)%115792089237316195423570985008687907853269984665640564039457584007913129639936) ||| (y/2^L)=x*2^(256-L)%115792089237316195423570985008687907853269984665640564039457584007913129639936+y/2^L:=by
 have e:2^L*2^(256-L)=115792089237316195423570985008687907853269984665640564039457584007913129639936:=by rw[←Nat.pow_add,show L+(256-L)=256 by omega]
 have hlt:y/2^L<2^(256-L):=by rw[Nat.div_lt_iff_lt_mul (Nat.two_pow_pos _),Nat.mul_comm,e]; exact hy
 have hm:x*2^(256-L)%115792089237316195423570985008687907853269984665640564039457584007913129639936=2^(256-L)*(x%2^L):=by
  rw[←e,Nat.mul_mod_mul_right,Nat.mul_comm]
 rw[hm,←Nat.two_pow_add_eq_or_of_lt hlt]
theorem RU (n m x b:Nat):((n%b)*m+x)%b=(n*m+x)%b:=by
 rw[Nat.add_mod,Nat.mul_mod,Nat.mod_mod,←Nat.mul_mod,←Nat.add_mod]
theorem Hs {h l m L r1 r2:Nat} (hL:L≤256)
  (e1:r1=(h/2^L*115792089237316195423570985008687907853269984665640564039457584007913129639936+(h*2^(256-L)%115792089237316195423570985008687907853269984665640564039457584007913129639936+l/2^L))%(m*2^(256-L)))
  (e2:r2=(r1*115792089237316195423570985008687907853269984665640564039457584007913129639936+l*2^(256-L)%115792089237316195423570985008687907853269984665640564039457584007913129639936)%(m*2^(256-L))):r2/2^(256-L)=(h*115792089237316195423570985008687907853269984665640564039457584007913129639936+l)%m:=by
 have k1:=CT (x:=h) hL;have k2:=CT (x:=l) hL;rw[e1,RU]at e2;have e3:(h/2^L*115792089237316195423570985008687907853269984665640564039457584007913129639936+(h*2^(256-L)%115792089237316195423570985008687907853269984665640564039457584007913129639936+l/2^L))*115792089237316195423570985008687907853269984665640564039457584007913129639936+l*2^(256-L)%115792089237316195423570985008687907853269984665640564039457584007913129639936=(h*115792089237316195423570985008687907853269984665640564039457584007913129639936+l)*2^(256-L):=by
  have:(h*115792089237316195423570985008687907853269984665640564039457584007913129639936+l)*2^(256-L)=h*2^(256-L)*115792089237316195423570985008687907853269984665640564039457584007913129639936+l*2^(256-L):=by rw[Nat.add_mul,Nat.mul_right_comm]
  rw[this];generalize h*2^(256-L)%115792089237316195423570985008687907853269984665640564039457584007913129639936=Q at *;generalize l*2^(256-L)%115792089237316195423570985008687907853269984665640564039457584007913129639936=U at *;rw[←k1,←k2];simp only[Nat.add_mul,Nat.add_assoc]
 rw[e3,Nat.mul_mod_mul_right]at e2;rw[e2,Nat.mul_div_cancel _ (Nat.two_pow_pos _)]
end Go.Proofs.YtpbljiejmfahcaaGreatDoor
