/- Et07 -/
import Derived.Lib.TrailingZeros
import Derived.Laws.Bits64
import Derived.Laws.Bits64b
import Derived.Shelf.Spec.TrailingZeros
import Derived.Test.YtpjlhhpjpnacmaaGreatDoorEt05
import Derived.Test.YtpjlhhpjpnacmaaGreatDoorEt06
import Derived.Test.YtpjlhhpjpnacmaaGreatDoorProg
set_option maxRecDepth 100000
set_option linter.unusedVariables false
set_option linter.unusedSimpArgs false
set_option linter.unnecessarySimpa false
noncomputable section
namespace Go.Proofs.YtpjlhhpjpnacmaaGreatDoor.Ex
open Go.Proofs.Tryz
open Go.RowKit
abbrev eP:Nat:=18446744073709551616
theorem or6 {a b:Nat} (ha:a<eP) (hb:b<eP):a ||| b<eP:=Nat.or_lt_two_pow (n:=64) ha hb
theorem yW {a b:Nat} (ha:a<eP) (hb:b<eP):a ^^^ b<eP:=Nat.xor_lt_two_pow (n:=64) ha hb
theorem Qt {a b:Nat} (ha:a<eP):a &&& b<eP:=Nat.lt_of_le_of_lt Nat.and_le_left ha
theorem Pi {a k:Nat} (ha:a<eP):a/2^k<eP:=Nat.lt_of_le_of_lt (Nat.div_le_self _ _) ha
theorem Bp (a:Nat):a%eP<eP:=Nat.mod_lt _ (by decide)
def pB (lo hi p:Nat):Nat:=lo/2^p ||| hi*2^(64-p)%eP
theorem mS {lo hi p:Nat} (h:lo<eP):pB lo hi p<eP:=or6 (Pi h) (Bp _)
structure St where
 lo:Nat
 hi:Nat
 fr:Nat
 gv:Nat
structure St.ok (s:St):Prop where
 lo:s.lo<eP
 hi:s.hi<eP
 fr:s.fr<eP
 gv:s.gv<eP
def uF (lo hi:Nat):Nat:=(pB lo hi 62 ^^^ pB lo hi 51 ^^^ pB lo hi 38 ^^^ pB lo hi 23 ^^^ pB lo hi 13 ^^^ pB lo hi 0) &&& 65535
def St.grow (s:St):St:=⟨pB s.lo s.hi 16,uF s.lo s.hi,uF s.lo s.hi,s.gv⟩
theorem Do {lo hi:Nat} (h:lo<eP):uF lo hi<eP:=Qt (yW (yW (yW (yW (yW (mS h) (mS h)) (mS h)) (mS h)) (mS h)) (mS h))
theorem St.ok.grow {s:St} (h:s.ok):s.grow.ok:=⟨mS h.lo,Do h.lo,Do h.lo,h.gv⟩
abbrev tz (x:Nat):Nat:=Lib.ctz 64 x
def IR (n c i:Nat):Nat:=n/2^(c-1-i)%2
def sM (n c i p:Nat):Nat:=IR n c i*2^(p%64)%eP
def lay1 (n c i p:Nat) (s:St):St:=if p/64=0 then ⟨s.lo ||| sM n c i p,s.hi,s.fr,s.gv⟩else ⟨s.lo,s.hi ||| sM n c i p,s.fr,s.gv⟩
theorem DA (n c i p:Nat):sM n c i p<eP:=Bp _
theorem St.ok.lay1 {s:St} (h:s.ok) (n c i p:Nat):(Ex.lay1 n c i p s).ok:=by
 unfold Ex.lay1
 by_cases e:p/64=0
 ·rw[if_pos e]; exact⟨or6 h.lo (DA _ _ _ _),h.hi,h.fr,h.gv⟩
 ·rw[if_neg e]; exact⟨h.lo,or6 h.hi (DA _ _ _ _),h.fr,h.gv⟩
def tZ (n c:Nat):Nat→Nat→Nat→St→St
 | 0,_,_,s=>s
 | m+1,i,p,s=>tZ n c m (i+1) (p+1) (lay1 n c i p s)
theorem fP (n c:Nat):∀(m i p:Nat) {s:St},s.ok→(tZ n c m i p s).ok
 | 0,_,_,_,h=>h
 | m+1,i,p,s,h=>fP n c m (i+1) (p+1) (h.lay1 n c i p)
def Hl:Nat→St→St
 | 0,s=>s
 | n+1,s=>(Hl n s).grow
theorem NV:∀(n:Nat) {s:St},s.ok→(Hl n s).ok
 | 0,_,h=>h
 | n+1,_,h=>(NV n h).grow
def St0:St:=⟨0,0,0,0⟩
def bgL (wd fl pt:Nat):St:=tZ 1073741823 30 30 0 50 (tZ pt 10 10 0 40 (tZ fl 10 10 0 30 (tZ wd 12 12 0 18 (tZ 254 12 12 0 6 (tZ 0 4 4 0 2 (tZ 1 2 2 0 0 St0))))))
def KY (wd fl pt:Nat):St:=Hl 10 (bgL wd fl pt)
theorem PT:St0.ok:=⟨by decide,by decide,by decide,by decide⟩
theorem Gd (wd fl pt:Nat):(bgL wd fl pt).ok:=fP _ _ _ _ _ (fP _ _ _ _ _ (fP _ _ _ _ _ (fP _ _ _ _ _ (fP _ _ _ _ _ (fP _ _ _ _ _ (fP _ _ _ _ _ PT))))))
theorem PF (wd fl pt:Nat):(KY wd fl pt).ok:=NV _ (Gd _ _ _)
def St.J (s:St):St:=⟨s.grow.lo,s.grow.hi,s.grow.fr,s.grow.fr &&& 21845⟩
theorem St.ok.J {s:St} (h:s.ok):s.J.ok:=⟨h.grow.lo,h.grow.hi,h.grow.fr,Qt h.grow.fr⟩
def Cv:Nat→St→Option St
 | 0,s=>bif Nat.beq s.gv 0 then none else some s
 | n+1,s=>bif Nat.beq s.gv 0 then Cv n s.J else some s
def Ji:Nat→St→St
 | 0,s=>s
 | n+1,s=>(Ji n s).J
theorem aBu:∀(n:Nat) (s:St),Ji n s.J=Ji (n+1) s
 | 0,s=>rfl
 | n+1,s=>by
  show (Ji n s.J).J=_;rw[aBu n s]; rfl
theorem Gz:∀(n:Nat) {s:St},s.ok→(Ji n s).ok
 | 0,s,h=>h
 | n+1,s,h=>(Gz n h).J
theorem sN:∀(n:Nat) (s t:St),Cv n s=some t→∃k,Ji k s=t∧t.gv≠0∧∀i,i<k→(Ji i s).gv=0
 | 0,s,t,h=>by
  unfold Cv at h;cases hb:Nat.beq s.gv 0<;>rw[hb]at h
  ·cases h;exact⟨0,rfl,(fun e=>by rw[e]at hb; cases hb),fun i hi=>by omega⟩
  ·cases h
 | n+1,s,t,h=>by
  unfold Cv at h;cases hb:Nat.beq s.gv 0<;>rw[hb]at h
  ·cases h;exact⟨0,rfl,(fun e=>by rw[e]at hb; cases hb),fun i hi=>by omega⟩
  ·obtain⟨k,h1,h2,h3⟩:=sN n s.J t h;refine⟨k+1,by rw[←aBu]; exact h1,h2,fun i hi => ?_⟩;cases i with
   | zero=>exact Nat.eq_of_beq_eq_true hb
   | succ i=>rw[←aBu]; exact h3 i (by omega)
def St.bit (t:St):Nat:=t.fr/2^(tz t.gv+1) &&& 1
def St.next (t:St):St:=⟨t.lo,t.hi,t.fr,t.gv &&& (t.gv-1)⟩
theorem St.ok.next {s:St} (h:s.ok):s.next.ok:=⟨h.lo,h.hi,h.fr,Qt h.gv⟩
def Qv (a b:Nat):Nat:=a*2^1%eP ||| b
def yR:Nat→St→Nat→Option (Nat×St)
 | 0,s,a=>some (a,s)
 | n+1,s,a=>match Cv 40 s with|some t=>yR n t.next (Qv a t.bit)|none=>none
theorem Rv {n:Nat} (h:n≠0) (hn:n<eP):tz n<64:=(Lib.lowest_bit 64 n h hn).2
theorem PE {s:St} (h:s.ok):s.bit<eP:=Qt (Pi h.fr)
theorem Gn {a:Nat} {s:St} (h:s.ok):Qv a s.bit<eP:=or6 (Bp _) (PE h)
theorem NO {n:Nat} {s t:St} (hs:s.ok) (h:Cv n s=some t):t.ok:=by
 obtain⟨k,rfl,_,_⟩:=sN n s t h;exact Gz k hs
theorem gF:∀(n:Nat) {s t:St} {a v:Nat},s.ok→a<eP→yR n s a=some (v,t)→t.ok∧v<eP
 | 0,s,t,a,v,hs,ha,h=>by cases h; exact⟨hs,ha⟩
 | n+1,s,t,a,v,hs,ha,h=>by
  unfold yR at h;cases hi:Cv 40 s with
  | none=>rw[hi]at h; cases h
  | some u =>
   rw[hi]at h;have hu:=NO hs hi;exact gF n hu.next (Gn hu) h
def KC (s:St):Option (Nat×St):=match yR 62 s 0 with
 | some (d,s1)=>(match yR 64 s1 0 with
  | some (c,s2)=>(match yR 64 s2 0 with
   | some (b,s3)=>(match yR 64 s3 0 with
    | some (a,s4)=>some (aC a b c d,s4)
    | none=>none)
   | none=>none)
  | none=>none)
 | none=>none
theorem uI {s t:St} {x:Nat} (h:KC s=some (x,t)):∃a b c d s1 s2 s3,yR 62 s 0=some (d,s1)∧yR 64 s1 0=some (c,s2)∧yR 64 s2 0=some (b,s3)∧yR 64 s3 0=some (a,t)∧x=aC a b c d:=by
 unfold KC at h;split at h
 ·rename_i d s1 h1;split at h
  ·rename_i c s2 h2;split at h
   ·rename_i b s3 h3;split at h
    ·rename_i a s4 h4;cases h;exact⟨a,b,c,d,s1,s2,s3,h1,h2,h3,h4,rfl⟩
    ·cases h
   ·cases h
  ·cases h
 ·cases h
def zK:Nat→St→Option (Nat×St)
 | 0,_=>none
 | n+1,s=>match KC s with
  | some (x,t)=>bif Nat.blt x RM then some (x,t)else zK n t
  | none=>none
def OQ:Nat→St→Option (List Nat)
 | 0,_=>some []
 | n+1,s=>match zK 100 s with
  | some (x,t)=>(match OQ n t with|some l=>some (x::l)|none=>none)
  | none=>none
def Cd (ops:Array Oper):Bool:=oP (fun i (_:Oper)=>Nat.beq (i+1) ops.size||(List.range ops.size).any fun k=>Nat.blt i k&&OO true ops k i) 0 ops.toList
def Xx (ops:Array Oper):Bool:=ops.toList.all fun o=>o.guard.isNone
theorem QY {ops:Array Oper} (h:Xx ops=true) {i:Nat} {o:Oper} (ho:ops[i]?=some o):∀y,Region.wanted o y=true:=by
 have hm:o∈ops.toList:=by
  have:ops.toList[i]?=some o:=by rw[Array.getElem?_toList]; exact ho
  exact List.mem_of_getElem? this
 have h1:o.guard.isNone=true:=List.all_eq_true.1 h o hm;have h2:o.guard=none:=by simpa using h1
 intro y;unfold Region.wanted;rw[h2]
theorem Ae {ops:Array Oper} {i:Nat} (h:i+1<ops.size):ops.pop[i]?=ops[i]?:=by
 rw[Array.getElem?_pop,if_pos (by omega)]
theorem RY {ops:Array Oper} {i j:Nat} (h:i+1<ops.size):OO true ops.pop i j=OO true ops i j:=by
 unfold OO;simp only[cond_true];rw[Ae h]
section
variable {E:Env} {ops:Array Oper} {base:Nat} {w0:World} {A A':List Fact} {TF:List (Option Nat×Fact)} {rs:List Rec} {ps:List Prop} {a:Act} {w:World} {Q:Exit→Act→World→Prop}
theorem Gk (hT:∀d,TabOkW E.P (E.T d) base w0) (hq:bQ E.P E.q base w0) (hrun:wJ E true ops.pop ops.pop.toList 0 (A.map fun φ=>(none,φ)) [] []=some (ps,TF,rs)) (hps:bC ps) (hchk:Hn true ops.pop rs=true) (hlow:Hj true ops=true) (hlast:Cd ops=true) (hno:Xx ops=true)
  {ol:Oper} (hol:ops[ops.size-1]?=some ol) (hQ:∀a w,Inv E true ops.pop base w0 TF rs (fun i=>i<ops.pop.size) a w→ol.wp E.P a w (fun a w=>Q .normal a w) Q) :
  ∀(m:Nat) (g:Array Bool) (a:Act) (w:World),g.size=ops.size→fr ops.size g=m→g.getD (ops.size-1) false=false→Inv E true ops.pop base w0 TF rs (fun i=>g.getD i false=true) a w→wpAny E.P .any ops Q m g a w:=by
 have hpos:0<ops.size:=by have:=(Array.getElem?_eq_some_iff.1 hol).1; omega
 have hps2:ops.pop.size=ops.size-1:=Array.size_pop;have hready:∀(g:Array Bool),g.size=ops.size→Region.ready .any ops g=[]→∀i,i<ops.size→g.getD i false=true:=fun g hs hr i=>by
  induction i using Nat.strongRecOn with
  | _ i ih =>
   intro hi;cases hb:g.getD i false with
   | true=>rfl
   | false =>
    exfalso;have:i∈Region.ready .any ops g:=by
     refine mem_ready.2 ⟨?_,ops[i],Array.getElem?_eq_getElem hi,fun e he hbi => ?_⟩
     ·have:i<g.size:=by omega
      simp[Array.getD,this]at hb ⊢;exact hb
     ·unfold Hj at hlow;simp only[cond_true]at hlow;have:=fZ hlow i ops[i] (by simp[hi]);rw[List.all_eq_true]at this;have:=this e (by simpa using he);rw[hbi]at this;have hlt:e.on<i:=by simpa using this
      exact ih e.on hlt (by omega)
    rw[hr]at this;cases this
 intro m
 induction m with
 | zero =>
  intro g a w hs hf hl hI;have:=DN hf (ops.size-1) (by omega);rw[hl]at this;cases this
 | succ m ih =>
  intro g a w hs hf hl hI;refine⟨fun hr => ?_,fun i hi => ?_⟩
  ·have:=hready g hs hr (ops.size-1) (by omega);rw[hl]at this;cases this
  obtain⟨h1,o,ho,h2⟩:=mem_ready.1 hi;have hlt:i<ops.size:=(Array.getElem?_eq_some_iff.1 ho).1;have hg:i<g.size:=by omega
  have hgi:g.getD i false=false:=by
   simp[Array.getD,hg]at h1 ⊢;exact h1
  unfold wpOp;rw[ho];simp only;rw[if_pos (QY hno ho _)];refine Or.inl ?_
  by_cases hil:i+1=ops.size
  ·have e:i=ops.size-1:=by omega
   subst e;rw[hol]at ho;cases ho;have hall:∀n j,j+n+1=ops.size→1≤n→g.getD j false=true:=fun n=>by
    induction n using Nat.strongRecOn with
    | _ n ihn =>
     intro j hj hn;have h3:=fZ hlast j ops[j] (by simp[show j<ops.size by omega]);rw[Nat.zero_add,Bool.or_eq_true]at h3
     rcases h3 with h3|h3
     ·have:=Nat.eq_of_beq_eq_true h3; omega
     ·obtain⟨k,hk,h4⟩:=List.any_eq_true.1 h3;rw[Bool.and_eq_true]at h4;have hjk:j<k:=by simpa using h4.1
      have hk:k<ops.size:=by simpa using hk
      by_cases ek:k+1=ops.size
      ·obtain⟨o',ho',e,he,hb,rfl⟩:=yA.1 h4.2;rw[show k=ops.size-1 by omega,hol]at ho';cases ho';exact h2 e he hb
      ·have h5:=ihn (ops.size-1-k) (by omega) k (by omega) (by omega);exact hI.closed k j h5 (by rw[RY (by omega)]; exact h4.2)
   have hfun:(fun i=>g.getD i false=true)=fun i=>i<ops.pop.size:=funext fun i=>propext ⟨fun h=>by
    rw[hps2]
    by_cases hi:i<g.size
    ·have:i≠ops.size-1:=fun e=>by rw[e,hl]at h; cases h
     omega
    ·simp[Array.getD,hi]at h,fun h=>hall (ops.size-1-i) i (by omega) (by omega)⟩
   rw[hfun]at hI;refine Oper.wp_mono (fun a' w' h => ?_) (hQ a w hI);have hnil:Region.ready .any ops (g.setIfInBounds (ops.size-1) true)=[]:=by
    apply List.eq_nil_iff_forall_not_mem.2;intro j hj;obtain⟨q1,o,qo,_⟩:=mem_ready.1 hj;have hjlt:j<ops.size:=(Array.getElem?_eq_some_iff.1 qo).1;have q2:(g.setIfInBounds (ops.size-1) true).getD j false=true:=by
     by_cases ej:j=ops.size-1
     ·exact (lX (by omega)).2 (Or.inl ej)
     ·exact (lX (by omega)).2 (Or.inr (hall (ops.size-1-j) j (by omega) (by omega)))
    have:j<(g.setIfInBounds (ops.size-1) true).size:=by simp; omega
    simp[Array.getD,this]at q1 q2;obtain⟨_,q1⟩:=q1;obtain⟨_,q2⟩:=q2;rw[q1]at q2; cases q2
   cases m with
   | zero=>exact⟨hnil,h⟩
   | succ m=>exact⟨fun _=>h,fun j hj=>by rw[hnil]at hj; cases hj⟩
  ·have hip:i+1<ops.size:=by omega
   have hst:=rN hT hq hrun hps hchk (Q:=Q) hI (show ops.pop[i]?=some o by rw[Ae hip]; exact ho) (by rw[hgi]; simp) (fun j hj=>by
    rw[RY hip]at hj;obtain⟨o',ho',e,he,hb,rfl⟩:=yA.1 hj;rw[ho]at ho';cases ho';exact h2 e he hb)
   rw[if_pos (QY hno ho _)]at hst;refine Oper.wp_mono (fun a' w' h => ?_) hst;refine ih _ a' w' (by simp[hs]) (by have:=OA hlt hg hgi; omega) ?_ ?_
   ·cases hb:(g.setIfInBounds i true).getD (ops.size-1) false with
    | false=>rfl
    | true =>
     rcases (lX hg).1 hb with q|q
     ·omega
     ·rw[hl]at q; cases q
   ·have:(fun j=>(g.setIfInBounds i true).getD j false=true)=fun j=>j=i∨g.getD j false=true:=funext fun j=>propext (lX hg)
    rwa [this]
end
def Wg (P:Program) (q:EqT) (nt:Nat) (c:Cfg) (ops:Array Oper) (A K:List Fact):Option (List Prop×List Fact) :=
 match zE (Sr P q nt c) true ops.pop A with
 | some (ps,A1)=>match pick A1 K with|some L=>some (ps,L)|none=>none
 | none=>none
theorem ME {P:Program} {q:EqT} {nt base id:Nat} {c:Cfg} {w0:World} {ops:Array Oper} {A K L:List Fact} {ps:List Prop} {Q:Exit→Act→World→Prop} (hm:P.follows .mixedOrders=true) (hT:∀d,TabOkW P (c.T d) base w0) (hq:bQ P q base w0) (h:Wg P q nt c ops A K=some (ps,L)) (hps:bC ps)
  (hk:(Hj true ops&&(Cd ops&&Xx ops))=true) {ol:Oper} (hol:ops[ops.size-1]?=some ol) {a:Act} {w:World} (hA:Holds nt base w0 A a w)
  (hQ:∀a w,Holds nt base w0 L a w→ol.wp P a w (fun a w=>Q .normal a w) Q):(Code.region id ops true).wp P Q a w:=by
 rw[Bool.and_eq_true,Bool.and_eq_true]at hk;unfold Wg at h;split at h
 ·rename_i ps' A1 h1;split at h
  ·rename_i L' h2;cases h;unfold zE at h1;split at h1
   ·rename_i ps' TF rs hrun;cases hc:(Hn true ops.pop rs&&Hj true ops.pop)<;>rw[hc]at h1
    ·cases h1
    ·cases h1;rw[Bool.and_eq_true]at hc;refine wp_region_any hm ?_;have hsz:∀n,fr n (Array.replicate ops.size false)=n:=fun n=>by
      induction n with
      | zero=>rfl
      | succ n ih=>unfold fr; rw[ih]; by_cases hn:n<ops.size<;>simp[Array.getD,hn]
     refine Gk (E:=Sr P q nt c) hT hq hrun hps hc.1 hk.1 hk.2.1 hk.2.2 hol (fun a w hI=>hQ a w ((pC hrun (fun _ h=>h) hI).sub (iE h2))) ops.size _ a _ (by simp) (hsz _) ?_ ?_
     ·have:=(Array.getElem?_eq_some_iff.1 hol).1;simp[Array.getD,this]
     ·have:(fun i=>(Array.replicate ops.size false).getD i false=true)=fun _:Nat=>False:=funext fun i=>propext (by by_cases hi:i<ops.size<;>simp[Array.getD,hi])
      rw[this];exact jX hrun hA.drew
   ·cases h1
  ·cases h
 ·cases h
theorem BY {w:World} {b o:Nat} {vs:List Value} (hf:∀j,w.frozen? ⟨b,j,none⟩=false):WrC w (w.setCells b o vs) b :=
 ⟨fS (Nat.le_refl _) _ _ _ _ (Below.refl _ _),fun p _ hne=>⟨World.cell?_setCells_out _ _ _ _ _ (fun q _=>absurd q hne),World.frozen?_setCells _ _ _ _ _⟩,dV _ _ _ _,fun j=>by rw[World.frozen?_setCells]; exact hf j⟩
theorem Own.there {w:World} {b:Nat} {l:List At} (h:Own w b l) {o n:Nat} (hn:o+n≤dN l):w.there b o n:=fun j hj=>by
 refine⟨?_,h.free _⟩;have hlt:o+j<(aA l).length:=by rw[aS]; omega
 have:=h.row (o+j) ((aA l)[o+j]'hlt) (List.getElem?_eq_getElem _);rw[Nat.zero_add]at this;rw[this]; rfl
theorem Own.set {w:World} {b o:Nat} {l l' p:List At} (h:Own w b l) (hp:put l o p=some l'):Own (w.setCells b o (aA p)) b l'∧WrC w (w.setCells b o (aA p)) b:=by
 obtain⟨q,m,s,e1,e2,e3,e4⟩:=wP hp;have hl:dN l=o+(dN p+dN s):=by rw[e1,mR,mR,e3,e4]
 have hth:∀j,j<(aA p).length→(w.cell? ⟨b,o+j,none⟩).isSome=true:=fun j hj=>by
  rw[aS]at hj;exact ((h.there (o:=o) (n:=dN p) (by omega)) j hj).1
 refine⟨⟨by rw[dC]; exact h.lt,fun j v hj => ?_,fun j=>by rw[World.frozen?_setCells]; exact h.free j⟩,BY h.free⟩;rw[Nat.zero_add];rw[e2]at hj;have hf:aA l=aA q++(aA m++aA s):=by rw[e1,aP,aP]
 have hqo:(aA q).length=o:=by rw[aS,e3]
 have hmp:(aA m).length=(aA p).length:=by rw[aS,aS,e4]
 by_cases h1:j<o
 ·rw[World.cell?_setCells_out _ _ _ _ _ (fun _ _=>Or.inl (show j<o from h1))];have:=h.row j v (by rw[hf]; rw[List.getElem?_append_left (by omega)]at hj ⊢; exact hj)
  rwa [Nat.zero_add]at this
 ·rw[List.getElem?_append_right (by omega),hqo]at hj
  by_cases h2:j-o<(aA p).length
  ·rw[List.getElem?_append_left h2]at hj;have:=World.cell?_setCells_in b (aA p) o w hth (j-o) h2;rw[show o+(j-o)=j by omega]at this;rw[this,←hj,List.getElem?_eq_getElem h2]
  ·rw[World.cell?_setCells_out _ _ _ _ _ (fun _ _=>Or.inr (show o+(aA p).length≤j by omega))];have:=h.row j v (by rw[hf,List.getElem?_append_right (by omega),hqo,List.getElem?_append_right (by omega),hmp]; rw[List.getElem?_append_right (by omega)]at hj; exact hj)
   rwa [Nat.zero_add]at this
theorem fL {P:Program} {op:Oper} {a:Act} {w:World} {K:Act→World→Prop} {Q:Exit→Act→World→Prop} {t b o:Nat} {x y:Operand} {v:Value} {vs:List Value} (hop:op.op=.store t x y) (hd:op.dst=none) (hx:a.eval x=ptV b o) (hy:a.eval y=v) (hv:v.cells=vs.toArray) (h1:vs.all (·.oneCell')=true)
  (hi:(P.info? t).map (·.size)=some vs.length) (hth:w.there b o vs.length) (hK:K a (w.setCells b o vs)):op.wp P a w K Q:=by
 have hst:=run_storeVar_mid (P:=P) w b o t vs.toArray (by simpa using hth) (by simpa using hi) (by simpa using h1);have hrun:(execOp a.eval op).run P w=.ok .skip (w.setCells b o vs):=by
  have e:(storeVar t ⟨b,o,none⟩ v).run P w=.ok () (w.setCells b o vs):=by
   unfold storeVar at hst ⊢;rw[hv];exact hst
  simp[execOp,hop,Instr.storeAt,hx,hy,ptV,Instr.sureAddr,e]
 unfold Oper.wp;rw[hrun];show K _ _;rw[hd];exact hK
def iH (op:BinOp) (t:Nat) (x y:Operand) (v u r:Value):Prop:=∀w:World,(do eqGuard op t x y v u; binOp op t v u:Sem Value).run prog w=.ok r w
def u6 (n:Nat):Value:=.int .u64 (Int.ofNat n)
theorem CD (t:Nat) (x y:Operand) {a b:Nat} (ha:a<eP) (hb:b<eP):iH .and t x y (u6 a) (u6 b) (u6 (a &&& b)):=fun w=>by
 have h:=bits_and_u64_nat a b ha hb;simp[eqGuard,binOp,go_sem,u6];exact h
theorem ZE (t:Nat) (x y:Operand) {a b:Nat} (ha:a<eP) (hb:b<eP):iH .or t x y (u6 a) (u6 b) (u6 (a ||| b)):=fun w=>by
 have h:=bits_or_u64_nat a b ha hb;simp[eqGuard,binOp,go_sem,u6];exact h
theorem wI (t:Nat) (x y:Operand) {a b:Nat} (ha:a<eP) (hb:b<eP):iH .xor t x y (u6 a) (u6 b) (u6 (a ^^^ b)):=fun w=>by
 have h:=bits_xor_u64_nat a b ha hb;simp[eqGuard,binOp,go_sem,u6];exact h
theorem ZC (t:Nat) (x y:Operand) (a:Nat) {k:Nat} (hk:k≤64):iH .shr t x y (u6 a) (iI k) (u6 (a/2^k)):=fun w=>by
 simp[eqGuard,binOp,go_sem,u6,iI,Nat.min_eq_left hk]
theorem ZD (t:Nat) (x y:Operand) (a:Nat) {k:Nat} (hk:k≤64):iH .shl t x y (u6 a) (iI k) (u6 (a*2^k%eP)):=fun w=>by
 simp[eqGuard,binOp,go_sem,u6,iI,IntKind.wrap,IntKind.signed,IntKind.bits,Nat.min_eq_left hk]
theorem Jt (t:Nat) (x y:Operand) (a:Nat) {k:Nat} (hk:k≤64):iH .shl t x y (u6 a) (u6 k) (u6 (a*2^k%eP)):=fun w=>by
 simp[eqGuard,binOp,go_sem,u6,IntKind.wrap,IntKind.signed,IntKind.bits,Nat.min_eq_left hk]
theorem Lq {p:Nat} (h:p≤64):aN .sub .i64 64 (Int.ofNat p)=some (iI (64-p)):=nV (i:=64) h (by decide)
theorem Kc (w:World) (b1 b2 lo hi p:Nat):cH prog { qG prog with x:=xO w (fun _=>none) (fun _=>none) (assoc [(5,u6 lo),(7,u6 (lo/2^p)),(8,u6 hi),(11,u6 (hi*2^(64-p)%eP)),(12,u6 (pB lo hi p))]) } (fun _=>tC T0 (assoc [(10,iI (64-p))])) f222 60 [.v (.im (iI p)),.v (.im (ptV b1 0)),.v (.im (ptV b2 0))]=some ([oldOf w b1 0 [.c (u6 lo)],iH .shr 22 (.tmp 5) (.tmp 6) (u6 lo) (iI p) (u6 (lo/2^p)),oldOf w b2 0 [.c (u6 hi)],aN .sub .i64 64 (Int.ofNat p)=some (iI (64-p)),iH .shl 22 (.tmp 8) (.tmp 10) (u6 hi) (iI (64-p)) (u6 (hi*2^(64-p)%eP)),iH .or 22 (.tmp 7) (.tmp 11) (u6 (lo/2^p)) (u6 (hi*2^(64-p)%eP)) (u6 (pB lo hi p))],.one (.im (u6 (pB lo hi p)))):=by kernel_rfl
theorem UV {w:World} {b1 b2 lo hi p:Nat} (hp:p≤64) (hl:lo<eP) (h1:oldOf w b1 0 [.c (u6 lo)]) (h2:oldOf w b2 0 [.c (u6 hi)]):bG prog 222 (.one (.im (u6 (pB lo hi p)))) [iI p,ptV b1 0,ptV b2 0] w :=
 bZ aI (fun _ _=>(bP _).w _ _) (dS w _ _ _) func222 (Kc w b1 b2 lo hi p) ⟨h1,ZC _ _ _ _ hp,h2,Lq hp,ZD _ _ _ _ (by omega),ZE _ _ _ (Pi hl) (Bp _),trivial⟩ (args:=[iI p,ptV b1 0,ptV b2 0]) ⟨rfl,rfl,rfl,trivial⟩
def gFr (b1 b2 lo hi:Nat):gE
 | [.v (.im (.int .i64 (.ofNat p))),.v (.im u1),.v (.im u2)]=>some ([p≤64,u1=ptV b1 0,u2=ptV b2 0],.one (.im (u6 (pB lo hi p))))
 | _=>none
theorem Zi {w:World} {b1 b2 lo hi:Nat} (hl:lo<eP) (h1:oldOf w b1 0 [.c (u6 lo)]) (h2:oldOf w b2 0 [.c (u6 hi)]):∀cs pre r,gFr b1 b2 lo hi cs=some (pre,r)→bC pre→∀(args:List Value),cP w cs args→bG prog 222 r args w:=by
 intro cs pre r hg hp args ha;unfold gFr at hg;split at hg
 ·rename_i p u1 u2;cases hg;obtain⟨hp,rfl,rfl,_⟩:=hp
  match args,ha with
  | [x,y,z],ha =>
   have e1:x=_:=ha.1;have e2:y=_:=ha.2.1;have e3:z=_:=ha.2.2.1;subst e1; subst e2; subst e3;exact UV hp hl h1 h2
  | [],ha=>exact ha.elim
  | [_],ha=>exact ha.2.elim
  | [_,_],ha=>exact ha.2.2.elim
  | _::_::_::_::_,ha=>exact ha.2.2.2.elim
 ·cases hg
def St.row (s:St):List At:=[.c (u6 s.lo),.c (u6 s.hi),.c (u6 s.fr),.c (u6 s.gv)]
theorem Own.on {w w':World} {b:Nat} {l:List At} (h:Own w b l) (hb:Below w.heap.size w w'):Own w' b l :=
 ⟨Nat.lt_of_lt_of_le h.lt hb.size,fun j v hj=>(hb.cell (p:=⟨b,0+j,none⟩) h.lt).trans (h.row j v hj),fun j=>(hb.frozen (p:=⟨b,j,none⟩) h.lt).trans (h.free j)⟩
theorem Own.old {w:World} {b o:Nat} {l s:List At} (h:Own w b l) (hs:zQ l o (dN s)=some s):oldOf w b o s:=by
 have:=eH h.row hs;rw[Nat.zero_add]at this;exact⟨h.lt,this⟩
theorem WrC.of_below {w w':World} {b:Nat} {l:List At} (h:Own w b l) (hb:Below w.heap.size w w') (hs:Shape w w'):WrC w w' b :=
 ⟨⟨hb.os,hb.tape,hb.output,hb.size,fun k hk=>hb.block k (Nat.lt_trans hk h.lt)⟩,fun p hp _=>⟨hb.cell hp,hb.frozen hp⟩,hs,(h.on hb).free⟩
theorem Holds.shape {nt base:Nat} {w0:World} {A:List Fact} {a:Act} {w:World} (h:Holds nt base w0 A a w):Shape w0 w:=by
 obtain⟨_,_,_,_,gt⟩:=h.facts;exact gt.shape
theorem oldOf.on {w w':World} {b o:Nat} {l:List At} (h:oldOf w b o l) (hb:Below w.heap.size w w'):oldOf w' b o l :=
 ⟨Nat.lt_of_lt_of_le h.1 hb.size,bJ hb h.1 h.2⟩
theorem oldOf.wr {w w':World} {b c o:Nat} {l:List At} (h:oldOf w b o l) (hb:WrC w w' c) (hne:b≠c):oldOf w' b o l :=
 ⟨Nat.lt_of_lt_of_le h.1 hb.below.size,fun j v hj=>((hb.mem ⟨b,o+j,none⟩ h.1 hne).1).trans (h.2 j v hj)⟩
theorem cR {a:Act} {s:Nat} {v:Value} (h:a.tmps[s]?=some v):a.eval (.tmp s)=v:=by simp[Act.eval,h]
noncomputable abbrev grF:Func:=f220
def oE:Code:=(f220.body).getD .skip
def gr2:Code:=cA (cB (cB oE))
def gr3:Code:=cB (cB (cB oE))
theorem Nj:oE=.seq (cA oE) (.seq (cA (cB oE)) (.seq (.region 2 (aE gr2) false) (.region 3 (aE gr3) true))):=by kernel_rfl
theorem aEP:grF.ntmps=47:=by kernel_rfl
def Td (b1 b2:Nat):Value:=.func (.func 222) #[] #[ptV b1 0,ptV b2 0]
theorem aEO (w:World) (sb lo hi:Nat):aX prog { qG prog with x:=xO w (assoc [(8,0),(13,1)]) (fun _=>none) (assoc [(9,u6 lo),(14,u6 hi)]) } 47 (fun _=>tC T0 fun _=>none) 60 (cA oE) (fJ 0 [.v (.im (ptV sb 0))]) [.slot 0 (.im (ptV sb 0)),.slot 2 (.pt 2 0),.row 2 true [.c (u6 lo)],.slot 3 (.pt 3 0),.row 3 true [.c (u6 hi)]]=some ([(0:Int)=Int.ofNat 0,0<2,oldOf w sb 0 [.c (u6 lo)],(1:Int)=Int.ofNat 1,1<2,oldOf w sb 1 [.c (u6 hi)]],.nrm,[.slot 0 (.im (ptV sb 0)),.slot 2 (.pt 2 0),.row 2 true [.c (u6 lo)],.slot 3 (.pt 3 0),.row 3 true [.c (u6 hi)]]):=by kernel_rfl
theorem aEN (sb b1 b2 lo hi:Nat):aX prog (qG prog) 47 (fun _=>tC T0 fun _=>none) 60 (cA (cB oE)) [.at 3 b2,.at 2 b1,.slot 0 (.im (ptV sb 0)),.slot 2 (.pt 2 0),.row 2 true [.c (u6 lo)],.slot 3 (.pt 3 0),.row 3 true [.c (u6 hi)]] [.slot 0 (.im (ptV sb 0)),.slot 4 (.im (Td b1 b2)),.row 2 true [.c (u6 lo)],.row 3 true [.c (u6 hi)],.at 2 b1,.at 3 b2]=some ([],.nrm,[.slot 0 (.im (ptV sb 0)),.slot 4 (.im (Td b1 b2)),.row 2 true [.c (u6 lo)],.row 3 true [.c (u6 hi)],.at 2 b1,.at 3 b2]):=by kernel_rfl
def gx1 (lo hi:Nat):Nat:=pB lo hi 62 ^^^ pB lo hi 51
def gx2 (lo hi:Nat):Nat:=gx1 lo hi ^^^ pB lo hi 38
def gx3 (lo hi:Nat):Nat:=gx2 lo hi ^^^ pB lo hi 23
def gx4 (lo hi:Nat):Nat:=gx3 lo hi ^^^ pB lo hi 13
def gx5 (lo hi:Nat):Nat:=gx4 lo hi ^^^ pB lo hi 0
def Tfr (b1 b2 lo hi:Nat):Tab:=T0.add 222 (gFr b1 b2 lo hi)
theorem aEM (w:World) (sb b1 b2 lo hi:Nat):cX prog { qG prog with x:=xO w (fun _=>none) (fun _=>none) (assoc [(21,u6 (gx1 lo hi)),(24,u6 (gx2 lo hi)),(27,u6 (gx3 lo hi)),(30,u6 (gx4 lo hi)),(33,u6 (gx5 lo hi)),(34,u6 (uF lo hi))]) } 47 (tC (Tfr b1 b2 lo hi) fun _=>none) ((aE gr2).extract 0 21) [.slot 0 (.im (ptV sb 0)),.slot 4 (.im (Td b1 b2))] [.slot 34 (.im (u6 (uF lo hi))),.slot 36 (.im (ptV sb 2)),.slot 0 (.im (ptV sb 0)),.slot 4 (.im (Td b1 b2))]
 = some ([62≤64,ptV b1 0=ptV b1 0,ptV b2 0=ptV b2 0,51≤64,ptV b1 0=ptV b1 0,ptV b2 0=ptV b2 0,iH .xor 22 (.tmp 18) (.tmp 20) (u6 (pB lo hi 62)) (u6 (pB lo hi 51)) (u6 (gx1 lo hi)),38≤64,ptV b1 0=ptV b1 0,ptV b2 0=ptV b2 0,iH .xor 22 (.tmp 21) (.tmp 23) (u6 (gx1 lo hi)) (u6 (pB lo hi 38)) (u6 (gx2 lo hi)),23≤64,ptV b1 0=ptV b1 0,ptV b2 0=ptV b2 0,iH .xor 22 (.tmp 24) (.tmp 26) (u6 (gx2 lo hi)) (u6 (pB lo hi 23)) (u6 (gx3 lo hi)),
  13≤64,ptV b1 0=ptV b1 0,ptV b2 0=ptV b2 0,iH .xor 22 (.tmp 27) (.tmp 29) (u6 (gx3 lo hi)) (u6 (pB lo hi 13)) (u6 (gx4 lo hi)),0≤64,ptV b1 0=ptV b1 0,ptV b2 0=ptV b2 0,iH .xor 22 (.tmp 30) (.tmp 32) (u6 (gx4 lo hi)) (u6 (pB lo hi 0)) (u6 (gx5 lo hi)),iH .and 22 (.tmp 33) (.const (u6 65535)) (u6 (gx5 lo hi)) (u6 65535) (u6 (uF lo hi))],[.slot 34 (.im (u6 (uF lo hi))),.slot 36 (.im (ptV sb 2)),.slot 0 (.im (ptV sb 0)),.slot 4 (.im (Td b1 b2))]):=by kernel_rfl
theorem aEL (w:World) (sb b1 b2 lo hi:Nat):Wg prog { qG prog with x:=xO w (fun _=>none) (fun _=>none) (assoc [(43,u6 (uF lo hi))]) } 47 (tC (Tfr b1 b2 lo hi) fun _=>none) (aE gr3) [.slot 0 (.im (ptV sb 0)),.slot 4 (.im (Td b1 b2))] [.slot 46 (.im (ptV sb 0)),.slot 44 (.fl [.c (u6 (pB lo hi 16)),.c (u6 (uF lo hi))])]
 = some ([16≤64,ptV b1 0=ptV b1 0,ptV b2 0=ptV b2 0,oldOf w sb 2 [.c (u6 (uF lo hi))]],[.slot 46 (.im (ptV sb 0)),.slot 44 (.fl [.c (u6 (pB lo hi 16)),.c (u6 (uF lo hi))])]):=by kernel_rfl
theorem Gq {w w':World} {b1 b2 lo hi:Nat} (hl:lo<eP) (h1:oldOf w b1 0 [.c (u6 lo)]) (h2:oldOf w b2 0 [.c (u6 hi)]):TabOkW prog (Tfr b1 b2 lo hi) w.heap.size w :=
 TabOkW.add ((bP _).w _ _) func222 (by kernel_rfl) (by kernel_rfl) (fun w' hw=>Zi hl (h1.on hw) (h2.on hw))
theorem Vu:(prog.info? 22).map (·.size)=some 1:=by kernel_rfl
theorem aCL:(prog.info? 262).map (·.size)=some 2:=by kernel_rfl
theorem Df {s:St} (hs:s.ok):Ua prog 220 s.row 0 [] (.many []) s.grow.row:=by
 intro w0 sb hO;obtain⟨lo,hi,fr,gv⟩:=s;obtain⟨h1,h2,h3,h4⟩:=hs;simp only at h1 h2 h3 h4;have hT:∀base w,∀n d:Nat,TabOkW prog T0 base w:=fun _ _ _ _=>(bP _).w _ _
 have hG:∀base w,bQ prog (qG prog) base w:=fun _ _=>(aV _).w _ _
 have hnt:f220.ntmps=47:=aEP;refine cM func220 (cs:=[.v (.im (ptV sb 0))]) (args:=[ptV sb 0]) (c:=oE) rfl ⟨rfl,trivial⟩ (Nat.le_of_ble_eq_true (by kernel_rfl)) fun a w hA => ?_
 rw[hnt]at hA;rw[Nj];have o1:oldOf w0 sb 0 [At.c (u6 lo)]:=hO.old rfl;have o2:oldOf w0 sb 1 [At.c (u6 hi)]:=hO.old rfl;refine wp_seq (aB aI (hT _ _) (dS w0 _ _ _) (aEO w0 sb lo hi) ⟨rfl,by decide,o1,rfl,by decide,o2,trivial⟩ hA fun a w hA => ?_);obtain⟨b1,hA⟩:=hA.at (k:=2) (l:=[.c (u6 lo)]) (by simp);obtain⟨b2,hA⟩:=hA.at (k:=3) (l:=[.c (u6 hi)]) (by simp);refine wp_seq (aB aI (hT _ _) (hG _ _) (aEN sb b1 b2 lo hi) trivial hA fun a w1 hA => ?_);have q1:oldOf w1 b1 0 [.c (u6 lo)]:=hA.old (k:=2) (by simp) (by simp);have q2:oldOf w1 b2 0 [.c (u6 hi)]:=hA.old (k:=3) (by simp) (by simp);have hge:w0.heap.size≤b1∧w0.heap.size≤b2:=by
  obtain⟨β,g1,_⟩:=hA.facts;obtain⟨_,_,r1,_⟩:=g1 (.row 2 true [.c (u6 lo)]) (by simp);obtain⟨_,_,r2,_⟩:=g1 (.row 3 true [.c (u6 hi)]) (by simp);have e1:=g1 (.at 2 b1) (by simp);have e2:=g1 (.at 3 b2) (by simp);simp only[Fact.ok]at e1 e2;exact⟨e1.1▸(r1 rfl).1,e2.1▸(r2 rfl).1⟩
 have n1:b1≠sb:=fun e=>by have:=hO.lt; omega
 have n2:b2≠sb:=fun e=>by have:=hO.lt; omega
 have hO1:=hO.on hA.below;have hW1:WrC w0 w1 sb:=WrC.of_below hO hA.below hA.shape;have hS:=aU (nt:=47) (w:=w1) (a:=a) (ts:=[(0,ptV sb 0),(4,Td b1 b2)]) hA.defers hA.size (fun x hx=>by
  simp only[List.mem_cons,List.not_mem_nil,or_false]at hx
  rcases hx with rfl|rfl
  ·exact hA.slot (by simp)
  ·exact hA.slot (by simp))
 clear hA;have T1:∀d:Nat,TabOkW prog (Tfr b1 b2 lo hi) w1.heap.size w1:=fun _=>Gq (w':=w1) h1 q1 q2
 have y62:=mS (hi:=hi) (p:=62) h1;have yx:∀p,pB lo hi p<eP:=fun p=>mS h1
 have z1:gx1 lo hi<eP:=yW (yx _) (yx _);have z2:gx2 lo hi<eP:=yW z1 (yx _);have z3:gx3 lo hi<eP:=yW z2 (yx _);have z4:gx4 lo hi<eP:=yW z3 (yx _);have z5:gx5 lo hi<eP:=yW z4 (yx _);refine wp_seq (bK (l:=List.range' 0 ((aE gr2).extract 0 21).size++(21::[])) (by kernel_rfl) ?_);refine aJ (c:=tC (Tfr b1 b2 lo hi) _) T1 (dS w1 _ _ _) (aEM w1 sb b1 b2 lo hi) ⟨by decide,rfl,rfl,by decide,rfl,rfl,wI _ _ _ (yx _) (yx _),by decide,rfl,rfl,wI _ _ _ z1 (yx _),by decide,rfl,rfl,wI _ _ _ z2 (yx _),by decide,rfl,rfl,wI _ _ _ z3 (yx _),by decide,rfl,rfl,wI _ _ _ z4 (yx _),CD _ _ _ z5 (by decide),trivial⟩ (by kernel_rfl) hS fun a w2 h2' => ?_
 obtain⟨o21,ho21,hop21,hd21,hg21⟩:∃x,(aE gr2)[21]?=some x∧x.op=.store 22 (.tmp 36) (.tmp 34)∧x.dst=none∧x.guard=none:=⟨_,rfl,rfl,rfl,rfl⟩
 have hO2:=hO1.on h2'.below;have hp2:put (St.row ⟨lo,hi,fr,gv⟩) 2 [At.c (u6 (uF lo hi))]=some (St.row ⟨lo,hi,uF lo hi,gv⟩):=rfl;obtain⟨hO3,hW3⟩:=hO2.set hp2;refine bE ho21 hg21 (fL (v:=u6 (uF lo hi)) (vs:=aA [At.c (u6 (uF lo hi))]) hop21 hd21 (h2'.imV (s:=36) (v:=ptV sb 2) (by simp)) (h2'.imV (s:=34) (by simp)) rfl rfl Vu (hO2.there (o:=2) (n:=1) (Nat.le_of_ble_eq_true rfl)) ?_);have hW13:WrC w1 (w2.setCells sb 2 (aA [At.c (u6 (uF lo hi))])) sb:=(WrC.of_below hO1 h2'.below h2'.shape).trans hW3;have hS3:=aU (nt:=47) (w:=w2.setCells sb 2 (aA [At.c (u6 (uF lo hi))])) (a:=a) (ts:=[(0,ptV sb 0),(4,Td b1 b2)]) h2'.defers h2'.size (fun x hx=>by
  simp only[List.mem_cons,List.not_mem_nil,or_false]at hx
  rcases hx with rfl|rfl
  ·exact h2'.slot (by simp)
  ·exact h2'.slot (by simp))
 clear h2';generalize w2.setCells sb 2 (aA [At.c (u6 (uF lo hi))])=w3 at *;have r1:=q1.wr hW13 n1;have r2:=q2.wr hW13 n2;have T3:∀d:Nat,TabOkW prog (Tfr b1 b2 lo hi) w3.heap.size w3:=fun _=>Gq (w':=w3) h1 r1 r2
 have o3:oldOf w3 sb 2 [At.c (u6 (uF lo hi))]:=hO3.old rfl;show (Code.region 3 (aE gr3) true).wp _ _ _ _;obtain⟨ol,hol,hopl,hdl⟩:∃x,(aE gr3)[(aE gr3).size-1]?=some x∧x.op=.store 262 (.tmp 46) (.tmp 44)∧x.dst=none:=⟨_,rfl,rfl,rfl⟩
 refine ME (c:=tC (Tfr b1 b2 lo hi) _) aI T3 (dS w3 _ _ _) (aEL w3 sb b1 b2 lo hi) ⟨by decide,rfl,rfl,o3,trivial⟩ (by kernel_rfl) hol hS3 fun a w4 h4' => ?_
 have hO4:=hO3.on h4'.below;have hp4:put (St.row ⟨lo,hi,uF lo hi,gv⟩) 0 [At.c (u6 (pB lo hi 16)),At.c (u6 (uF lo hi))]=some (St.row ⟨pB lo hi 16,uF lo hi,uF lo hi,gv⟩):=rfl;obtain⟨hO5,hW5⟩:=hO4.set hp4;refine fL (v:=.agg (aA [At.c (u6 (pB lo hi 16)),At.c (u6 (uF lo hi))]).toArray) (vs:=aA [At.c (u6 (pB lo hi 16)),At.c (u6 (uF lo hi))]) hopl hdl (h4'.imV (s:=46) (v:=ptV sb 0) (by simp)) (cR (h4'.slotF (s:=44) (by simp))) rfl rfl aCL (hO4.there (o:=0) (n:=2) (Nat.le_of_ble_eq_true rfl)) ?_;have hW:WrC w0 (w4.setCells sb 0 (aA [At.c (u6 (pB lo hi 16)),At.c (u6 (uF lo hi))])) sb:=hW1.trans (hW13.trans ((WrC.of_below hO3 h4'.below h4'.shape).trans hW5));exact⟨h4'.defers,.tuple #[],by simp[results,show f220.results = #[] by kernel_rfl],rfl,hW,hO5.row⟩
def WP:Tab:=(((T0.add 195 (Hm iP)).add 189 (Hm bI)).add 81 Ob).add 106 Nr
theorem IF:TabOk prog WP:=((((bP _).add func195 (by kernel_rfl) (by kernel_rfl) Sh).add func189 (by kernel_rfl) (by kernel_rfl) Sg).add func81 (by kernel_rfl) (by kernel_rfl) QM).add func106 (by kernel_rfl) (by kernel_rfl) Wk
theorem TH (x y:Nat):nI prog WP (qG prog) (fun _=>true) f164 40 [.v (.fl [.q x]),.v (.fl [.q y])]=some ([x<RM,y<RM],.one (.fl [.q (iP x y)])):=by kernel_rfl
theorem LU (x y:Nat):nI prog WP (qG prog) (fun _=>true) f198 40 [.v (.fl [.q x]),.v (.fl [.q y])]=some ([x<RM,y<RM],.one (.fl [.q (bI x y)])):=by kernel_rfl
def aBr:Tab:=(WP.add 164 (Tb iP To)).add 198 (Tb bI To)
theorem Sn:TabOk prog aBr:=(IF.add func164 (by kernel_rfl) (by kernel_rfl) (uE fun x y h args w ha=>cT aI IF (aV _) func164 (TH x y) h ha)).add
 func198 (by kernel_rfl) (by kernel_rfl) (uE fun x y h args w ha=>cT aI IF (aV _) func198 (LU x y) h ha)
theorem Kd (x:Nat):nI prog aBr (qG prog) (fun _=>true) f166 40 [.v (.fl [.q x])]=some ([x<RM,x<RM,bI x x<RM,bI x x<RM,bI (bI x x) (bI x x)<RM,x<RM],.one (.fl [.q (Oj x)])):=by kernel_rfl
def WO:Tab:=aBr.add 166 (Zl Oj fun x=>[x<RM])
theorem IE:TabOk prog WO:=Sn.add func166 (by kernel_rfl) (by kernel_rfl) (xS fun x h args w ha=>cT aI Sn (aV _) func166 (Kd x) ⟨h.1,h.1,aL _ _,aL _ _,aL _ _,h.1,trivial⟩ ha)
def iZ:Code:=(f118.body).getD .skip
def tA:Code:=jV (jV (cB (cA (cB iZ))))
theorem Gf:iZ=.seq (cA iZ) (.seq (.seq (cA (cA (cB iZ))) (.block 0 (.loop tA))) (cB (cB iZ))):=by kernel_rfl
def bsC (num:Nat→Option Value) (_:Nat):Cfg:=⟨fun _=>WO,fun _=>true,num⟩
theorem aBg (v:Value):aX prog (qG prog) f118.ntmps (bsC fun _=>none) 40 (cA iZ) (fJ 0 [.v (.im v)]) [.slot 0 (.im v)]=some ([],.nrm,[.slot 0 (.im v)]):=by kernel_rfl
theorem aBf (p:Option Addr) (N m:Nat):aX prog (qG prog) f118.ntmps (bsC fun _=>none) 40 (cA (cA (cB iZ))) [.slot 0 (.im (.slice p N m))] (PQ (.slice p N m) N 0)=some ([],.nrm,PQ (.slice p N m) N 0):=by kernel_rfl
theorem aBh (w:World) (b o N m i x:Nat):aX prog { qG prog with x:=xO w (assoc [(9,i)]) (assoc [(10,[.q x])]) (fun _=>none) } f118.ntmps (bsC (assoc [(8,.bool true),(13,.bool false),(14,iI (i+1))])) 40 tA (PQ (aM b o N m) N i) (PQ (aM b o N m) N (i+1))=some ([aN .lss .i64 (Int.ofNat i) (Int.ofNat N)=some (.bool true),Int.ofNat i=Int.ofNat i,i<N,oldOf w b (o+i*4) [.q x],dN [.q x]=4,x<aG,aN .neq .i64 (VT x) 0=some (.bool false),aN .add .i64 (Int.ofNat i) 1=some (iI (i+1))],.nrm,PQ (aM b o N m) N (i+1)):=by kernel_rfl
theorem aBi (w:World) (b o N m i x:Nat):aX prog { qG prog with x:=xO w (assoc [(9,i)]) (assoc [(10,[.q x])]) (fun _=>none) } f118.ntmps (bsC (assoc [(8,.bool true),(13,.bool true)])) 40 tA (PQ (aM b o N m) N i) [.slot 2 (.im (.bool false))]=some ([aN .lss .i64 (Int.ofNat i) (Int.ofNat N)=some (.bool true),Int.ofNat i=Int.ofNat i,i<N,oldOf w b (o+i*4) [.q x],dN [.q x]=4,x<aG,aN .neq .i64 (VT x) 0=some (.bool true)],.rt,[.slot 2 (.im (.bool false))]):=by kernel_rfl
theorem Qq (v:Value) (N i:Nat):aX prog (qG prog) f118.ntmps (bsC (assoc [(8,.bool false)])) 40 tA (PQ v N i) (PQ v N i)=some ([aN .lss .i64 (Int.ofNat i) (Int.ofNat N)=some (.bool false)],.ex 0,PQ v N i):=by kernel_rfl
theorem Ge (v:Value) (N i:Nat):aX prog (qG prog) f118.ntmps (bsC fun _=>none) 40 (cB (cB iZ)) (PQ v N i) [.slot 2 (.im (.bool true))]=some ([],.rt,[.slot 2 (.im (.bool true))]):=by kernel_rfl
theorem KJ {w0:World} {b o N m i:Nat} {f:Nat→Nat} (hb:b<w0.heap.size) (hr:w0.rangeAt b o (aA (cJ (el f) 0 N))) (hN:N≤4611686018427387904) (hi:i<N) (hx:f i<aG) (h:f i<RM):Ok prog w0.heap.size w0 f118.ntmps tA (PQ (aM b o N m) N i) .nrm (PQ (aM b o N m) N (i+1)) :=
 ⟨_,_,_,_,dS w0 _ _ _,fun _ _=>IE.w _ _,aBh w0 b o N m i (f i),fA hi,rfl,hi,nU hb hr hi,rfl,hx,DY h,gN (k:=1) (by omega),trivial⟩
theorem BB {w0:World} {v:Value} {N:Nat} {f:Nat→Nat} (hv:LV w0 v N f) (hN:N≤4611686018427387904):bG prog 118 (.one (.im (.bool (decide (pM N f))))) [v] w0:=by
 obtain⟨p,m,rfl,hm,h256,hmem⟩:=hv;have hG:bQ prog (qG prog) w0.heap.size w0:=(aV _).w _ _;have hT:∀n d:Nat,TabOkW prog WO w0.heap.size w0:=fun _ _=>IE.w _ _
 refine cM func118 (cs:=[.v (.im (.slice p N m))]) (args:=[.slice p N m]) (c:=iZ) rfl ⟨rfl,trivial⟩ (Nat.le_of_ble_eq_true (by kernel_rfl)) fun a w' hA => ?_
 rw[Gf];refine wp_seq (aB aI hT hG (aBg _) trivial hA fun a w' hA => ?_);refine wp_seq (wp_seq (aB aI hT hG (aBf p N m) trivial hA fun a w' hA => ?_));refine wp_block ?_;have fin:∀(P Q:Exit→Act→World→Prop) e a w,P e a w→(∀e a w,P e a w→Q e a w)→Q e a w:=fun P Q e a w h k=>k e a w h
 by_cases h:pM N f
 ·rw[decide_eq_true h];refine kG aI (fun i=>PQ (.slice p N m) N i) N (fun i hi => ?_) (.ex 0) (by simp) (PQ (.slice p N m) N N) ⟨_,_,_,_,hG,hT,Qq _ N N,dM (Nat.le_refl _),trivial⟩ hA fun a w hA => ?_
  ·obtain⟨b,o,rfl,hb,hr⟩:=hmem (by omega);exact KJ hb hr hN hi (h256 i hi) (h i hi)
  ·show (cB (cB iZ)).wp _ _ _ _;exact aB aI hT hG (Ge _ N N) trivial hA fun a w' hA=>lZ (l:=[.im (.bool true)]) (r:=.one (.im (.bool true))) (by kernel_rfl) (by kernel_rfl) hA
 ·rw[decide_eq_false h];obtain⟨j,hj,h1,h2⟩:=VB (p:=fun j=>f j<RM) h;obtain⟨b,o,rfl,hb,hr⟩:=hmem (by omega);refine kG aI (fun i=>PQ (aM b o N m) N i) j (fun i hi=>KJ hb hr hN (by omega) (h256 i (by omega)) (h1 i hi)) .rt (by simp) [.slot 2 (.im (.bool false))] ⟨_,_,_,_,dS w0 _ _ _,hT,aBi w0 b o N m j (f j),fA hj,rfl,hj,nU hb hr hj,rfl,h256 j hj,DZ h2,trivial⟩ hA fun a w hA => ?_
  exact lZ (l:=[.im (.bool false)]) (r:=.one (.im (.bool false))) (by kernel_rfl) (by kernel_rfl) hA
open Go.RowKit Go.Shelf
def aCj:Go.Shelf.Ren:=⟨fun|29=>223|n=>n,fun|0=>0|3=>3|4=>4|5=>5|22=>22|25=>140|54=>271|n=>n,fun|1=>2|n=>n⟩
theorem Uw:Lays7.n29 prog aCj:={
 mixed:=by kernel_rfl
 f29:=func223.trans (congrArg some (by kernel_rfl))
 t0:=underlying0
 a0:=Tryz.isAgg0
 z0:=Tryz.sizeOf0
 v0:=Tryz.zeroValue0
 i0:=by kernel_rfl
 t3:=underlying3
 a3:=Tryz.isAgg3
 z3:=Tryz.sizeOf3
 v3:=Tryz.zeroValue3
 i3:=by kernel_rfl
 t4:=underlying4
 a4:=Tryz.isAgg4
 z4:=Tryz.sizeOf4
 v4:=Tryz.zeroValue4
 i4:=by kernel_rfl
 t5:=underlying5
 a5:=Tryz.isAgg5
 z5:=Tryz.sizeOf5
 v5:=Tryz.zeroValue5
 i5:=by kernel_rfl
 t22:=underlying22
 a22:=Tryz.isAgg22
 z22:=Tryz.sizeOf22
 v22:=Tryz.zeroValue22
 i22:=by kernel_rfl
 t25:=underlying140
 a25:=Tryz.isAgg140
 z25:=Tryz.sizeOf140
 v25:=Tryz.zeroValue140
 i25:=by kernel_rfl
 t54:=underlying271
 a54:=Tryz.isAgg271
 z54:=Tryz.sizeOf271
 g1:=by kernel_rfl }
def Dbj (w:World):Prop:=Go.Proofs.TabAt 2 Lib.deBruijn64tab w
theorem Dbj.lt {w:World} (h:Dbj w):2<w.heap.size:=by
 have:=h 0 (by decide)
 rcases Nat.lt_or_ge 2 w.heap.size with q|q
 ·exact q
 ·have h2:w.cell? ⟨2,0,none⟩=none:=by
   unfold World.cell?;simp[Array.getElem?_eq_none_iff.2 q]
  rw[h2]at this; cases this
theorem Dbj.on {w w':World} {base:Nat} (h:Dbj w) (hB:2<base) (hb:Below base w w'):Dbj w':=fun j hj=>(hb.cell (p:=⟨2,j,none⟩) hB).trans (h j hj)
theorem XT {x:Nat} (hx:x<eP) {w:World} (h:Dbj w):bG prog 223 (.one (.im (iI (tz x)))) [u6 x] w:=by
 refine (Any7.bits_TrailingZeros64 Uw x hx w fun _=>h).mono ?_
 rintro e w' ⟨rfl,rfl⟩
 exact⟨rfl,Below.refl _ _⟩
def gTz:gE
 | [.v (.im (.int .u64 (.ofNat x)))]=>some ([x<eP],.one (.im (iI (tz x))))
 | _=>none
theorem Yu {w:World} (h:Dbj w):∀cs pre r,gTz cs=some (pre,r)→bC pre→∀(args:List Value),cP w cs args→bG prog 223 r args w:=by
 intro cs pre r hg hp args ha;unfold gTz at hg;split at hg
 ·rename_i x;cases hg
  match args,ha with
  | [u],ha =>
   have h1:u=.int .u64 (Int.ofNat x):=ha.1;subst h1;exact XT hp.1 h
  | [],ha=>exact ha.elim
  | _::_::_,ha=>exact ha.2.elim
 ·cases hg
def aBo:Tab:=T0.add 223 gTz
theorem aCi {w:World} {base:Nat} (h:Dbj w) (hB:2<base):TabOkW prog aBo base w :=
 TabOkW.add ((bP _).w _ _) func223 (by kernel_rfl) (by kernel_rfl) (fun w' hw=>Yu (h.on hB hw))
noncomputable abbrev wdF:Func:=f221
def jH:Code:=(f221.body).getD .skip
def gG:Code:=jV (jV (cB (cA (cB (cB jH)))))
def wdB:Code:=jV (cA (cB (cB gG)))
def QA:Code:=jV (jV (cA wdB))
theorem Ib:jH=.seq (cA jH) (.seq (cA (cB jH)) (.seq (.seq (cA (cA (cB (cB jH)))) (.block 0 (.loop gG))) (cB (cB (cB jH))))):=by kernel_rfl
theorem Hz:gG=.seq (cA gG) (.seq (cA (cB gG)) (.seq (.block 1 (.seq (.block 2 (.loop QA)) (cB wdB))) (cB (cB (cB gG))))):=by kernel_rfl
theorem aCe:wdF.ntmps=55:=by kernel_rfl
def wA (N sb C a:Nat) (s:St):List Fact:=[.slot 0 (.pt 0 0),.row 0 true s.row,.at 0 sb,.at 55 N,.slot 1 (.im (iI C)),.slot 5 (.im (u6 a))]
def wF (N sb C i a:Nat) (s:St):List Fact:=[.slot 0 (.pt 0 0),.row 0 true s.row,.at 0 sb,.at 55 N,.slot 5 (.im (u6 a)),.slot 7 (.im (iI C)),.slot 8 (.im (iI i))]
def qW (gen:Nat→Option Value) (T5:Tab5):EqT:=qPx prog (fun _=>none) (fun _=>none) (fun _=>none) gen T5
theorem aCc (N sb C:Nat) (s:St):aX prog (qW (fun _=>none) kX) 55 (fun _=>tC T0 fun _=>none) 60 (cA jH) (PK 55 sb N 0 s.row [.im (iI C)]) (PK 55 sb N 0 s.row [.im (iI C)])=some ([],.nrm,PK 55 sb N 0 s.row [.im (iI C)]):=by kernel_rfl
theorem aCb (N sb C:Nat) (s:St):aX prog (qW (fun _=>none) kX) 55 (fun _=>tC T0 fun _=>none) 60 (cA (cB jH)) (PK 55 sb N 0 s.row [.im (iI C)]) (wA N sb C 0 s)=some ([],.nrm,wA N sb C 0 s):=by kernel_rfl
theorem aCa (N sb C a:Nat) (s:St):aX prog (qW (fun _=>none) kX) 55 (fun _=>tC T0 fun _=>none) 60 (cA (cA (cB (cB jH)))) (wA N sb C a s) (wF N sb C 0 a s)=some ([],.nrm,wF N sb C 0 a s):=by kernel_rfl
theorem aCh (N sb C i a:Nat) (s:St):aX prog (qW (fun _=>none) kX) 55 (fun _=>tC T0 (assoc [(9,.bool true)])) 60 (cA gG) (wF N sb C i a s) (.slot 9 (.im (.bool true))::wF N sb C i a s)=some ([aN .lss .i64 (Int.ofNat i) (Int.ofNat C)=some (.bool true)],.nrm,.slot 9 (.im (.bool true))::wF N sb C i a s):=by kernel_rfl
theorem Uq (N sb C i a:Nat) (s:St):aX prog (qW (fun _=>none) kX) 55 (fun _=>tC T0 fun _=>none) 60 (cA (cB gG)) (.slot 9 (.im (.bool true))::wF N sb C i a s) (wF N sb C i a s)=some ([],.nrm,wF N sb C i a s):=by kernel_rfl
theorem aIw (N sb C i a:Nat) (s:St):aX prog (qW (fun _=>none) kX) 55 (fun _=>tC T0 (assoc [(9,.bool false)])) 60 (cA gG) (wF N sb C i a s) (.slot 9 (.im (.bool false))::wF N sb C i a s)=some ([aN .lss .i64 (Int.ofNat i) (Int.ofNat C)=some (.bool false)],.nrm,.slot 9 (.im (.bool false))::wF N sb C i a s):=by kernel_rfl
theorem aBZ (N sb C i a:Nat) (s:St):aX prog (qW (fun _=>none) kX) 55 (fun _=>tC T0 fun _=>none) 60 (cA (cB gG)) (.slot 9 (.im (.bool false))::wF N sb C i a s) (wF N sb C i a s)=some ([],.ex 0,wF N sb C i a s):=by kernel_rfl
def aBt (s:St):Tab5:=kX.add 220 (pe0 s.row 0 (.many []) s.grow.row)
theorem aCg (N sb C i a:Nat) (s:St):aX prog (qW (assoc [(22,u6 (s.grow.fr &&& 21845))]) (aBt s)) 55 (fun _=>tC T0 (assoc [(14,.bool true)])) 60 QA (wF N sb C i a s) (wF N sb C i a s.J)=some ([aN .eql .u64 (Int.ofNat s.gv) 0=some (.bool true),s.row=s.row,0=0,iH .and 22 (.tmp 21) (.const (u6 21845)) (u6 s.grow.fr) (u6 21845) (u6 (s.grow.fr &&& 21845))],.nrm,wF N sb C i a s.J):=by kernel_rfl
theorem aCf (N sb C i a:Nat) (s:St):aX prog (qW (fun _=>none) kX) 55 (fun _=>tC T0 (assoc [(14,.bool false)])) 60 QA (wF N sb C i a s) (wF N sb C i a s)=some ([aN .eql .u64 (Int.ofNat s.gv) 0=some (.bool false)],.ex 2,wF N sb C i a s):=by kernel_rfl
theorem Ur (N sb C i a:Nat) (s:St):aX prog (qW (assoc [(39,u6 (s.gv &&& (s.gv-1))),(43,u6 (a*2^1%eP)),(50,u6 (s.fr/2^(tz s.gv+1))),(51,u6 s.bit),(52,u6 (Qv a s.bit))]) kX) 55 (fun _=>tC aBo (assoc [(38,u6 (s.gv-1)),(49,iI (tz s.gv+1))])) 60 (cB wdB) (wF N sb C i a s) (wF N sb C i (Qv a s.bit) s.next)
 = some ([s.gv<eP,aN .sub .u64 (Int.ofNat s.gv) 1=some (u6 (s.gv-1)),iH .and 22 (.tmp 33) (.tmp 38) (u6 s.gv) (u6 (s.gv-1)) (u6 (s.gv &&& (s.gv-1))),iH .shl 22 (.tmp 42) (.const (u6 1)) (u6 a) (u6 1) (u6 (a*2^1%eP)),aN .add .i64 (Int.ofNat (tz s.gv)) 1=some (iI (tz s.gv+1)),iH .shr 22 (.tmp 47) (.tmp 49) (u6 s.fr) (iI (tz s.gv+1)) (u6 (s.fr/2^(tz s.gv+1))),iH .and 22 (.tmp 50) (.const (u6 1)) (u6 (s.fr/2^(tz s.gv+1))) (u6 1) (u6 s.bit),iH .or 22 (.tmp 43) (.tmp 51) (u6 (a*2^1%eP)) (u6 s.bit) (u6 (Qv a s.bit))],.nrm,wF N sb C i (Qv a s.bit) s.next):=by kernel_rfl
theorem aCd (N sb C i a:Nat) (s:St):aX prog (qW (fun _=>none) kX) 55 (fun _=>tC T0 (assoc [(53,iI (i+1))])) 60 (cB (cB (cB gG))) (wF N sb C i a s) (wF N sb C (i+1) a s)=some ([aN .add .i64 (Int.ofNat i) 1=some (iI (i+1))],.nrm,wF N sb C (i+1) a s):=by kernel_rfl
theorem Ia (N sb C i a:Nat) (s:St):aX prog (qW (fun _=>none) kX) 55 (fun _=>tC T0 fun _=>none) 60 (cB (cB (cB jH))) (wF N sb C i a s) [.slot 4 (.im (u6 a)),.row 0 true s.row,.at 0 sb,.at 55 N]=some ([],.rt,[.slot 4 (.im (u6 a)),.row 0 true s.row,.at 0 sb,.at 55 N]):=by kernel_rfl
theorem SR {s:St} (hs:s.ok):PtOk prog (aBt s):=(jL _).add func220 (by kernel_rfl) (by kernel_rfl) (Xl (Df hs))
theorem aKn:aN .eql .u64 (Int.ofNat 0) 0=some (.bool true):=rfl
theorem aKo {n:Nat} (h:n≠0):aN .eql .u64 (Int.ofNat n) 0=some (.bool false):=by
 show some (Value.bool (Int.ofNat n==0))=_;rw[show (Int.ofNat n==0)=false by rw[beq_eq_false_iff_ne]; intro e; exact h (by simpa using e)]
theorem Js {n:Nat} (h:n≠0) (hn:n<eP):aN .sub .u64 (Int.ofNat n) 1=some (u6 (n-1)):=by
 show some (Value.int .u64 (IntKind.u64.wrap ((n:Int)-1)))=_;have:IntKind.u64.wrap ((n:Int)-1)=((n-1:Nat):Int):=by rw[IntKind.wrap_u64]; unfold eP at hn; omega
 rw[this]; rfl
theorem XP {s t:St} {C v:Nat} (hs:s.ok) (hC:C<4611686018427387904) (hw:yR C s 0=some (v,t)) {w0:World} {sb:Nat} (hD:Dbj w0) (hg:2<sb) (hO:Own w0 sb s.row) :
  Calls prog 221 (ptV sb 0::[iI C]).toArray w0 (Wr sb w0 (.one (.im (u6 v))) t.row):=by
 have hT:∀n d:Nat,TabOkW prog T0 sb w0:=fun _ _=>(bP _).w _ _
 have hZ:∀n d:Nat,TabOkW prog aBo sb w0:=fun _ _=>aCi hD hg
 have hq:∀gen,bQ prog (qW gen kX) sb w0:=fun gen=>nP (jL _) _ _
 have hnt:f221.ntmps=55:=aCe;refine uG (ts:=[.im (iI C)]) func221 (c:=jH) rfl hO (Nat.le_of_ble_eq_true (by kernel_rfl)) fun a w hA => ?_
 rw[hnt]at hA;rw[Ib];refine wp_seq (aB aI hT (hq _) (aCc w0.heap.size sb C s) trivial hA fun a w hA => ?_);refine wp_seq (aB aI hT (hq _) (aCb w0.heap.size sb C s) trivial hA fun a w hA => ?_);refine wp_seq (wp_seq (aB aI hT (hq _) (aCa w0.heap.size sb C 0 s) trivial hA fun a w hA => ?_));refine wp_block ?_;refine dU (n:=C+1) ?_;have wl:∀Q a w,(Code.seq (cA gG) (.seq (cA (cB gG)) (.seq (.block 1 (.seq (.block 2 (.loop QA)) (cB wdB))) (cB (cB (cB gG)))))).wp prog Q a w→gG.wp prog Q a w:=fun Q a w h=>by rw[Hz]; exact h
 have key:∀m i (s:St) (ac:Nat) a w,i+m=C→s.ok→ac<eP→yR m s ac=some (v,t)→Holds 55 sb w0 (wF w0.heap.size sb C i ac s) a w→Un prog gG (Exit.inBlock 0 (Exit.then ((cB (cB (cB jH))).wp prog (bodyPost prog f221 (Wr sb w0 (.one (.im (u6 v))) t.row))) (bodyPost prog f221 (Wr sb w0 (.one (.im (u6 v))) t.row)))) (m+1) a w:=by
  intro m
  induction m with
  | zero =>
   intro i s ac a w hi hs ha hw hA;cases hw;unfold Un;refine wl _ _ _ (wp_seq (aB aI hT (hq _) (aIw w0.heap.size sb C i v t) ⟨dM (by omega),trivial⟩ hA fun a w hA => ?_));refine wp_seq (aB aI hT (hq _) (aBZ w0.heap.size sb C i v t) trivial hA fun a w hA => ?_);simp only[EA.out,Exit.then,Exit.inBlock,if_true];refine aB aI hT (hq _) (Ia w0.heap.size sb C i v t) trivial hA fun a w hA => ?_
   exact cN (l:=[.im (u6 v)]) (r:=.one (.im (u6 v))) (by kernel_rfl) (by kernel_rfl) hA ⟨rfl,hA.wrc (by simp) (by simp) (by simp)⟩
  | succ m ih =>
   intro i s ac a w hi hs ha hw hA;unfold yR at hw;cases hin:Cv 40 s with
   | none=>rw[hin]at hw; cases hw
   | some u =>
    rw[hin]at hw;simp only at hw;have hu:=NO hs hin;obtain⟨k,hk,hne,h0⟩:=sN 40 s u hin;unfold Un;refine wl _ _ _ (wp_seq (aB aI hT (hq _) (aCh w0.heap.size sb C i ac s) ⟨fA (by omega),trivial⟩ hA fun a w hA => ?_));refine wp_seq (aB aI hT (hq _) (Uq w0.heap.size sb C i ac s) trivial hA fun a w hA => ?_);refine wp_seq (wp_block (wp_seq (wp_block ?_)));refine kG aI (fun j=>wF w0.heap.size sb C i ac (Ji j s)) k (fun j hj => ?_) (.ex 2) (by simp) (wF w0.heap.size sb C i ac (Ji k s)) ⟨_,_,_,_,hq _,hT,aCf w0.heap.size sb C i ac (Ji k s),aKo (by rw[hk]; exact hne),trivial⟩ hA fun a w hA => ?_
    ·have hj0:=h0 j hj;have hjo:=Gz j hs;exact⟨_,_,_,_,nP (SR hjo) _ _,hT,aCg w0.heap.size sb C i ac (Ji j s),by rw[hj0]; exact aKn,rfl,rfl,CD _ _ _ hjo.grow.fr (by decide),trivial⟩
    ·rw[hk]at hA;simp only[EA.out,Exit.then,Exit.inBlock,if_true];refine aB aI hZ (hq _) (Ur w0.heap.size sb C i ac u) ⟨hu.gv,Js hne hu.gv,CD _ _ _ hu.gv (by have:=hu.gv; omega),Jt _ _ _ _ (by omega),gN (k:=1) (by have:=Rv hne hu.gv; omega),ZC _ _ _ _ (by have:=Rv hne hu.gv; omega),CD _ _ _ (Pi hu.fr) (by decide),ZE _ _ _ (Bp _) (PE hu),trivial⟩ hA fun a w hA => ?_
     simp only[EA.out,Exit.then,Exit.inBlock,if_true];refine aB aI hT (hq _) (aCd w0.heap.size sb C i (Qv ac u.bit) u.next) ⟨gN (k:=1) (by omega),trivial⟩ hA fun a w hA => ?_
     exact ih (i+1) u.next (Qv ac u.bit) a w (by omega) hu.next (Gn hu) hw hA
 exact key C 0 s 0 a w (by omega) hs (by decide) hw hA
def Rk (P:Program) (T:Tab5) (base:Nat) (w:World):Prop:=∀f cs pre j r l,T f cs=some (pre,j,r,l)→bC pre→(∀args w,(callFunc f args).run P w=.ok (.enter f args) w) ∧
 ∀(args:List Value),cP w cs args→∀b o,args[j]?=some (.pointer (some ⟨b,o,none⟩))→(∀q,w.frozen? ⟨b,q,none⟩=false)→base≤b→Calls P f args.toArray w (fun e w'=>e=.returned r.den∧WrC w w' b∧w'.rangeAt b 0 (aA l))
theorem ZQ {P:Program} {ld st:Nat→Option (List At)} {idx:Nat→Option Nat} {gen:Nat→Option Value} {T5:Tab5} {base:Nat} {w0:World} (h5:∀w',Below base w0 w'→Rk P T5 base w'):bQ P (qPx P ld st idx gen T5) base w0 :=
 ⟨(aV P).1,fun w' hb=>⟨fun _ _ _ h=>h.elim,fun _ _ _ _ h=>(by cases h),fun _ _ _ _ h=>(by cases h),fun _ _ _ _ _ h=>(by cases h),fun f cs pre j r l hg hp=>h5 w' hb f cs pre j r l hg hp,fun _ _ _ _ _ _ _ h=>(by cases h)⟩⟩
def BH (f:Nat) (g:List CA→Option (List Prop×Nat×RV×List At)):Tab5:=kX.add f g
theorem KP {P:Program} {f:Nat} {fn:Func} {base:Nat} {w:World} (hf:P.funcs[f]?=some fn) (hn:(fn.name == "runtime.NumGoroutine")=false) (hb:fn.body.isNone=false) {g:List CA→Option (List Prop×Nat×RV×List At)}
  (h:∀cs pre j r l,g cs=some (pre,j,r,l)→bC pre→∀(args:List Value),cP w cs args→∀b o,args[j]?=some (.pointer (some ⟨b,o,none⟩))→(∀q,w.frozen? ⟨b,q,none⟩=false)→base≤b →
   Calls P f args.toArray w (fun e w'=>e=.returned r.den∧WrC w w' b∧w'.rangeAt b 0 (aA l))):Rk P (BH f g) base w:=by
 intro f' cs pre j r l hg hp;unfold BH Tab5.add at hg;cases hb':Nat.beq f' f<;>rw[hb']at hg
 ·cases hg
 ·cases Nat.eq_of_beq_eq_true hb';exact⟨cC hf hn hb,h cs pre j r l hg hp⟩
def Xk (l0:List At) (v0:Value) (r:RV) (l1:List At):List CA→Option (List Prop×Nat×RV×List At)
 | [.p l 0,.v (.im v)]=>some ([l=l0,v=v0],0,r,l1)
 | _=>none
theorem XO {s t:St} {C v:Nat} (hs:s.ok) (hC:C<4611686018427387904) (hw:yR C s 0=some (v,t)) {base:Nat} {w:World} (hD:Dbj w) (hB:2<base):Rk prog (BH 221 (Xk s.row (iI C) (.one (.im (u6 v))) t.row)) base w :=
 KP func221 (by kernel_rfl) (by kernel_rfl) fun cs pre j r l hg hp args ha b o hj hz hle=>by
  unfold Xk at hg;split at hg
  ·cases hg;obtain⟨rfl,rfl,_⟩:=hp
   match args,ha with
   | [x,y],ha =>
    obtain⟨⟨b',rfl,h1,h2⟩,h3,_⟩:=ha;cases hj;have h3:y=iI C:=h3;subst h3;exact XP hs hC hw hD (Nat.lt_of_lt_of_le hB hle) ⟨h1,h2,hz⟩
   | [],ha=>exact ha.elim
   | [_],ha=>exact ha.2.elim
   | _::_::_::_,ha=>exact ha.2.2.elim
  ·cases hg
noncomputable abbrev coF:Func:=f215
def yF:Code:=(f215.body).getD .skip
def Tl:Code:=jV (jV (jV (cB yF)))
def yE:Code:=jV (jV (cB (cA (cB Tl))))
theorem Pn:yF=.seq (cA yF) (.block 0 (.loop (.block 1 (.seq (cA Tl) (.seq (.seq (cA (cA (cB Tl))) (.block 2 (.loop yE))) (cB (cB Tl))))))):=by kernel_rfl
theorem aGl:coF.ntmps=21:=by kernel_rfl
def rC (a b c d:Nat):List At:=[.c (u6 a),.c (u6 b),.c (u6 c),.c (u6 d)]
def zC:List At:=[.f ⟨0,dB⟩]
def cP0 (N sb:Nat) (s:St):List Fact:=[.slot 0 (.pt 0 0),.row 0 true s.row,.at 0 sb,.at 21 N,.slot 2 (.pt 2 0),.row 2 true zC]
def cP1 (N sb:Nat) (s:St) (r:List At):List Fact:=[.slot 0 (.pt 0 0),.row 0 true s.row,.at 0 sb,.at 21 N,.slot 2 (.pt 2 0),.row 2 true zC,.slot 3 (.pt 3 0),.row 3 true r]
def KX (N sb:Nat) (s:St) (r:List At) (i:Nat):List Fact:=.slot 8 (.im (iI i))::cP1 N sb s r
def qC (idx:Nat→Option Nat) (ld st:Nat→Option (List At)) (T5:Tab5):EqT:=qPx prog ld st idx (fun _=>none) T5
def Gw (s t:St) (C v:Nat):Tab5:=BH 221 (Xk s.row (iI C) (.one (.im (u6 v))) t.row)
theorem aGg (N sb:Nat) (s:St):aX prog (qC (fun _=>none) (fun _=>none) (fun _=>none) kX) 21 (fun _=>tC T0 fun _=>none) 60 (cA yF) (PK 21 sb N 0 s.row []) (cP0 N sb s)=some ([],.nrm,cP0 N sb s):=by kernel_rfl
theorem aGf (N sb v:Nat) (s t:St):aX prog (qC (fun _=>none) (assoc [(7,rC 0 0 0 v)]) (fun _=>none) (Gw s t 62 v)) 21 (fun _=>tC T0 fun _=>none) 60 (cA Tl) (cP0 N sb s) (cP1 N sb t (rC 0 0 0 v))=some ([s.row=s.row,iI 62=iI 62,aA (rC 0 0 0 v)=aA (rC 0 0 0 v)],.nrm,cP1 N sb t (rC 0 0 0 v)):=by kernel_rfl
theorem aGe (N sb:Nat) (s:St) (r:List At):aX prog (qC (fun _=>none) (fun _=>none) (fun _=>none) kX) 21 (fun _=>tC T0 fun _=>none) 60 (cA (cA (cB Tl))) (cP1 N sb s r) (KX N sb s r 0)=some ([],.nrm,KX N sb s r 0):=by kernel_rfl
theorem aGj (N sb v a b c d:Nat) (s t:St):aX prog (qC (fun _=>none) (fun _=>none) (fun _=>none) (Gw s t 64 v)) 21 (fun _=>tC T0 fun _=>none) 60 yE (KX N sb s (rC a b c d) 0) (KX N sb t (rC a b v d) 1)=some ([s.row=s.row,iI 64=iI 64],.nrm,KX N sb t (rC a b v d) 1):=by kernel_rfl
theorem aGi (N sb v a b c d:Nat) (s t:St):aX prog (qC (fun _=>none) (fun _=>none) (fun _=>none) (Gw s t 64 v)) 21 (fun _=>tC T0 fun _=>none) 60 yE (KX N sb s (rC a b c d) 1) (KX N sb t (rC a v c d) 2)=some ([s.row=s.row,iI 64=iI 64],.nrm,KX N sb t (rC a v c d) 2):=by kernel_rfl
theorem aGh (N sb v a b c d:Nat) (s t:St):aX prog (qC (fun _=>none) (fun _=>none) (fun _=>none) (Gw s t 64 v)) 21 (fun _=>tC T0 fun _=>none) 60 yE (KX N sb s (rC a b c d) 2) (KX N sb t (rC v b c d) 3)=some ([s.row=s.row,iI 64=iI 64],.nrm,KX N sb t (rC v b c d) 3):=by kernel_rfl
theorem aKt (N sb:Nat) (s:St) (r:List At):aX prog (qC (fun _=>none) (fun _=>none) (fun _=>none) kX) 21 (fun _=>tC T0 fun _=>none) 60 yE (KX N sb s r 3) (KX N sb s r 3)=some ([],.ex 2,KX N sb s r 3):=by kernel_rfl
def gBl (x:Nat) (z:Bool):gE
 | [.s l 1 1]=>some ([aA l=aA [At.q x],x<aG,decide (x<RM)=z],.one (.im (.bool z)))
 | _=>none
def aBq (x:Nat) (z:Bool):Tab:=T0.add 118 (gBl x z)
theorem aGk (N sb a b c d x:Nat) (s:St):aX prog (qC (fun _=>none) (fun _=>none) (fun _=>none) kX) 21 (fun _=>tC (aBq x true) fun _=>none) 60 (cB (cB Tl)) (KX N sb s (rC a b c d) 3) [.slot 2 (.pt 2 0),.row 2 true (rC a b c d),.row 0 true s.row,.at 0 sb,.at 21 N]=some ([aA (rC a b c d)=aA [At.q x],x<aG,decide (x<RM)=true],.rt,[.slot 2 (.pt 2 0),.row 2 true (rC a b c d),.row 0 true s.row,.at 0 sb,.at 21 N]):=by kernel_rfl
theorem aGm (N sb a b c d x:Nat) (s:St):aX prog (qC (fun _=>none) (fun _=>none) (fun _=>none) kX) 21 (fun _=>tC (aBq x false) fun _=>none) 60 (cB (cB Tl)) (KX N sb s (rC a b c d) 3) (cP0 N sb s)=some ([aA (rC a b c d)=aA [At.q x],x<aG,decide (x<RM)=false],.nrm,cP0 N sb s):=by kernel_rfl
theorem Zq {w:World} (x:Nat) (z:Bool):∀cs pre r,gBl x z cs=some (pre,r)→bC pre→∀(args:List Value),cP w cs args→bG prog 118 r args w:=by
 intro cs pre r hg hp args ha;unfold gBl at hg;split at hg
 ·rename_i l;cases hg;obtain⟨h1,h2,h3,_⟩:=hp
  match args,ha with
  | [v],ha =>
   have hv:LV w v 1 (fun _=>x):=LV.ofS (N:=1) (f:=fun _=>x) ha.1 h1 rfl (Nat.le_refl _) (fun _ _=>h2);have:=BB hv (by decide);have e:decide (pM 1 fun _=>x)=z:=by
    rw[←h3];have:pM 1 (fun _=>x)↔x<RM:=⟨fun h=>h 0 (by decide),fun h _ _=>h⟩;exact decide_eq_decide.2 this
   rw[e]at this;exact this
  | [],ha=>exact ha.elim
  | _::_::_,ha=>exact ha.2.elim
 ·cases hg
theorem SP (x:Nat) (z:Bool) {base:Nat} {w0:World}:TabOkW prog (aBq x z) base w0 :=
 TabOkW.add ((bP _).w _ _) func118 (by kernel_rfl) (by kernel_rfl) (fun w _=>Zq x z)
theorem aIX {a b c d:Nat} (h:cF a b c d):aA (rC a b c d)=aA [At.q (aC a b c d)]∧aC a b c d<aG:=by
 have hx:aC a b c d<aG:=by
  obtain⟨h1,h2,h3,h4⟩:=h;unfold aC;show _<115792089237316195423570985008687907853269984665640564039457584007913129639936;omega
 obtain⟨e0,e1,e2,e3⟩:=gY h hx rfl;refine⟨?_,hx⟩;show [u6 a,u6 b,u6 c,u6 d]=w4 (aC a b c d)++[];unfold w4;rw[←e0,←e1,←e2,←e3];rfl
theorem Fd {n x:Nat} {s t:St} (hs:s.ok) (hc:zK n s=some (x,t)) {w0:World} {sb:Nat} (hD:Dbj w0) (hg:2<sb) (hO:Own w0 sb s.row) :
  t.ok∧x<RM∧Calls prog 215 (ptV sb 0::[]).toArray w0 (Wr sb w0 (.one (.fl [.q x])) t.row):=by
 have hcs:t.ok∧x<RM:=by
  clear hD hg hO
  induction n generalizing s with
  | zero=>cases hc
  | succ n ih =>
   unfold zK at hc;split at hc
   ·rename_i y u hu;obtain⟨a,b,c,d,s1,s2,s3,h1,h2,h3,h4,rfl⟩:=uI hu;have k1:=gF _ hs (by decide) h1;have k2:=gF _ k1.1 (by decide) h2;have k3:=gF _ k2.1 (by decide) h3;have k4:=gF _ k3.1 (by decide) h4;cases hb:Nat.blt (aC a b c d) RM<;>rw[hb]at hc
    ·exact ih k4.1 hc
    ·cases hc;exact⟨k4.1,by simpa using hb⟩
   ·cases hc
 refine⟨hcs.1,hcs.2,?_⟩;have hT:∀n d:Nat,TabOkW prog T0 sb w0:=fun _ _=>(bP _).w _ _
 have hq:∀idx ld st,bQ prog (qC idx ld st kX) sb w0:=fun _ _ _=>nP (jL _) _ _
 have hqw:∀{s t:St} {C v:Nat} idx ld st,s.ok→C<4611686018427387904→yR C s 0=some (v,t)→bQ prog (qC idx ld st (Gw s t C v)) sb w0:=fun _ _ _ h1 h2 h3=>ZQ fun w' hb=>XO h1 h2 h3 (hD.on hg hb) hg
 have hnt:f215.ntmps=21:=aGl;refine uG (ts:=[]) func215 (c:=yF) rfl hO (Nat.le_of_ble_eq_true (by kernel_rfl)) fun a w hA => ?_
 rw[hnt]at hA;rw[Pn];refine wp_seq (aB aI hT (hq _ _ _) (aGg w0.heap.size sb s) trivial hA fun a1 v1 hA1 => ?_);refine wp_block ?_;refine dU (n:=n) ?_;clear hO hA a w
 induction n generalizing s a1 v1 with
 | zero=>cases hc
 | succ n ih =>
  unfold zK at hc;split at hc
  ·rename_i y u hu;obtain⟨w0',w1',w2',w3',s1,s2,s3,h1,h2,h3,h4,rfl⟩:=uI hu;have k1:=gF _ hs (by decide) h1;have k2:=gF _ k1.1 (by decide) h2;have k3:=gF _ k2.1 (by decide) h3;have k4:=gF _ k3.1 (by decide) h4;obtain⟨hfl,hlt⟩:=aIX (a:=w0') (b:=w1') (c:=w2') (d:=w3') ⟨k4.2,k3.2,k2.2,k1.2⟩;unfold Un;refine wp_block ?_;refine wp_seq (aB aI hT (hqw _ _ _ hs (by decide) h1) (aGf w0.heap.size sb w3' s s1) ⟨rfl,rfl,rfl,trivial⟩ hA1 fun a w hA => ?_);refine wp_seq (wp_seq (aB aI hT (hq _ _ _) (aGe w0.heap.size sb s1 _) trivial hA fun a w hA => ?_));refine wp_block (dU (n:=4) ?_);unfold Un;refine aB aI hT (hqw _ _ _ k1.1 (by decide) h2) (aGj w0.heap.size sb w2' 0 0 0 w3' s1 s2) ⟨rfl,rfl,trivial⟩ hA fun a w hA => ?_
   simp only[EA.out,Exit.then];unfold Un;refine aB aI hT (hqw _ _ _ k2.1 (by decide) h3) (aGi w0.heap.size sb w1' 0 0 w2' w3' s2 s3) ⟨rfl,rfl,trivial⟩ hA fun a w hA => ?_
   simp only[EA.out,Exit.then];unfold Un;refine aB aI hT (hqw _ _ _ k3.1 (by decide) h4) (aGh w0.heap.size sb w0' 0 w1' w2' w3' s3 u) ⟨rfl,rfl,trivial⟩ hA fun a w hA => ?_
   simp only[EA.out,Exit.then];unfold Un;refine aB aI hT (hq _ _ _) (aKt w0.heap.size sb u (rC w0' w1' w2' w3')) trivial hA fun a w hA => ?_
   simp only[EA.out,Exit.then,Exit.inBlock,if_true];cases hb:Nat.blt (aC w0' w1' w2' w3') RM<;>rw[hb]at hc
   ·have hnb:¬aC w0' w1' w2' w3'<RM:=fun h=>by
     have:Nat.blt (aC w0' w1' w2' w3') RM=true:=by simpa using h
     rw[hb]at this; cases this
    refine aB aI (fun _ _=>SP _ _) (hq _ _ _) (aGm w0.heap.size sb w0' w1' w2' w3' (aC w0' w1' w2' w3') u) ⟨hfl,hlt,decide_eq_false hnb,trivial⟩ hA fun a w hA => ?_
    simp only[EA.out,Exit.then,Exit.inBlock];exact ih k4.1 hc _ _ hA
   ·cases hc;have hyb:aC w0' w1' w2' w3'<RM:=by simpa using hb
    refine aB aI (fun _ _=>SP _ _) (hq _ _ _) (aGk w0.heap.size sb w0' w1' w2' w3' (aC w0' w1' w2' w3') t) ⟨hfl,hlt,decide_eq_true hyb,trivial⟩ hA fun a w hA => ?_
    simp only[EA.out,Exit.then,Exit.inBlock];refine cN (l:=[.fl (rC w0' w1' w2' w3')]) (r:=.one (.fl (rC w0' w1' w2' w3'))) (by kernel_rfl) (by kernel_rfl) hA ⟨?_,hA.wrc (by simp) (by simp) (by simp)⟩;show Ending.returned (.agg (aA (rC w0' w1' w2' w3')).toArray)=Ending.returned (.agg (aA [At.q _]).toArray);rw[hfl]
  ·cases hc
theorem Cw (n:Int):bits .and .i64 n 1=n%2:=by
 have h1:(BitVec.ofInt 64 1).toNat=2^1-1:=by decide
 have key:(BitVec.ofInt 64 n &&& BitVec.ofInt 64 1).toNat=(n%((2^64:Nat):Int)).toNat%2^1:=by
  rw[BitVec.toNat_and,BitVec.toNat_ofInt,h1,Nat.and_two_pow_sub_one_eq_mod]
 show IntKind.i64.wrap ((BitVec.ofInt 64 n &&& BitVec.ofInt 64 1).toNat:Nat)=n%2;rw[key,IntKind.wrap_i64];omega
theorem Jv (t:Nat) (x y:Operand) (a:Nat):iH .and t x y (iI a) (iI 1) (iI (a%2)):=fun w=>by
 have h:=Cw (a:Int);simp[eqGuard,binOp,go_sem,iI,h]
theorem Vz (t:Nat) (x y:Operand) {a k:Nat} (ha:a<4611686018427387904) (hk:k≤62):iH .shr t x y (iI a) (iI k) (iI (a/2^k)):=fun w=>by
 have h:IntKind.i64.wrap ((a/2^k:Nat):Int)=((a/2^k:Nat):Int):=kT (Nat.lt_of_le_of_lt (Nat.div_le_self _ _) (by omega));simp[eqGuard,binOp,go_sem,iI,Nat.min_eq_left (show k≤64 by omega)]
theorem UZ {P:Program} {w:World} {R:Ending→World→Prop} {f:FuncId} {fn:Func} (hf:P.funcs[f]?=some fn) {c:Code} (hb:fn.body=some c) {b2 b3:Nat} {l2 l3:List At} {v0 v1:Value} (h2:Own w b2 l2) (h3:Own w b3 l3) (hlt:b2<b3) (hn:4≤fn.ntmps)
  (h:∀a w',Holds fn.ntmps b2 w [.slot 0 (.im v0),.slot 1 (.im v1),.slot 2 (.pt 2 0),.row 2 true l2,.slot 3 (.pt 3 0),.row 3 true l3,.at 2 b2,.at 3 b3,.at fn.ntmps (b2+1)] a w'→c.wp P (bodyPost P fn R) a w'):Calls P f [v0,v1,ptV b2 0,ptV b3 0].toArray w R:=by
 refine calls_of_wp hf hb (h _ _ ?_);have hg:∀j u,[v0,v1,ptV b2 0,ptV b3 0][j]?=some u→([v0,v1,ptV b2 0,ptV b3 0].toArray++Array.replicate (fn.ntmps-[v0,v1,ptV b2 0,ptV b3 0].toArray.size) undef)[j]?=some u:=fun j u hj=>by
  have hlt:=(List.getElem?_eq_some_iff.1 hj).1;rw[Array.getElem?_append_left (by simpa using hlt)];simpa using hj
 have z2:(fun k=>if k=fn.ntmps then ((b2+1,0,0):Bk)else if k=3 then (b3,0,0)else (b2,0,0)) 2=(b2,0,0):=by
  show (if 2=fn.ntmps then _ else _)=_;rw[if_neg (by omega),if_neg (by decide)]
 have z3:(fun k=>if k=fn.ntmps then ((b2+1,0,0):Bk)else if k=3 then (b3,0,0)else (b2,0,0)) 3=(b3,0,0):=by
  show (if 3=fn.ntmps then _ else _)=_;rw[if_neg (by omega),if_pos rfl]
 have zn:(fun k=>if k=fn.ntmps then ((b2+1,0,0):Bk)else if k=3 then (b3,0,0)else (b2,0,0)) fn.ntmps=(b2+1,0,0):=if_pos rfl;generalize (fun k=>if k=fn.ntmps then ((b2+1,0,0):Bk)else if k=3 then (b3,0,0)else (b2,0,0))=β at z2 z3 zn;have hrow:∀k o l,Fact.row k o l∈([.slot 0 (.im v0),.slot 1 (.im v1),.slot 2 (.pt 2 0),.row 2 true l2,.slot 3 (.pt 3 0),.row 3 true l3,.at 2 b2,.at 3 b3,.at fn.ntmps (b2+1)]:List Fact)→k=2∨k=3:=fun k o l h=>by
  simp only[List.mem_cons,reduceCtorEq,Fact.row.injEq,false_or,List.not_mem_nil,or_false]at h
  rcases h with h|h
  ·exact Or.inl h.1
  ·exact Or.inr h.1
 refine⟨rfl,by simp; omega,Below.refl _ _,Nat.le_of_lt h2.lt,β,fun φ hφ => ?_,fun k k' o' l1 l2 e1 e2 hne => ?_,fun k l1 e1 => ?_,by rw[zn]; exact h2.lt,fun p q1 q2=>(by rw[zn]at q2; simp only at q2; omega),Shape.refl _⟩
 ·simp only[List.mem_cons,List.not_mem_nil,or_false]at hφ
  rcases hφ with rfl|rfl|rfl|rfl|rfl|rfl|rfl|rfl|rfl
  ·exact hg 0 _ rfl
  ·exact hg 1 _ rfl
  ·refine (hg 2 _ rfl).trans ?_;simp[AV.den,z2,ptV]
  ·refine⟨?_,?_,fun _=>⟨?_,?_,?_⟩,fun h=>by cases h⟩<;>rw[z2]
   ·exact h2.lt
   ·exact h2.row
   ·exact Nat.le_refl _
   ·exact h2.free
  ·refine (hg 3 _ rfl).trans ?_;simp[AV.den,z3,ptV]
  ·refine⟨?_,?_,fun _=>⟨?_,?_,?_⟩,fun h=>by cases h⟩<;>rw[z3]
   ·exact h3.lt
   ·exact h3.row
   ·exact Nat.le_of_lt hlt
   ·exact h3.free
  ·exact⟨by rw[z2],by rw[z2]⟩
  ·exact⟨by rw[z3],by rw[z3]⟩
  ·exact⟨by rw[zn],by rw[zn]⟩
 ·rcases hrow _ _ _ e1 with rfl|rfl<;>rcases hrow _ _ _ e2 with rfl|rfl
  ·exact (hne rfl).elim
  ·rw[z2,z3]; simp only; omega
  ·rw[z2,z3]; simp only; omega
  ·exact (hne rfl).elim
 ·rcases hrow _ _ _ e1 with rfl|rfl
  ·rw[z2]; exact Or.inl rfl
  ·rw[z3,zn]; exact Or.inr hlt
theorem Holds.own {nt base:Nat} {w0:World} {A:List Fact} {a:Act} {w:World} (h:Holds nt base w0 A a w) {k b:Nat} {l:List At} (h1:Fact.row k true l∈A) (h2:Fact.at k b∈A):Own w b l:=by
 obtain⟨β,g1,_⟩:=h.facts;obtain⟨e1,e2,e3,_⟩:=g1 _ h1;obtain⟨_,e5,e6⟩:=e3 rfl;have e7:=g1 _ h2;simp only[Fact.ok]at e7;rw[e5,e7.1]at e2;exact⟨by rw[←e7.1]; exact e1,e2,fun j=>by rw[←e7.1]; exact e6 j⟩
noncomputable abbrev laF:Func:=f219
def xH:Code:=(f219.body).getD .skip
def xG:Code:=jV (jV (cB xH))
theorem Mk:xH=.seq (cA xH) (.block 0 (.loop xG)):=by kernel_rfl
theorem aDW:laF.ntmps=33:=by kernel_rfl
def lA (n c p b2 b3:Nat) (s:St):List Fact:=[.slot 0 (.im (iI n)),.slot 1 (.im (iI c)),.slot 2 (.pt 2 0),.row 2 true s.row,.slot 3 (.pt 3 0),.row 3 true [.c (iI p)],.at 2 b2,.at 3 b3,.at 33 (b2+1)]
def lF (n c i p b2 b3:Nat) (s:St):List Fact:=.slot 7 (.im (iI c)) :: .slot 8 (.im (iI i))::lA n c p b2 b3 s
def Ch (c i p:Nat) (z:Bool):Nat→Option Value:=assoc [(9,.bool z),(12,iI (p/64)),(18,iI (c-1)),(20,iI (c-1-i)),(25,iI (p%64)),(31,iI (p+1)),(32,iI (i+1))]
def Su (n c i p x:Nat):Nat→Option Value:=assoc [(21,iI (n/2^(c-1-i))),(22,iI (IR n c i)),(23,u6 (IR n c i)),(26,u6 (sM n c i p)),(27,u6 (x ||| sM n c i p))]
def qL (idx:Nat→Option Nat) (gen:Nat→Option Value):EqT:=qPx prog (fun _=>none) (fun _=>none) idx gen kX
theorem aDT (n c p b2 b3:Nat) (s:St):aX prog (qL (fun _=>none) (fun _=>none)) 33 (fun _=>tC T0 fun _=>none) 60 (cA xH) (lA n c p b2 b3 s) (lF n c 0 p b2 b3 s)=some ([],.nrm,lF n c 0 p b2 b3 s):=by kernel_rfl
theorem aJt (n c i p b2 b3:Nat) (s:St):aX prog (qL (fun _=>none) (fun _=>none)) 33 (fun _=>tC T0 (Ch c i p false)) 60 xG (lF n c i p b2 b3 s) (lF n c i p b2 b3 s)=some ([aN .lss .i64 (Int.ofNat i) (Int.ofNat c)=some (.bool false)],.ex 0,lF n c i p b2 b3 s):=by kernel_rfl
def laC (n c i p x j:Nat):List Prop:=[aN .lss .i64 (Int.ofNat i) (Int.ofNat c)=some (.bool true),aN .quo .i64 (Int.ofNat p) 64=some (iI (p/64)),Int.ofNat (p/64)=Int.ofNat j,j<2,aN .sub .i64 (Int.ofNat c) 1=some (iI (c-1)),aN .sub .i64 (Int.ofNat (c-1)) (Int.ofNat i)=some (iI (c-1-i)),iH .shr 3 (.tmp 16) (.tmp 20) (iI n) (iI (c-1-i)) (iI (n/2^(c-1-i))),iH .and 3 (.tmp 21) (.const (iI 1)) (iI (n/2^(c-1-i))) (iI 1) (iI (IR n c i)),∀w:World,(convert 3 22 (iI (IR n c i))).run prog w=.ok (u6 (IR n c i)) w,aN .rem .i64 (Int.ofNat p) 64=some (iI (p%64)),iH .shl 22 (.tmp 23) (.tmp 25) (u6 (IR n c i)) (iI (p%64)) (u6 (sM n c i p)),iH .or 22 (.tmp 15) (.tmp 26) (u6 x) (u6 (sM n c i p)) (u6 (x ||| sM n c i p)),Int.ofNat (p/64)=Int.ofNat j,j<2,aN .add .i64 (Int.ofNat p) 1=some (iI (p+1)),aN .add .i64 (Int.ofNat i) 1=some (iI (i+1))]
theorem aDV (n c i p b2 b3 lo hi fr gv:Nat):aX prog (qL (assoc [(14,0),(29,0)]) (Su n c i p lo)) 33 (fun _=>tC T0 (Ch c i p true)) 60 xG (lF n c i p b2 b3 ⟨lo,hi,fr,gv⟩) (lF n c (i+1) (p+1) b2 b3 ⟨lo ||| sM n c i p,hi,fr,gv⟩)=some (laC n c i p lo 0,.nrm,lF n c (i+1) (p+1) b2 b3 ⟨lo ||| sM n c i p,hi,fr,gv⟩):=by kernel_rfl
theorem aDU (n c i p b2 b3 lo hi fr gv:Nat):aX prog (qL (assoc [(14,1),(29,1)]) (Su n c i p hi)) 33 (fun _=>tC T0 (Ch c i p true)) 60 xG (lF n c i p b2 b3 ⟨lo,hi,fr,gv⟩) (lF n c (i+1) (p+1) b2 b3 ⟨lo,hi ||| sM n c i p,fr,gv⟩)=some (laC n c i p hi 1,.nrm,lF n c (i+1) (p+1) b2 b3 ⟨lo,hi ||| sM n c i p,fr,gv⟩):=by kernel_rfl
theorem Lv {p:Nat} (h:p<128):aN .quo .i64 (Int.ofNat p) 64=some (iI (p/64)):=by
 show (if (64:Int)=0 then none else some (Value.int .i64 (IntKind.i64.wrap ((p:Int).tdiv 64))))=_;rw[if_neg (by decide)];have h1:(p:Int).tdiv 64=((p/64:Nat):Int):=by rw[Int.tdiv_eq_ediv_of_nonneg (by omega)]; rfl
 rw[h1,kT (by omega)];rfl
theorem Lt {p:Nat}:aN .rem .i64 (Int.ofNat p) 64=some (iI (p%64)):=by
 show (if (64:Int)=0 then none else some (Value.int .i64 ((p:Int).tmod 64)))=_;rw[if_neg (by decide)];have h1:(p:Int).tmod 64=((p%64:Nat):Int):=by rw[Int.tmod_eq_emod_of_nonneg (by omega)]; rfl
 rw[h1];rfl
theorem Mj (n c i:Nat):IR n c i<2:=Nat.mod_lt _ (by decide)
theorem Ci {n c i p x:Nat} (hn:n<4611686018427387904) (hc:c≤62) (hi:i<c) (hp:p<128) (hx:x<eP):bC (laC n c i p x (p/64)):=by
 have h2:p/64<2:=by omega
 exact⟨fA hi,Lv hp,rfl,h2,nV (i:=c) (k:=1) (by omega) (by omega),nV (i:=c-1) (k:=i) (by omega) (by omega),Vz _ _ _ hn (by omega),Jv _ _ _ _,DW (by have:=Mj n c i; omega),Lt,ZD _ _ _ _ (by omega),ZE _ _ _ hx (DA _ _ _ _),rfl,h2,gN (k:=1) (by omega),gN (k:=1) (by omega),trivial⟩
theorem Cg {n c p:Nat} {s:St} (hs:s.ok) (hn:n<4611686018427387904) (hc:c≤62) (hp:p+c≤128) {w0:World} {b2 b3:Nat} (h2:Own w0 b2 s.row) (h3:Own w0 b3 [.c (iI p)]) (hlt:b2<b3) :
  Calls prog 219 [iI n,iI c,ptV b2 0,ptV b3 0].toArray w0 fun e w'=>e=.returned (.tuple #[])∧Below b2 w0 w'∧Own w' b2 (tZ n c c 0 p s).row∧Own w' b3 [.c (iI (p+c))]∧Shape w0 w':=by
 have hT:∀n d:Nat,TabOkW prog T0 b2 w0:=fun _ _=>(bP _).w _ _
 have hq:∀idx gen,bQ prog (qL idx gen) b2 w0:=fun _ _=>nP (jL _) _ _
 have hnt:f219.ntmps=33:=aDW;refine UZ func219 (c:=xH) rfl h2 h3 hlt (Nat.le_of_ble_eq_true (by kernel_rfl)) fun a w hA => ?_
 rw[hnt]at hA;rw[Mk];refine wp_seq (aB aI hT (hq _ _) (aDT n c p b2 b3 s) trivial hA fun a1 w1 hA1 => ?_);refine wp_block (dU (n:=c+1) ?_);have key:∀m i q (s:St) a w,i+m=c→q+m=p+c→s.ok→Holds 33 b2 w0 (lF n c i q b2 b3 s) a w→Un prog xG (Exit.inBlock 0 (bodyPost prog f219 fun e w'=>e=.returned (.tuple #[])∧Below b2 w0 w'∧Own w' b2 (tZ n c m i q s).row∧Own w' b3 [.c (iI (p+c))]∧Shape w0 w')) (m+1) a w:=by
  intro m
  induction m with
  | zero =>
   intro i q s a w hi hq' hs hA;unfold Un;refine aB aI hT (hq _ _) (aJt n c i q b2 b3 s) ⟨dM (by omega),trivial⟩ hA fun a w hA => ?_
   simp only[EA.out,Exit.then,Exit.inBlock,if_true];have hqe:q=p+c:=by omega
   subst hqe;exact⟨hA.defers,.tuple #[],by simp[results,show f219.results = #[] by kernel_rfl],rfl,hA.below,hA.own (k:=2) (by simp[lF,lA,tZ]) (by simp[lF,lA]),hA.own (k:=3) (by simp[lF,lA]) (by simp[lF,lA]),hA.shape⟩
  | succ m ih =>
   intro i q s a w hi hq' hs hA;have h1:=hs.lay1 n c i q;have key2:=ih (i+1) (q+1) (lay1 n c i q s);obtain⟨lo,hi',fr,gv⟩:=s;unfold Un
   by_cases e:q/64=0
   ·have hC:=Ci (x:=lo) hn hc (i:=i) (by omega) (p:=q) (by omega) hs.lo;rw[e]at hC;refine aB aI hT (hq _ _) (aDV n c i q b2 b3 lo hi' fr gv) hC hA fun a w hA => ?_
    simp only[EA.out,Exit.then];have hl:lay1 n c i q ⟨lo,hi',fr,gv⟩=⟨lo ||| sM n c i q,hi',fr,gv⟩:=if_pos e;have:=key2 a w (by omega) (by omega) h1 (by rw[hl]; exact hA);exact this
   ·have hC:=Ci (x:=hi') hn hc (i:=i) (by omega) (p:=q) (by omega) hs.hi;rw[show q/64=1 by omega]at hC;refine aB aI hT (hq _ _) (aDU n c i q b2 b3 lo hi' fr gv) hC hA fun a w hA => ?_
    simp only[EA.out,Exit.then];have hl:lay1 n c i q ⟨lo,hi',fr,gv⟩=⟨lo,hi' ||| sM n c i q,fr,gv⟩:=if_neg e;have:=key2 a w (by omega) (by omega) h1 (by rw[hl]; exact hA);exact this
 exact key c 0 p s a1 w1 (by omega) rfl hs hA1
theorem Own.wr {w w':World} {b c:Nat} {l:List At} (h:Own w b l) (hW:WrC w w' c) (hne:b≠c):Own w' b l :=
 ⟨Nat.lt_of_lt_of_le h.lt hW.below.size,fun j v hj=>((hW.mem ⟨b,0+j,none⟩ h.lt hne).1).trans (h.row j v hj),fun j=>((hW.mem ⟨b,j,none⟩ h.lt hne).2).trans (h.free j)⟩
theorem Own.eq {w:World} {b:Nat} {l l':List At} (h:Own w b l) (e:aA l=aA l'):Own w b l':=⟨h.lt,by rw[←e]; exact h.row,h.free⟩
theorem Own.below {w w':World} {b c:Nat} {l:List At} (h:Own w b l) (hb:Below c w w') (hlt:b<c):Own w' b l :=
 ⟨Nat.lt_of_lt_of_le h.lt hb.size,fun j v hj=>(hb.cell (p:=⟨b,0+j,none⟩) hlt).trans (h.row j v hj),fun j=>(hb.frozen (p:=⟨b,j,none⟩) hlt).trans (h.free j)⟩
theorem oldOf.below {w w':World} {b c o:Nat} {l:List At} (h:oldOf w b o l) (hb:Below c w w') (hlt:b<c):oldOf w' b o l :=
 ⟨Nat.lt_of_lt_of_le h.1 hb.size,fun j v hj=>(hb.cell (p:=⟨b,o+j,none⟩) hlt).trans (h.2 j v hj)⟩
theorem Holds.ptS {nt base:Nat} {w0:World} {A:List Fact} {a:Act} {w:World} (h:Holds nt base w0 A a w) {s k b o:Nat} (h1:Fact.slot s (.pt k o)∈A) (h2:Fact.at k b∈A):a.tmps[s]?=some (Go.Proofs.YtpjlhhpjpnacmaaGreatDoor.Ex.ptV b o):=by
 obtain⟨β,g1,_⟩:=h.facts;have e1:=g1 _ h1;have e2:=g1 _ h2;simp only[Fact.ok]at e1 e2;rw[e1];simp[AV.den,e2,Go.Proofs.YtpjlhhpjpnacmaaGreatDoor.Ex.ptV]
theorem Holds.geq {nt base:Nat} {w0:World} {A:List Fact} {a:Act} {w:World} (h:Holds nt base w0 A a w) {k b:Nat} {l:List At} (h1:Fact.row k true l∈A) (h2:Fact.at k b∈A):base≤b:=by
 obtain⟨β,g1,_⟩:=h.facts;obtain⟨_,_,e3,_⟩:=g1 _ h1;have e7:=g1 _ h2;simp only[Fact.ok]at e7;rw[←e7.1];exact (e3 rfl).1
def rR (wd fl pt:Nat):List At:=[.c (iI wd),.c (iI fl),.c (iI pt)]
def EO (sb pb:Nat):Value:=.func (.func 219) #[] #[ptV sb 0,ptV pb 0]
noncomputable abbrev bgF:Func:=f214
def EE:Code:=(f214.body).getD .skip
theorem aGS:bgF.ntmps=32:=by kernel_rfl
def nCB (c:Code):Nat→Code
 | 0=>c
 | n+1=>nCB (cB c) n
def nK (i:Nat):Code:=cA (nCB EE i)
def bgX:Code:=nCB EE 11
def PG:Code:=jV (jV (cB (cA bgX)))
theorem Qp:EE=.seq (nK 0) (.seq (nK 1) (.seq (nK 2) (.seq (nK 3) (.seq (.region 4 (aE (nK 4)) false) (.seq (.region 5 (aE (nK 5)) false) (.seq (.region 6 (aE (nK 6)) false) (.seq (.region 7 (aE (nK 7)) false) (.seq (.region 8 (aE (nK 8)) false) (.seq (.region 9 (aE (nK 9)) false) (.seq (.region 10 (aE (nK 10)) false) (.seq (.seq (cA (cA bgX)) (.block 0 (.loop PG))) (.seq (.region 15 (aE (cA (cB bgX))) false) .ret)))))))))))):=by kernel_rfl
def oM (b1 b2 sb pb:Nat):List Fact:=[.slot 1 (.im (ptV b1 0)),.slot 2 (.im (ptV b2 0)),.slot 3 (.im (ptV sb 0)),.slot 4 (.im (ptV pb 0)),.slot 5 (.im (EO sb pb))]
theorem aGR (wd fl pt:Nat):aX prog (qG prog) 32 (fun _=>tC T0 fun _=>none) 60 (nK 0) (fJ 0 [.v (.fl (rR wd fl pt))]) [.slot 1 (.pt 1 0),.row 1 true (rR wd fl pt),.slot 2 (.pt 2 0),.row 2 true zC]=some ([],.nrm,[.slot 1 (.pt 1 0),.row 1 true (rR wd fl pt),.slot 2 (.pt 2 0),.row 2 true zC]):=by kernel_rfl
theorem aGQ (b1 b2:Nat):aX prog (qG prog) 32 (fun _=>tC T0 fun _=>none) 60 (nK 1) [.slot 1 (.im (ptV b1 0)),.slot 2 (.im (ptV b2 0))] [.slot 1 (.im (ptV b1 0)),.slot 2 (.im (ptV b2 0)),.slot 3 (.pt 3 0),.row 3 true zC]=some ([],.nrm,[.slot 1 (.im (ptV b1 0)),.slot 2 (.im (ptV b2 0)),.slot 3 (.pt 3 0),.row 3 true zC]):=by kernel_rfl
theorem aGP (b1 b2 sb:Nat):aX prog (qG prog) 32 (fun _=>tC T0 fun _=>none) 60 (nK 2) [.slot 1 (.im (ptV b1 0)),.slot 2 (.im (ptV b2 0)),.slot 3 (.im (ptV sb 0))] [.slot 1 (.im (ptV b1 0)),.slot 2 (.im (ptV b2 0)),.slot 3 (.im (ptV sb 0)),.slot 4 (.pt 4 0),.row 4 true [.c (iI 0)]]=some ([],.nrm,[.slot 1 (.im (ptV b1 0)),.slot 2 (.im (ptV b2 0)),.slot 3 (.im (ptV sb 0)),.slot 4 (.pt 4 0),.row 4 true [.c (iI 0)]]):=by kernel_rfl
theorem aGO (b1 b2 sb pb:Nat):aX prog (qG prog) 32 (fun _=>tC T0 fun _=>none) 60 (nK 3) [.slot 1 (.im (ptV b1 0)),.slot 2 (.im (ptV b2 0)),.slot 3 (.im (ptV sb 0)),.slot 4 (.im (ptV pb 0))] (oM b1 b2 sb pb)=some ([],.nrm,oM b1 b2 sb pb):=by kernel_rfl
theorem aGY (b1 b2 sb pb:Nat):cX prog (qG prog) 32 (tC T0 fun _=>none) ((aE (nK 4)).extract 0 1) (oM b1 b2 sb pb) (.slot 7 (.im (EO sb pb))::oM b1 b2 sb pb)=some ([],.slot 7 (.im (EO sb pb))::oM b1 b2 sb pb):=by kernel_rfl
theorem aGX (b1 b2 sb pb:Nat):cX prog (qG prog) 32 (tC T0 fun _=>none) ((aE (nK 5)).extract 0 1) (oM b1 b2 sb pb) (.slot 9 (.im (EO sb pb))::oM b1 b2 sb pb)=some ([],.slot 9 (.im (EO sb pb))::oM b1 b2 sb pb):=by kernel_rfl
theorem aGW (b1 b2 sb pb:Nat):cX prog (qG prog) 32 (tC T0 fun _=>none) ((aE (nK 6)).extract 0 1) (oM b1 b2 sb pb) (.slot 11 (.im (EO sb pb))::oM b1 b2 sb pb)=some ([],.slot 11 (.im (EO sb pb))::oM b1 b2 sb pb):=by kernel_rfl
theorem aBc (b1 b2 sb pb:Nat):cX prog (qG prog) 32 (tC T0 fun _=>none) ((aE (nK 10)).extract 0 1) (oM b1 b2 sb pb) (.slot 25 (.im (EO sb pb))::oM b1 b2 sb pb)=some ([],.slot 25 (.im (EO sb pb))::oM b1 b2 sb pb):=by kernel_rfl
theorem aGV (w:World) (b1 b2 sb pb x:Nat):cX prog { qG prog with x:=xO w (fun _=>none) (fun _=>none) (assoc [(15,iI x)]) } 32 (tC T0 fun _=>none) ((aE (nK 7)).extract 0 3) (oM b1 b2 sb pb) (.slot 13 (.im (EO sb pb)) :: .slot 15 (.im (iI x))::oM b1 b2 sb pb)=some ([oldOf w b1 0 [.c (iI x)]],.slot 13 (.im (EO sb pb)) :: .slot 15 (.im (iI x))::oM b1 b2 sb pb):=by kernel_rfl
theorem aGU (w:World) (b1 b2 sb pb x:Nat):cX prog { qG prog with x:=xO w (fun _=>none) (fun _=>none) (assoc [(19,iI x)]) } 32 (tC T0 fun _=>none) ((aE (nK 8)).extract 0 3) (oM b1 b2 sb pb) (.slot 17 (.im (EO sb pb)) :: .slot 19 (.im (iI x))::oM b1 b2 sb pb)=some ([oldOf w b1 1 [.c (iI x)]],.slot 17 (.im (EO sb pb)) :: .slot 19 (.im (iI x))::oM b1 b2 sb pb):=by kernel_rfl
theorem aGT (w:World) (b1 b2 sb pb x:Nat):cX prog { qG prog with x:=xO w (fun _=>none) (fun _=>none) (assoc [(23,iI x)]) } 32 (tC T0 fun _=>none) ((aE (nK 9)).extract 0 3) (oM b1 b2 sb pb) (.slot 21 (.im (EO sb pb)) :: .slot 23 (.im (iI x))::oM b1 b2 sb pb)=some ([oldOf w b1 2 [.c (iI x)]],.slot 21 (.im (EO sb pb)) :: .slot 23 (.im (iI x))::oM b1 b2 sb pb):=by kernel_rfl
def Hq (N b1 b2 sb:Nat) (s:St):List Fact:=[.slot 3 (.pt 3 0),.row 3 true s.row,.at 3 sb,.at 32 N,.slot 1 (.im (ptV b1 0)),.slot 2 (.im (ptV b2 0))]
def KG (N b1 b2 sb i:Nat) (s:St):List Fact:=.slot 27 (.im (iI i))::Hq N b1 b2 sb s
theorem aHb (N b1 b2 sb:Nat) (s:St):aX prog (qW (fun _=>none) kX) 32 (fun _=>tC T0 fun _=>none) 60 (cA (cA bgX)) (Hq N b1 b2 sb s) (KG N b1 b2 sb 0 s)=some ([],.nrm,KG N b1 b2 sb 0 s):=by kernel_rfl
theorem aHa (N b1 b2 sb i:Nat) (s:St):aX prog (qW (fun _=>none) (aBt s)) 32 (fun _=>tC T0 (assoc [(28,.bool true),(30,iI (i+1))])) 60 PG (KG N b1 b2 sb i s) (KG N b1 b2 sb (i+1) s.grow)=some ([aN .lss .i64 (Int.ofNat i) 10=some (.bool true),s.row=s.row,0=0,aN .add .i64 (Int.ofNat i) 1=some (iI (i+1))],.nrm,KG N b1 b2 sb (i+1) s.grow):=by kernel_rfl
theorem aGZ (N b1 b2 sb i:Nat) (s:St):aX prog (qW (fun _=>none) kX) 32 (fun _=>tC T0 (assoc [(28,.bool false)])) 60 PG (KG N b1 b2 sb i s) (KG N b1 b2 sb i s)=some ([aN .lss .i64 (Int.ofNat i) 10=some (.bool false)],.ex 0,KG N b1 b2 sb i s):=by kernel_rfl
theorem aKx (w:World) (b1 b2 sb:Nat) (s:St):cX prog { qG prog with x:=xO w (fun _=>none) (assoc [(31,s.row)]) (fun _=>none) } 32 (tC T0 fun _=>none) ((aE (cA (cB bgX))).extract 0 1) [.slot 1 (.im (ptV b1 0)),.slot 2 (.im (ptV b2 0)),.slot 3 (.im (ptV sb 0))] [.slot 31 (.fl s.row),.slot 2 (.im (ptV b2 0))]=some ([oldOf w sb 0 s.row,dN s.row=4],[.slot 31 (.fl s.row),.slot 2 (.im (ptV b2 0))]):=by kernel_rfl
structure BgS (r:List At) (B b1 b2 sb pb:Nat) (s:St) (p:Nat) (w0:World) (a:Act) (w:World):Prop where
 defers:a.defers=[]
 size:a.tmps.size=32
 t1:a.tmps[1]?=some (ptV b1 0)
 t2:a.tmps[2]?=some (ptV b2 0)
 t3:a.tmps[3]?=some (ptV sb 0)
 t4:a.tmps[4]?=some (ptV pb 0)
 t5:a.tmps[5]?=some (EO sb pb)
 own3:Own w sb s.row
 own4:Own w pb [.c (iI p)]
 box:oldOf w b1 0 r
 res:Own w b2 zC
 below:Below B w0 w
 l1:b1<sb
 l2:b2<sb
 l4:sb<pb
 lB:B≤b2
section
variable {r:List At} {B b1 b2 sb pb p:Nat} {s:St} {w0 w:World} {a:Act}
theorem BgS.holds (h:BgS r B b1 b2 sb pb s p w0 a w):Holds 32 w.heap.size w (oM b1 b2 sb pb) a w :=
 aU (ts:=[(1,ptV b1 0),(2,ptV b2 0),(3,ptV sb 0),(4,ptV pb 0),(5,EO sb pb)]) h.defers h.size fun x hx=>by
  simp only[List.mem_cons,List.not_mem_nil,or_false]at hx
  rcases hx with rfl|rfl|rfl|rfl|rfl
  ·exact h.t1
  ·exact h.t2
  ·exact h.t3
  ·exact h.t4
  ·exact h.t5
theorem BgS.up (h:BgS r B b1 b2 sb pb s p w0 a w) {A:List Fact} {a':Act} {w':World} (hA:Holds 32 w.heap.size w A a' w') (hs:∀φ∈oM b1 b2 sb pb,φ∈A):BgS r B b1 b2 sb pb s p w0 a' w' :=
 have hB:B≤w.heap.size:=Nat.le_of_lt (Nat.lt_of_le_of_lt h.lB h.res.lt)
 ⟨hA.defers,hA.size,hA.slot (hs _ (by simp[oM])),hA.slot (hs _ (by simp[oM])),hA.slot (hs _ (by simp[oM])),hA.slot (hs _ (by simp[oM])),hA.slot (hs _ (by simp[oM])),h.own3.on hA.below,h.own4.on hA.below,h.box.on hA.below,h.res.on hA.below,h.below.trans (hA.below.mono hB),h.l1,h.l2,h.l4,h.lB⟩
theorem BgS.call (h:BgS r B b1 b2 sb pb s p w0 a w) (hs:s.ok) {n c:Nat} (hn:n<4611686018427387904) (hc:c≤62) (hp:p+c≤128) {o:Oper} {d1 d2:Nat} {xs:Array Operand} {ts:Array TypeId} (ho:o.op=.call ⟨.value (.tmp d1),xs,ts⟩) (hx:a.tmps[d1]?=some (EO sb pb)) (hv:xs.map a.eval = #[iI n,iI c]) (hd:o.dst=some d2) (hd2:5<d2) {K:Act→World→Prop} {Q:Exit→Act→World→Prop}
  (hK:∀a' w',BgS r B b1 b2 sb pb (tZ n c c 0 p s) (p+c) w0 a' w'→K a' w'):o.wp prog a w K Q:=by
 refine EU (cap:=#[ptV sb 0,ptV pb 0]) (vs:=#[iI n,iI c]) ho (by rw[cR hx]; rfl) hv (fun args=>cC func219 (by kernel_rfl) (by kernel_rfl) args _) (Cg hs hn hc hp h.own3 h.own4 h.l4) ?_
 rintro e w' ⟨rfl,hb,h3,h4,EP⟩
 refine⟨_,rfl,?_⟩;rw[hd];have hp:∀(q:Nat) v,q≤5→a.tmps[q]?=some v→(a.put (some d2) (.tuple #[])).tmps[q]?=some v:=fun q v hq h=>aQ h (by omega)
 exact hK _ _ ⟨h.defers,by rw[aH]; exact h.size,hp _ _ (by omega) h.t1,hp _ _ (by omega) h.t2,hp _ _ (by omega) h.t3,hp _ _ (by omega) h.t4,hp _ _ (by omega) h.t5,h3,h4,h.box.below hb h.l1,h.res.below hb h.l2,h.below.trans (hb.mono (Nat.le_of_lt (Nat.lt_of_le_of_lt h.lB h.l2))),h.l1,h.l2,h.l4,h.lB⟩
end
theorem Vt:(prog.info? 264).map (·.size)=some 4:=by kernel_rfl
theorem XG:aA zC=aA St0.row:=by kernel_rfl
theorem Gc {wd fl pt:Nat} (h1:wd<4611686018427387904) (h2:fl<4611686018427387904) (h3:pt<4611686018427387904) (w0:World):Calls prog 214 [.agg (aA (rR wd fl pt)).toArray].toArray w0 fun e w'=>e=.returned (.agg (aA (KY wd fl pt).row).toArray)∧Below w0.heap.size w0 w':=by
 have hT:∀base w,∀n d:Nat,TabOkW prog T0 base w:=fun _ _ _ _=>(bP _).w _ _
 have hT1:∀base w,∀d:Nat,TabOkW prog T0 base w:=fun _ _ _=>(bP _).w _ _
 have hG:∀base w,bQ prog (qG prog) base w:=fun _ _=>(aV _).w _ _
 have hnt:f214.ntmps=32:=aGS;refine cM func214 (cs:=[.v (.fl (rR wd fl pt))]) (args:=[.agg (aA (rR wd fl pt)).toArray]) (c:=EE) rfl ⟨rfl,trivial⟩ (Nat.le_of_ble_eq_true (by kernel_rfl)) fun a w hA => ?_
 rw[hnt]at hA;rw[Qp];refine wp_seq (aB aI (hT _ _) (hG _ _) (aGR wd fl pt) trivial hA fun a w hA => ?_);obtain⟨b1,hA⟩:=hA.at (k:=1) (l:=rR wd fl pt) (by simp);obtain⟨b2,hA⟩:=hA.at (k:=2) (l:=zC) (by simp);have m1:oldOf w b1 0 (rR wd fl pt):=hA.old (k:=1) (by simp) (by simp);have m2:Own w b2 zC:=hA.own (k:=2) (by simp) (by simp);have hB2:w0.heap.size≤b2:=hA.geq (k:=2) (l:=zC) (by simp) (by simp);have hbl:=hA.below;have hs0:w0.heap.size≤w.heap.size:=hbl.size;have hS:=aU (nt:=32) (w:=w) (a:=a) (ts:=[(1,ptV b1 0),(2,ptV b2 0)]) hA.defers hA.size (fun x hx=>by
  simp only[List.mem_cons,List.not_mem_nil,or_false]at hx
  rcases hx with rfl|rfl
  ·exact hA.ptS (s:=1) (k:=1) (o:=0) (by simp) (by simp)
  ·exact hA.ptS (s:=2) (k:=2) (o:=0) (by simp) (by simp))
 clear hA;refine wp_seq (aB aI (hT _ _) (hG _ _) (aGQ b1 b2) trivial hS fun a w' hA => ?_);clear hS;obtain⟨sb,hA⟩:=hA.at (k:=3) (l:=zC) (by simp);have hsb:w.heap.size≤sb:=hA.geq (k:=3) (l:=zC) (by simp) (by simp);have l1:b1<sb:=Nat.lt_of_lt_of_le m1.1 hsb;have l2:b2<sb:=Nat.lt_of_lt_of_le m2.lt hsb;have m1:=m1.on hA.below;have m2:=m2.on hA.below;have m3:Own w' sb zC:=hA.own (k:=3) (by simp) (by simp);have hbl:=hbl.trans (hA.below.mono hs0);have hs0:w0.heap.size≤w'.heap.size:=hbl.size;have hS:=aU (nt:=32) (w:=w') (a:=a) (ts:=[(1,ptV b1 0),(2,ptV b2 0),(3,ptV sb 0)]) hA.defers hA.size (fun x hx=>by
  simp only[List.mem_cons,List.not_mem_nil,or_false]at hx
  rcases hx with rfl|rfl|rfl
  ·exact hA.slot (by simp)
  ·exact hA.slot (by simp)
  ·exact hA.ptS (s:=3) (k:=3) (o:=0) (by simp) (by simp))
 clear hA;refine wp_seq (aB aI (hT _ _) (hG _ _) (aGP b1 b2 sb) trivial hS fun a w2 hA => ?_);clear hS;obtain⟨pb,hA⟩:=hA.at (k:=4) (l:=[.c (iI 0)]) (by simp);have hpb:w'.heap.size≤pb:=hA.geq (k:=4) (l:=[.c (iI 0)]) (by simp) (by simp);have l4:sb<pb:=Nat.lt_of_lt_of_le m3.lt hpb;have m1:=m1.on hA.below;have m2:=m2.on hA.below;have m3:=m3.on hA.below;have m4:Own w2 pb [.c (iI 0)]:=hA.own (k:=4) (by simp) (by simp);have hbl:=hbl.trans (hA.below.mono hs0);have hs0:w0.heap.size≤w2.heap.size:=hbl.size;have hS:=aU (nt:=32) (w:=w2) (a:=a) (ts:=[(1,ptV b1 0),(2,ptV b2 0),(3,ptV sb 0),(4,ptV pb 0)]) hA.defers hA.size (fun x hx=>by
  simp only[List.mem_cons,List.not_mem_nil,or_false]at hx
  rcases hx with rfl|rfl|rfl|rfl
  ·exact hA.slot (by simp)
  ·exact hA.slot (by simp)
  ·exact hA.slot (by simp)
  ·exact hA.ptS (s:=4) (k:=4) (o:=0) (by simp) (by simp))
 clear hA;refine wp_seq (aB aI (hT _ _) (hG _ _) (aGO b1 b2 sb pb) trivial hS fun a w3 hA => ?_);have hI:BgS (rR wd fl pt) w0.heap.size b1 b2 sb pb St0 0 w0 a w3:=⟨hA.defers,hA.size,hA.slot (by simp[oM]),hA.slot (by simp[oM]),hA.slot (by simp[oM]),hA.slot (by simp[oM]),hA.slot (by simp[oM]),(m3.on hA.below).eq XG,m4.on hA.below,m1.on hA.below,m2.on hA.below,hbl.trans (hA.below.mono hs0),l1,l2,l4,hB2⟩;clear hA hS m1 m2 m3 m4 hbl hs0 l1 l2 l4 hB2 hsb hpb;refine wp_seq (bK (l:=List.range' 0 ((aE (nK 4)).extract 0 1).size++(1::[])) (by kernel_rfl) ?_);refine aJ (c:=tC T0 _) (hT1 _ _) (hG _ _) (aGY b1 b2 sb pb) trivial (by kernel_rfl) hI.holds fun a w3' hA => ?_
 obtain⟨o,ho,⟨ts,hop⟩,hd,hg⟩:∃x,(aE (nK 4))[1]?=some x∧(∃ts,x.op=.call ⟨.value (.tmp 7),#[.const (iI 1),.const (iI 2)],ts⟩)∧x.dst=some 8∧x.guard=none:=⟨_,rfl,⟨_,rfl⟩,rfl,rfl⟩
 refine bE ho hg ((hI.up hA fun φ h=>List.mem_cons_of_mem _ h).call (n:=1) (c:=2) PT (by decide) (by decide) (by decide) hop (hA.slot (by simp)) (by simp[Act.eval]) hd (by decide) fun a w hI => ?_);clear hA hop ho hd hg;have k1:=fP 1 2 2 0 0 PT;show (Code.seq _ _).wp _ _ _ _;refine wp_seq (bK (l:=List.range' 0 ((aE (nK 5)).extract 0 1).size++(1::[])) (by kernel_rfl) ?_);refine aJ (c:=tC T0 _) (hT1 _ _) (hG _ _) (aGX b1 b2 sb pb) trivial (by kernel_rfl) hI.holds fun a w3' hA => ?_
 obtain⟨o,ho,⟨ts,hop⟩,hd,hg⟩:∃x,(aE (nK 5))[1]?=some x∧(∃ts,x.op=.call ⟨.value (.tmp 9),#[.const (iI 0),.const (iI 4)],ts⟩)∧x.dst=some 10∧x.guard=none:=⟨_,rfl,⟨_,rfl⟩,rfl,rfl⟩
 refine bE ho hg ((hI.up hA fun φ h=>List.mem_cons_of_mem _ h).call (n:=0) (c:=4) k1 (by decide) (by decide) (by decide) hop (hA.slot (by simp)) (by simp[Act.eval]) hd (by decide) fun a w hI => ?_);clear hA hop ho hd hg;have k2:=fP 0 4 4 0 2 k1;show (Code.seq _ _).wp _ _ _ _;refine wp_seq (bK (l:=List.range' 0 ((aE (nK 6)).extract 0 1).size++(1::[])) (by kernel_rfl) ?_);refine aJ (c:=tC T0 _) (hT1 _ _) (hG _ _) (aGW b1 b2 sb pb) trivial (by kernel_rfl) hI.holds fun a w3' hA => ?_
 obtain⟨o,ho,⟨ts,hop⟩,hd,hg⟩:∃x,(aE (nK 6))[1]?=some x∧(∃ts,x.op=.call ⟨.value (.tmp 11),#[.const (iI 254),.const (iI 12)],ts⟩)∧x.dst=some 12∧x.guard=none:=⟨_,rfl,⟨_,rfl⟩,rfl,rfl⟩
 refine bE ho hg ((hI.up hA fun φ h=>List.mem_cons_of_mem _ h).call (n:=254) (c:=12) k2 (by decide) (by decide) (by decide) hop (hA.slot (by simp)) (by simp[Act.eval]) hd (by decide) fun a w hI => ?_);clear hA hop ho hd hg;have k3:=fP 254 12 12 0 6 k2;show (Code.seq _ _).wp _ _ _ _;refine wp_seq (bK (l:=List.range' 0 ((aE (nK 7)).extract 0 3).size++(3::[])) (by kernel_rfl) ?_);refine aJ (c:=tC T0 _) (hT1 _ _) (dS w _ _ _) (aGV w b1 b2 sb pb wd) ⟨⟨hI.box.1,eH (i:=0) (n:=1) hI.box.2 rfl⟩,trivial⟩ (by kernel_rfl) hI.holds fun a w3' hA => ?_
 obtain⟨o,ho,⟨ts,hop⟩,hd,hg⟩:∃x,(aE (nK 7))[3]?=some x∧(∃ts,x.op=.call ⟨.value (.tmp 13),#[.tmp 15,.const (iI 12)],ts⟩)∧x.dst=some 16∧x.guard=none:=⟨_,rfl,⟨_,rfl⟩,rfl,rfl⟩
 refine bE ho hg ((hI.up hA fun φ h=>List.mem_cons_of_mem _ (List.mem_cons_of_mem _ h)).call (n:=wd) (c:=12) k3 h1 (by decide) (by decide) hop (hA.slot (by simp)) (by have:=cR (hA.slot (s:=15) (v:=iI wd) (by simp)); simp[this,show a.eval (.const (iI 12))=iI 12 from rfl]) hd (by decide) fun a w hI => ?_);clear hA hop ho hd hg;have k4:=fP wd 12 12 0 18 k3;show (Code.seq _ _).wp _ _ _ _;refine wp_seq (bK (l:=List.range' 0 ((aE (nK 8)).extract 0 3).size++(3::[])) (by kernel_rfl) ?_);refine aJ (c:=tC T0 _) (hT1 _ _) (dS w _ _ _) (aGU w b1 b2 sb pb fl) ⟨⟨hI.box.1,eH (i:=1) (n:=1) hI.box.2 rfl⟩,trivial⟩ (by kernel_rfl) hI.holds fun a w3' hA => ?_
 obtain⟨o,ho,⟨ts,hop⟩,hd,hg⟩:∃x,(aE (nK 8))[3]?=some x∧(∃ts,x.op=.call ⟨.value (.tmp 17),#[.tmp 19,.const (iI 10)],ts⟩)∧x.dst=some 20∧x.guard=none:=⟨_,rfl,⟨_,rfl⟩,rfl,rfl⟩
 refine bE ho hg ((hI.up hA fun φ h=>List.mem_cons_of_mem _ (List.mem_cons_of_mem _ h)).call (n:=fl) (c:=10) k4 h2 (by decide) (by decide) hop (hA.slot (by simp)) (by have:=cR (hA.slot (s:=19) (v:=iI fl) (by simp)); simp[this,show a.eval (.const (iI 10))=iI 10 from rfl]) hd (by decide) fun a w hI => ?_);clear hA hop ho hd hg;have k5:=fP fl 10 10 0 30 k4;show (Code.seq _ _).wp _ _ _ _;refine wp_seq (bK (l:=List.range' 0 ((aE (nK 9)).extract 0 3).size++(3::[])) (by kernel_rfl) ?_);refine aJ (c:=tC T0 _) (hT1 _ _) (dS w _ _ _) (aGT w b1 b2 sb pb pt) ⟨⟨hI.box.1,eH (i:=2) (n:=1) hI.box.2 rfl⟩,trivial⟩ (by kernel_rfl) hI.holds fun a w3' hA => ?_
 obtain⟨o,ho,⟨ts,hop⟩,hd,hg⟩:∃x,(aE (nK 9))[3]?=some x∧(∃ts,x.op=.call ⟨.value (.tmp 21),#[.tmp 23,.const (iI 10)],ts⟩)∧x.dst=some 24∧x.guard=none:=⟨_,rfl,⟨_,rfl⟩,rfl,rfl⟩
 refine bE ho hg ((hI.up hA fun φ h=>List.mem_cons_of_mem _ (List.mem_cons_of_mem _ h)).call (n:=pt) (c:=10) k5 h3 (by decide) (by decide) hop (hA.slot (by simp)) (by have:=cR (hA.slot (s:=23) (v:=iI pt) (by simp)); simp[this,show a.eval (.const (iI 10))=iI 10 from rfl]) hd (by decide) fun a w hI => ?_);clear hA hop ho hd hg;have k6:=fP pt 10 10 0 40 k5;show (Code.seq _ _).wp _ _ _ _;refine wp_seq (bK (l:=List.range' 0 ((aE (nK 10)).extract 0 1).size++(1::[])) (by kernel_rfl) ?_);refine aJ (c:=tC T0 _) (hT1 _ _) (hG _ _) (aBc b1 b2 sb pb) trivial (by kernel_rfl) hI.holds fun a w3' hA => ?_
 obtain⟨o,ho,⟨ts,hop⟩,hd,hg⟩:∃x,(aE (nK 10))[1]?=some x∧(∃ts,x.op=.call ⟨.value (.tmp 25),#[.const (iI 1073741823),.const (iI 30)],ts⟩)∧x.dst=some 26∧x.guard=none:=⟨_,rfl,⟨_,rfl⟩,rfl,rfl⟩
 refine bE ho hg ((hI.up hA fun φ h=>List.mem_cons_of_mem _ h).call (n:=1073741823) (c:=30) k6 (by decide) (by decide) (by decide) hop (hA.slot (by simp)) (by simp[Act.eval]) hd (by decide) fun a w hI => ?_);clear hA hop ho hd hg k1 k2 k3 k4 k5 k6;have hok:=Gd wd fl pt;change BgS (rR wd fl pt) w0.heap.size b1 b2 sb pb (bgL wd fl pt) _ w0 a w at hI;unfold KY;generalize bgL wd fl pt=s at *;show (Code.seq _ _).wp _ _ _ _;have hO:Holds 32 sb w (Hq w.heap.size b1 b2 sb s) a w:=hI.own3.holds (k:=3) (ts:=[(1,ptV b1 0),(2,ptV b2 0)]) hI.defers hI.size rfl hI.t3 (fun x hx=>by
  simp only[List.mem_cons,List.not_mem_nil,or_false]at hx
  rcases hx with rfl|rfl
  ·exact hI.t1
  ·exact hI.t2)
 have hq:∀gen,bQ prog (qW gen kX) sb w:=fun gen=>nP (jL _) _ _
 refine wp_seq (wp_seq (aB aI (hT _ _) (hq _) (aHb w.heap.size b1 b2 sb s) trivial hO fun a w1 hA => ?_));refine wp_block ?_;refine kG aI (fun i=>KG w.heap.size b1 b2 sb i (Hl i s)) 10 (fun i hi=>⟨_,_,_,_,nP (SR (NV i hok)) _ _,hT _ _,aHa w.heap.size b1 b2 sb i (Hl i s),fA (n:=10) hi,rfl,rfl,gN (k:=1) (by omega),trivial⟩) (.ex 0) (by simp) (KG w.heap.size b1 b2 sb 10 (Hl 10 s)) ⟨_,_,_,_,hq _,hT _ _,aGZ w.heap.size b1 b2 sb 10 (Hl 10 s),dM (i:=10) (n:=10) (Nat.le_refl _),trivial⟩ hA fun a w1 hA => ?_
 simp only[EA.out,Exit.then,Exit.inBlock,if_true];have hW:=hA.wrcK (k:=3) (l:=(Hl 10 s).row) (by simp[KG,Hq]) (by simp[KG,Hq]) (by simp[KG,Hq]);have hO3:Own w1 sb (Hl 10 s).row:=hW.1.own hI.own3.lt hW.2;have hO2:Own w1 b2 zC:=hI.res.wr hW.1 (Nat.ne_of_lt hI.l2);have hlB:w0.heap.size≤sb:=Nat.le_of_lt (Nat.lt_of_le_of_lt hI.lB hI.l2);have hbl:Below w0.heap.size w0 w1:=hI.below.trans (hW.1.below.mono hlB);have hS:=aU (nt:=32) (w:=w1) (a:=a) (ts:=[(1,ptV b1 0),(2,ptV b2 0),(3,ptV sb 0)]) hA.defers hA.size (fun x hx=>by
  simp only[List.mem_cons,List.not_mem_nil,or_false]at hx
  rcases hx with rfl|rfl|rfl
  ·exact hA.slot (by simp[KG,Hq])
  ·exact hA.slot (by simp[KG,Hq])
  ·exact hA.ptS (s:=3) (k:=3) (o:=0) (by simp[KG,Hq]) (by simp[KG,Hq]))
 clear hA hO hW;have hl2:=hI.lB;clear hI;generalize Hl 10 s=t at *;refine wp_seq (bK (l:=List.range' 0 ((aE (cA (cB bgX))).extract 0 1).size++(1::[])) (by kernel_rfl) ?_);refine aJ (c:=tC T0 _) (hT1 _ _) (dS w1 _ _ _) (aKx w1 b1 b2 sb t) ⟨hO3.old rfl,rfl,trivial⟩ (by kernel_rfl) hS fun a w2 hA => ?_
 obtain⟨o,ho,hop,hd,hg⟩:∃x,(aE (cA (cB bgX)))[1]?=some x∧x.op=.store 264 (.tmp 2) (.tmp 31)∧x.dst=none∧x.guard=none:=⟨_,rfl,rfl,rfl,rfl⟩
 have hO2:=(hO2.on hA.below).eq XG;have hp:put St0.row 0 t.row=some t.row:=rfl;obtain⟨hO5,hW5⟩:=hO2.set hp;refine bE ho hg (fL (v:=.agg (aA t.row).toArray) (vs:=aA t.row) hop hd (cR (hA.slot (s:=2) (by simp))) (cR (hA.slotF (s:=31) (by simp))) rfl rfl Vt (hO2.there (o:=0) (n:=4) (Nat.le_of_ble_eq_true rfl)) ?_);have hH:=hO5.holds (k:=2) (nt:=32) (a:=a) (ts:=[]) hA.defers hA.size rfl (hA.slot (by simp)) (fun x hx=>by cases hx);refine wp_ret (cN (l:=[.fl t.row]) (r:=.one (.fl t.row)) (by kernel_rfl) (by kernel_rfl) hH ⟨rfl,?_⟩);exact hbl.trans ((hA.below.mono hbl.size).trans (hW5.below.mono hl2))
def Zt {α:Type} (n:Nat) (k:Nat→α):α:=Nat.rec (motive:=fun _=>α) (k 0) (fun m _=>k (Nat.succ m)) n
theorem NZ {α:Type} (n:Nat) (k:Nat→α):Zt n k=k n:=by cases n<;>rfl
def Mu:Nat→Nat→Nat→Nat→Nat→Option St
 | 0,lo,hi,fr,gv=>bif Nat.beq gv 0 then none else some ⟨lo,hi,fr,gv⟩
 | n+1,lo,hi,fr,gv=>bif Nat.beq gv 0 then Zt (uF lo hi) fun f=>Zt (pB lo hi 16) fun l=>Zt (f &&& 21845) fun g=>Mu n l f f g else some ⟨lo,hi,fr,gv⟩
theorem RL:∀(n:Nat) (lo hi fr gv:Nat),Mu n lo hi fr gv=Cv n ⟨lo,hi,fr,gv⟩
 | 0,lo,hi,fr,gv=>rfl
 | n+1,lo,hi,fr,gv=>by
  unfold Mu Cv;simp only[NZ,RL n];rfl
def aBa (fr gv:Nat):Nat:=fr/(2*(gv &&& (18446744073709551616-gv))) &&& 1
theorem Qo {s:St} (h:s.ok) (hn:s.gv≠0):aBa s.fr s.gv=s.bit:=by
 unfold aBa St.bit;have e:=(Lib.lowest_bit 64 s.gv hn h.gv).1;rw[show (2:Nat)^64=18446744073709551616 by decide]at e;rw[e,Nat.pow_succ,Nat.mul_comm 2]
def LA:Nat→Nat→Nat→Nat→Nat→Nat→Option (Nat×St)
 | 0,lo,hi,fr,gv,a=>some (a,⟨lo,hi,fr,gv⟩)
 | n+1,lo,hi,fr,gv,a=>match Mu 40 lo hi fr gv with
  | some ⟨l,h,f,g⟩=>Zt (g &&& (g-1)) fun g'=>Zt (Qv a (aBa f g)) fun a'=>LA n l h f g' a'
  | none=>none
theorem rG:∀(n:Nat) (lo hi fr gv a:Nat),(⟨lo,hi,fr,gv⟩:St).ok→LA n lo hi fr gv a=yR n ⟨lo,hi,fr,gv⟩ a
 | 0,lo,hi,fr,gv,a,_=>rfl
 | n+1,lo,hi,fr,gv,a,h=>by
  unfold LA yR;rw[RL];cases hi':Cv 40 ⟨lo,hi,fr,gv⟩with
  | none=>rfl
  | some t =>
   have ht:=NO h hi';obtain⟨_,_,hne,_⟩:=sN 40 _ t hi';obtain⟨l,h',f,g⟩:=t;simp only[NZ];rw[Qo ht hne];exact rG n _ _ _ _ _ ht.next
def Fv (s:St):Option (Nat×St):=match LA 62 s.lo s.hi s.fr s.gv 0 with
 | some (d,⟨l1,h1,f1,g1⟩)=>(match LA 64 l1 h1 f1 g1 0 with
  | some (c,⟨l2,h2,f2,g2⟩)=>(match LA 64 l2 h2 f2 g2 0 with
   | some (b,⟨l3,h3,f3,g3⟩)=>(match LA 64 l3 h3 f3 g3 0 with
    | some (a,s4)=>Zt (aC a b c d) fun x=>some (x,s4)
    | none=>none)
   | none=>none)
  | none=>none)
 | none=>none
theorem Fu {s:St} (h:s.ok):Fv s=KC s:=by
 unfold Fv KC;rw[rG _ _ _ _ _ _ h];cases h1:yR 62 ⟨s.lo,s.hi,s.fr,s.gv⟩ 0 with
 | none=>rfl
 | some x =>
  obtain⟨d,s1⟩:=x;have k1:=(gF _ h (by decide) h1).1;simp only;rw[rG _ _ _ _ _ _ k1];cases h2:yR 64 ⟨s1.lo,s1.hi,s1.fr,s1.gv⟩ 0 with
  | none=>rfl
  | some x =>
   obtain⟨c,s2⟩:=x;have k2:=(gF _ k1 (by decide) h2).1;simp only;rw[rG _ _ _ _ _ _ k2];cases h3:yR 64 ⟨s2.lo,s2.hi,s2.fr,s2.gv⟩ 0 with
   | none=>rfl
   | some x =>
    obtain⟨b,s3⟩:=x;have k3:=(gF _ k2 (by decide) h3).1;simp only;rw[rG _ _ _ _ _ _ k3];cases h4:yR 64 ⟨s3.lo,s3.hi,s3.fr,s3.gv⟩ 0 with
    | none=>rfl
    | some x=>simp only[NZ]
def Pl:Nat→St→Option (Nat×St)
 | 0,_=>none
 | n+1,s=>match Fv s with
  | some (x,t)=>bif Nat.blt x RM then some (x,t)else Pl n t
  | none=>none
theorem EC {s t:St} {x:Nat} (hs:s.ok) (h:KC s=some (x,t)):t.ok:=by
 obtain⟨a,b,c,d,s1,s2,s3,h1,h2,h3,h4,_⟩:=uI h;exact (gF _ (gF _ (gF _ (gF _ hs (by decide) h1).1 (by decide) h2).1 (by decide) h3).1 (by decide) h4).1
theorem SB:∀(n:Nat) {s:St},s.ok→Pl n s=zK n s
 | 0,s,_=>rfl
 | n+1,s,h=>by
  unfold Pl zK;rw[Fu h];cases hc:KC s with
  | none=>rfl
  | some x =>
   obtain⟨x,t⟩:=x;simp only;rw[SB n (EC h hc)]
def yC:Nat→St→Option (List Nat)
 | 0,_=>some []
 | n+1,s=>match Pl 100 s with
  | some (x,t)=>(match yC n t with|some l=>some (x::l)|none=>none)
  | none=>none
theorem DU {n:Nat} {s t:St} {x:Nat} (hs:s.ok) (h:zK n s=some (x,t)):t.ok∧x<RM:=by
 induction n generalizing s with
 | zero=>cases h
 | succ n ih =>
  unfold zK at h;cases hc:KC s with
  | none=>rw[hc]at h; cases h
  | some y =>
   obtain⟨y,u⟩:=y;rw[hc]at h;simp only at h;cases hb:Nat.blt y RM<;>rw[hb]at h
   ·exact ih (EC hs hc) h
   ·cases h;exact⟨EC hs hc,by simpa using hb⟩
theorem JV:∀(n:Nat) {s:St},s.ok→yC n s=OQ n s
 | 0,s,_=>rfl
 | n+1,s,h=>by
  unfold yC OQ;rw[SB 100 h];cases hc:zK 100 s with
  | none=>rfl
  | some x =>
   obtain⟨x,t⟩:=x;simp only;rw[JV n (DU h hc).1];try (cases OQ n t<;>rfl)
end Go.Proofs.YtpjlhhpjpnacmaaGreatDoor.Ex
