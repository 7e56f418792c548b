/- Pl01 -/
import Derived.Laws.AppendOwn
import Derived.Laws.OwnMore
import Derived.Laws.StructEq
import Derived.Orders
import Derived.Test.YtglgakbkdjhojaaGreatPl00
import Derived.Test.YtglgakbkdjhojaaGreatProg
set_option maxRecDepth 100000
set_option linter.unusedVariables false
set_option linter.unusedSimpArgs false
namespace Go.Proofs.YtglgakbkdjhojaaGreat.Ex
open Go.Proofs.Tryz
open Go.RowKit
theorem lS {P:Program} {t n:Nat} (h:gC P t=some n):∃i,P.info? t=some i∧i.size=n:=by
 unfold gC at h;split at h
 ·rename_i i hi; cases h; exact⟨i,hi,rfl⟩
 ·cases h
theorem mQ {P:Program} {t:Nat} (h:yM P t=true):∃d,P.underlying t=some d∧d.isRow=true:=by
 unfold yM at h;split at h
 ·rename_i d hd; exact⟨d,hd,h⟩
 ·cases h
theorem cE {P:Program} {t n:Nat} (h:gC P t=some n) (w:World):(sizeOf t).run P w=.ok n w:=by
 obtain⟨i,hi,rfl⟩:=lS h;simp[sizeOf,typeInfo,hi]
theorem CI {w:World} {b o:Nat} {l:List At} {i n:Nat} {s:List At} (h:w.rangeAt b o (aA l)) (hs:gU l i n=some s):w.rangeAt b (o+i) (aA s):=by
 obtain⟨p,r,e,hp,ht⟩:=zK hs;intro j v hj;have hlt:j<(aA s).length:=(List.getElem?_eq_some_iff.1 hj).1;have:=h (i+j) v (by
  rw[e,aT,aT,List.getElem?_append_right (by rw[aZ,hp]; omega),aZ,hp,show i+j-i=j by omega,List.getElem?_append_left hlt];exact hj)
 rwa [←Nat.add_assoc]at this
theorem sJ {P:Program} (w:World) {t:Nat} (hs:pJ P t=true):(isAgg t).run P w=.ok false w:=by
 unfold pJ at hs;unfold isAgg;split at hs
 ·cases hs
 ·cases hs
 ·rename_i d hu h1 h2;rw[Sem.run_bind,run_underlying h2 w];cases d<;>first|rfl|exact absurd rfl (hu _)|exact absurd rfl (h1 _ _)
 ·cases hs
theorem uN {P:Program} (w:World) (p:Addr) {t:Nat} {v:Value} (hs:pJ P t=true) (hc:w.cell? p=some v):(loadVar t p).run P w=.ok v w:=by
 have hagg:(isAgg t).run P w=.ok false w:=by
  unfold pJ at hs;unfold isAgg;split at hs
  ·cases hs
  ·cases hs
  ·rename_i d hu h1 h2;rw[Sem.run_bind,run_underlying h2 w];cases d<;>first|rfl|exact absurd rfl (hu _)|exact absurd rfl (h1 _ _)
  ·cases hs
 simp[loadVar,Sem.run_bind,hagg,hc]
theorem Lm {P:Program} (w:World) {t f:Nat} {name:String} (h:Ob P t name=some f) (v:Value) (args:Array Value) (he:∀xs,(callFunc f xs).run P w=.ok (.enter f xs) w) :
  (callMethod (.iface t v) name args).run P w=.ok (.enter f (#[v]++args)) w:=by
 have hmeth:∀k,(method (k+1) t v name).run P w=.ok (f,v) w:=fun k=>by
  unfold Ob at h;split at h
  ·rename_i i d hi hu;have hfin:(∀e,d ≠ .pointer e)→(match i.methods.find? (·.name==name)with
     | some m=>(match m.path.toList,m.func with
      | [],some (f,false)=>some f
      | _,_=>none)
     | none=>none)=some f→(method (k+1) t v name).run P w=.ok (f,v) w:=fun hd h=>by
    split at h
    ·rename_i m hm;split at h
     ·rename_i f' hp hf;cases h;unfold method;have hrec:∀o,(receiverAt t (.val v) false o).run P w=.ok v w:=fun o=>by
       unfold receiverAt;rw[Sem.run_bind,run_underlying hu w];cases d<;>first|exact absurd rfl (hd _)|rfl
      simp[typeInfo,hi,hm,hp,follow,hf,hrec]
     ·cases h
    ·cases h
   cases d<;>first|(cases h; done)|exact hfin (fun e q=>by cases q) h
  ·cases h
 unfold callMethod;have hk:∃k,P.types.size+Made.depth=k+1:=⟨P.types.size+99,rfl⟩
 obtain⟨k,hk⟩:=hk;simp[Sem.run_bind,run_program,hk,hmeth,he]
theorem ZS {l:List At} {i n:Nat} {s:List At} (hs:gU l i n=some s):dF s=n:=by
 obtain⟨p,r,e,hp,ht⟩:=zK hs;exact ht
theorem LN {M:List Fact} {base:Nat} {β:Nat→Bk} {a:Act} {w:World} (hM:∀φ∈M,φ.ok base β a w) {ky:Option Nat} {v:Value} {p:List Prop} {u:AV} (h:Vw M ky v=some (p,u)) (hp:bC p):u.den β=v:=by
 unfold Vw at h;split at h
 ·cases h; rfl
 ·rename_i k;split at h
  ·rename_i b n m b' hb;cases h;have:=hM _ (jC hb);simp only[Fact.ok]at this;obtain⟨rfl,_⟩:=hp;simp[AV.den,this]
  ·rename_i b b' hb;cases h;have:=hM _ (jC hb);simp only[Fact.ok]at this;obtain⟨rfl,_⟩:=hp;simp[AV.den,this]
  ·cases h
theorem DH {M:List Fact} {base:Nat} {β:Nat→Bk} {a:Act} {w:World} (hM:∀φ∈M,φ.ok base β a w):∀{l:List AV} {vs:List Value},aCq M l=some vs→l.map (AV.den β)=vs
 | [],vs,h=>by cases h; rfl
 | .im v::r,vs,h=>by
  unfold aCq at h;split at h
  ·rename_i l hl;cases h;show v::r.map (AV.den β)=_;rw[DH hM hl]
  ·cases h
 | .pt k o::r,vs,h=>by
  unfold aCq at h;split at h
  ·rename_i b l hb hl;cases h;have:=hM _ (jC hb);simp only[Fact.ok]at this;show (AV.pt k o).den β::r.map (AV.den β)=_;rw[DH hM hl];simp[AV.den,this]
  ·cases h
 | .fl _::_,vs,h=>by cases h
 | .sl _ _ _ _::_,vs,h=>by cases h
 | .tu _::_,vs,h=>by cases h
 | .ic _ _::_,vs,h=>by cases h
 | .tf _ _ _ _::_,vs,h=>by cases h
 | .so _ _::_,vs,h=>by cases h
 | .tg _ _ _ _::_,vs,h=>by cases h
theorem Nd {base:Nat} {β:Nat→Bk} {a:Act} {w w':World} {d:Nat} {M:List Fact} (r:FR) (b:Nat) (h:d<a.tmps.size) (hB:base≤w.heap.size) (hb:Below w.heap.size w w')
  (h1:w.heap.size≤b) (h2:b<w'.heap.size) (h3:w'.rangeAt b 0 (aA r.l)) (h4:∀j,w'.frozen? ⟨b,j,none⟩=false) :
  PostB base β (β1 β d b) a w (some d) M [.slot d (bif r.post.isEmpty then .sl d 0 r.n r.m else .tf d r.n r.m r.post),.row d true r.l] none (a.put (some d) (r.val b)) w' where
 defers:=rfl
 size:=gS _ _ _
 tmps s hs:=oK _ _ _ _ hs
 beta k hk:=Ih _ _ _ _ hk
 heap:=hb.size
 mem p hp _:=⟨hb.cell hp,hb.frozen hp⟩
 shape:=Shape.below hb
 below _ h:=h.trans (hb.mono hB)
 ok φ hφ:=by
  rcases List.mem_cons.1 hφ with rfl|hφ
  ·show (a.put (some d) (r.val b)).tmps[d]?=_;rw[kP _ _ _ h];unfold FR.val;cases r.post.isEmpty<;>simp[AV.den,cG]
  ·cases List.mem_singleton.1 hφ;refine⟨by rw[cG]; exact h2,by rw[cG]; exact h3,fun _=>⟨by rw[cG]; exact Nat.le_trans hB h1,by rw[cG],fun j=>by rw[cG]; exact h4 j⟩,fun h=>by cases h⟩
 rows k l hk:=by
  rcases List.mem_cons.1 hk with hk|hk
  ·cases hk
  ·cases List.mem_singleton.1 hk;exact Or.inl ⟨by rw[cG]; exact h1,rfl⟩
 one k k' l l' hk hk':=by
  rcases List.mem_cons.1 hk with hk|hk
  ·cases hk
  ·rcases List.mem_cons.1 hk' with hk'|hk'
   ·cases hk'
   ·cases List.mem_singleton.1 hk; cases List.mem_singleton.1 hk'; rfl
 kills k hk:=by cases hk
theorem ZU {v:Value} (h:LS v=true):v.oneCell'=true:=by cases v<;>first|rfl|cases h
theorem DN:∀{p:List At},p.all cOk=true→∀v∈aA p,v.oneCell'=true
 | [],_,v,hv=>by cases hv
 | x::r,h,v,hv=>by
  rw[List.all_cons,Bool.and_eq_true]at h
  rcases List.mem_append.1 hv with hv|hv
  ·cases x with
   | f x=>simp only[At.cells,w4,List.mem_cons,List.not_mem_nil,or_false]at hv; rcases hv with rfl|rfl|rfl|rfl<;>rfl
   | q x=>simp only[At.cells,w4,List.mem_cons,List.not_mem_nil,or_false]at hv; rcases hv with rfl|rfl|rfl|rfl<;>rfl
   | c u=>cases List.mem_singleton.1 hv; exact ZU h.1
  ·exact DN h.2 v hv
theorem Dy {base:Nat} {β:Nat→Bk} {a:Act} {w w':World} {d:Nat} {M:List Fact} (r:FS) (b cap:Nat) (h:d<a.tmps.size) (hB:base≤w.heap.size) (hb:Below w.heap.size w w')
  (h1:w.heap.size≤b) (h2:b<w'.heap.size) (h3:w'.rangeAt b 0 (aA r.l)) (h4:∀j,w'.frozen? ⟨b,j,none⟩=false) (h5:r.ap=true→AppAt w' b r.e r.sz r.n cap) :
  PostB base β (β2 β d b cap) a w (some d) M (.slot d (bif r.lone then .so d r.n else .tg d r.n r.ante r.post) :: .row d true r.l::(bif r.ap then [.app d r.e r.sz r.n]else [])) none (a.put (some d) (r.val b cap)) w' where
 defers:=rfl
 size:=gS _ _ _
 tmps s hs:=oK _ _ _ _ hs
 beta k hk:=aDe _ _ _ _ _ hk
 heap:=hb.size
 mem p hp _:=⟨hb.cell hp,hb.frozen hp⟩
 shape:=Shape.below hb
 below _ h:=h.trans (hb.mono hB)
 ok φ hφ:=by
  rcases List.mem_cons.1 hφ with rfl|hφ
  ·show (a.put (some d) (r.val b cap)).tmps[d]?=_;rw[kP _ _ _ h];unfold FS.val;cases r.lone<;>simp[AV.den,dP]
  rcases List.mem_cons.1 hφ with rfl|hφ
  ·refine⟨by rw[dP]; exact h2,by rw[dP]; exact h3,fun _=>⟨by rw[dP]; exact Nat.le_trans hB h1,by rw[dP],fun j=>by rw[dP]; exact h4 j⟩,fun h=>by cases h⟩
  ·cases hap:r.ap<;>rw[hap]at hφ
   ·cases hφ
   ·cases List.mem_singleton.1 hφ;show AppAt w' (β2 β d b cap d).1 _ _ _ (β2 β d b cap d).2.2;rw[dP]; exact h5 hap
 rows k l hk:=by
  rcases List.mem_cons.1 hk with hk|hk
  ·cases hk
  rcases List.mem_cons.1 hk with hk|hk
  ·cases hk;exact Or.inl ⟨by rw[dP]; exact h1,rfl⟩
  ·cases hap:r.ap<;>rw[hap]at hk
   ·cases hk
   ·cases List.mem_singleton.1 hk
 one k k' l l' hk hk':=by
  have key:∀k l,Fact.row k true l∈(Fact.slot d (bif r.lone then AV.so d r.n else .tg d r.n r.ante r.post) :: .row d true r.l::(bif r.ap then [.app d r.e r.sz r.n]else []))→k=d:=fun k l hk=>by
   rcases List.mem_cons.1 hk with hk|hk
   ·cases hk
   rcases List.mem_cons.1 hk with hk|hk
   ·cases hk; rfl
   ·cases hap:r.ap<;>rw[hap]at hk
    ·cases hk
    ·cases List.mem_singleton.1 hk
  rw[key k l hk,key k' l' hk']
 kills k hk:=by cases hk
theorem OF (w:World) (p:Addr) (v:Value):Shape w (w.setCell p v):=fun b cur e hb=>by
 by_cases h:b=p.block
 ·subst h;refine⟨if p.spot.isSome then cur else cur.setIfInBounds p.off v,?_,?_⟩
  ·simp[World.setCell,Array.getElem?_modify,hb]
  ·split<;>simp
 ·exact⟨cur,(Below.heap_setCell w p v b h).trans hb,rfl⟩
theorem oC (b:Nat):∀(vs:List Value) (o:Nat) (w:World),Shape w (w.setCells b o vs)
 | [],_,w=>Shape.refl w
 | v::r,o,w=>(OF w _ v).trans (oC b r (o+1) _)
theorem aVf {w:World} {b e sz n cap:Nat} {xs:List Value} (h:AppAt w b e sz n cap) (hr:w.rangeAt b 0 xs) (hl:xs.length=n*sz):w.ownsRow 0 e sz (.slice (some ⟨b,0,none⟩) n cap) n xs:=by
 obtain⟨cur,h1,h2,h3,h4⟩:=h;refine⟨hl,.inr ⟨b,cap,cur,rfl,Nat.zero_le _,h1,h2,h3,h4,?_⟩⟩;have hle:n*sz≤cur.size:=by rw[h4]; exact Nat.mul_le_mul_right _ h2
 apply List.ext_getElem?;intro j
 by_cases hj:j<n*sz
 ·have h5:=hr j (xs[j]'(by omega)) (List.getElem?_eq_getElem _);rw[Nat.zero_add,cell_of_row w b j cur e (0,0) h1]at h5;rw[List.getElem?_take,if_pos hj,Array.getElem?_toList,h5,List.getElem?_eq_getElem]
 ·rw[List.getElem?_eq_none (by simp; omega),List.getElem?_eq_none (by omega)]
theorem UD {w:World} {base b e sz n cap:Nat} {xs:List Value} (h:w.ownsRow base e sz (.slice (some ⟨b,0,none⟩) n cap) n xs):AppAt w b e sz n cap∧base≤b∧b<w.heap.size∧w.rangeAt b 0 xs∧∀j,w.frozen? ⟨b,j,none⟩=false:=by
 have h0:=h;obtain⟨hl,⟨e0,_⟩|⟨g,c,cur,e1,hb,hg,h2,h3,h4,h5⟩⟩:=h
 ·cases e0
 ·cases e1;refine⟨⟨cur,hg,h2,h3,h4⟩,hb,(Array.getElem?_eq_some_iff.1 hg).1,fun j v hj => ?_,h0.frozenAt⟩;rw[Nat.zero_add,h0.cellAt j (by rw[←hl]; exact (List.getElem?_eq_some_iff.1 hj).1)];exact hj
theorem aKo {P:Program} {t e sz by8:Nat} (h:apT P t=some (e,sz,by8)):P.underlying t=some (.slice e)∧∃i z,P.info? e=some i∧i.zero=some z∧i.size=sz∧i.bytes=by8∧z.cells.size=sz∧0<sz:=by
 unfold apT at h;split at h
 ·rename_i e' hu;split at h
  ·rename_i i hi;split at h
   ·rename_i z hz;cases hb:(Nat.beq z.cells.size i.size&&Nat.blt 0 i.size)<;>rw[hb]at h
    ·cases h
    ·cases h;rw[Bool.and_eq_true]at hb;exact⟨hu,i,z,hi,hz,rfl,rfl,Nat.eq_of_beq_eq_true hb.1,by simpa using hb.2⟩
   ·cases h
  ·cases h
 ·cases h
theorem aFb {P:Program} (w:World) {t ty e sz by8:Nat} (hT:apT P t=some (e,sz,by8)) {u:Value} {n:Nat} {xs:List Value}
  (hu:(u=.slice none 0 0∧n=0∧xs=[])∨∃b cap,u=.slice (some ⟨b,0,none⟩) n cap∧AppAt w b e sz n cap∧w.rangeAt b 0 xs∧xs.length=n*sz)
  {ad:Addr} {m c:Nat} {news:List Value} (hl:news.length=m*sz) (hnews:∀j v,news[j]?=some v→w.cell? (ad.add j)=some v) (h1:∀v∈news,v.oneCell'=true)
  (h0:0<m) (hbytes:(n+m)*by8≤140737488355328) (hmax:n+m≤maxLen) :
  ∃b cap w',(Builtin.append_ #[t,t] ty #[u,.slice (some ad) m c]).run P w=.ok (.slice (some ⟨b,0,none⟩) (n+m) cap) w'∧AppAt w' b e sz (n+m) cap∧b<w'.heap.size∧w'.rangeAt b 0 (xs++news)∧(∀j,w'.frozen? ⟨b,j,none⟩=false) ∧
   w.grownBy w' u.ownBlock∧Shape w w'∧(w.heap.size≤b∨∃cap0,u=.slice (some ⟨b,0,none⟩) n cap0):=by
 obtain⟨ht,i,z,hi,hz,hsize,hby,hzs,hsz⟩:=aKo hT
 rcases hu with⟨rfl,rfl,rfl⟩|⟨b,cap,rfl,ha,hr,hx⟩
 ·obtain⟨v',w',hr,hown,hg,hne⟩:=run_append_own (P:=P) w w.heap.size t ty e i z sz by8 ht hi hz hsize hby hzs hsz _ 0 [] (World.ownsRow_nil w w.heap.size e sz) ad m c news hl hnews h1 hmax hbytes (Nat.le_refl _);have hv:∃b cap,v'=.slice (some ⟨b,0,none⟩) (0+m) cap:=by
   obtain⟨_,⟨rfl,h2⟩|⟨g,c',cur,rfl,_⟩⟩:=hown
   ·omega
   ·exact⟨g,c',rfl⟩
  obtain⟨b,cap,rfl⟩:=hv;obtain⟨a1,a2,a3,a4,a5⟩:=UD hown;exact⟨b,cap,w',hr,a1,a3,a4,a5,hg,fun q cur e' hq=>⟨cur,(hg.block q (Array.getElem?_eq_some_iff.1 hq).1 (by simp[Value.ownBlock])).trans hq,rfl⟩,Or.inl a2⟩
 ·have hown:=aVf ha hr hx
  by_cases hroom:n+m≤cap
  ·obtain⟨w',hr',hown',hg⟩:=run_append_fits (P:=P) w 0 t ty e i sz ht hi hsize b n cap xs hown ad m c news hl hnews h1 hroom;obtain⟨a1,a2,a3,a4,a5⟩:=UD hown';refine⟨b,cap,w',hr',a1,a3,a4,a5,hg,fun q cur e' hq => ?_,Or.inr ⟨cap,rfl⟩⟩
   by_cases hqb:q=b
   ·subst hqb;obtain⟨c0,k1,k2,k3,k4⟩:=ha;rw[k1]at hq;cases hq;obtain⟨c1,m1,m2,m3,m4⟩:=a1;exact⟨c1,m1,by rw[m4,k4]⟩
   ·exact⟨cur,(hg.block q (Array.getElem?_eq_some_iff.1 hq).1 (by simpa using hqb)).trans hq,rfl⟩
  ·obtain⟨v',w',hr',hown',hg,_⟩:=run_append_own (P:=P) w 0 t ty e i z sz by8 ht hi hz hsize hby hzs hsz _ n xs hown ad m c news hl hnews h1 hmax hbytes (Nat.zero_le _);have holds:∀j v,xs[j]?=some v→w.cell? ((⟨b,0,none⟩:Addr).add j)=some v:=hown.cells (g:=b) rfl
   have hr2:=run_append_grow (P:=P) w t ty e i z ht hi hz ⟨b,0,none⟩ n cap xs (by rw[hsize]; exact hx) holds ad m c news (by rw[hsize]; exact hl) hnews (by omega) (by simp only[maxLen]at hmax; omega) (growslice_fits (by omega) (by rw[hby]; exact hbytes));rw[hr']at hr2;injection hr2 with hv hw;subst hv;obtain⟨a1,a2,a3,a4,a5⟩:=UD hown';exact⟨_,_,w',hr',a1,a3,a4,a5,hg,by rw[hw]; exact Shape.trans (b:=w.drew) (fun q cur e' hq=>⟨cur,hq,rfl⟩) (Shape.alloc _ _),Or.inl (Nat.le_refl _)⟩
theorem aFW {base:Nat} {β:Nat→Bk} {a:Act} {w w':World} {d:Nat} {M:List Fact} {kl:Option Nat} {L:List At} {e sz N b cap:Nat} {row:Option Nat} (h:d<a.tmps.size) (hB:base≤w.heap.size)
  (h1:AppAt w' b e sz N cap) (h2:b<w'.heap.size) (h3:w'.rangeAt b 0 (aA L)) (h4:∀j,w'.frozen? ⟨b,j,none⟩=false) (hg:w.grownBy w' row) (hs:Shape w w')
  (hk:(kl=none∧row=none∧w.heap.size≤b)∨∃k l0,kl=some k∧row=some (β k).1∧base≤(β k).1∧Fact.row k true l0∈M∧(w.heap.size≤b∨b=(β k).1)) :
  PostB base β (β2 β d b cap) a w (some d) M [.slot d (.so d N),.row d true L,.app d e sz N] kl (a.put (some d) (.slice (some ⟨b,0,none⟩) N cap)) w':=by
 have hbb:base≤b:=by
  rcases hk with⟨_,_,h⟩|⟨k,l0,_,_,hb,_,h|h⟩<;>omega
 have hmem:∀q,q<w.heap.size→(∀k,kl=some k→q≠(β k).1)→w'.heap[q]?=w.heap[q]?:=fun q hq hne=>by
  refine hg.block q hq fun e => ?_
  rcases hk with⟨_,h,_⟩|⟨k,l0,hkl,h,_⟩
  ·rw[h]at e; cases e
  ·rw[h]at e;exact hne k hkl (by injection e)
 exact {
  defers:=rfl
  size:=gS _ _ _
  tmps:=fun s hs=>oK _ _ _ _ hs
  beta:=fun k hk=>aDe _ _ _ _ _ hk
  heap:=hg.size
  mem:=fun p hp hne=>⟨World.cell?_of_block (hmem p.block hp hne),World.frozen?_of_block (hmem p.block hp hne)⟩
  shape:=hs
  below:=fun w0 hw0=>hw0.grown hg hB fun k hk'=>by
   rcases hk with⟨_,h,_⟩|⟨k0,l0,_,h,hb,_⟩
   ·rw[h]at hk'; cases hk'
   ·rw[h]at hk'; cases hk'; exact hb
  ok:=fun φ hφ=>by
   simp only[List.mem_cons,List.not_mem_nil,or_false]at hφ
   rcases hφ with rfl|rfl|rfl
   ·show (a.put (some d) _).tmps[d]?=_;rw[kP _ _ _ h];simp[AV.den,dP]
   ·refine⟨by rw[dP]; exact h2,by rw[dP]; exact h3,fun _=>⟨by rw[dP]; exact hbb,by rw[dP],fun j=>by rw[dP]; exact h4 j⟩,fun h=>by cases h⟩
   ·show AppAt w' (β2 β d b cap d).1 _ _ _ (β2 β d b cap d).2.2;rw[dP]; exact h1
  rows:=fun k l hk'=>by
   simp only[List.mem_cons,List.not_mem_nil,or_false,reduceCtorEq,false_or]at hk';cases hk'
   rcases hk with⟨_,_,h⟩|⟨k0,l0,hkl,_,_,hm,h|h⟩
   ·exact Or.inl ⟨by rw[dP]; exact h,rfl⟩
   ·exact Or.inl ⟨by rw[dP]; exact h,rfl⟩
   ·exact Or.inr (Or.inr ⟨rfl,k0,l0,hkl,by rw[dP]; exact h,hm⟩)
  one:=fun k k' l l' hk hk'=>by
   simp only[List.mem_cons,List.not_mem_nil,or_false,reduceCtorEq,false_or]at hk hk';cases hk; cases hk'; rfl
  kills:=fun k hk'=>by
   rcases hk with⟨h,_⟩|⟨k0,l0,hkl,_,_,hm,_⟩
   ·rw[h]at hk'; cases hk'
   ·rw[hkl]at hk'; cases hk'; exact⟨l0,hm⟩ }
theorem aKp {M:List Fact} {base:Nat} {β:Nat→Bk} {a:Act} {w:World} (hM:∀φ∈M,φ.ok base β a w) {sz:Nat} {v:AV} {m:Nat} {news:List At} (h:apS M sz v=some (m,news)) :
  ∃b o c,v.den β=.slice (some ⟨b,o,none⟩) m c∧w.rangeAt b o (aA news)∧dF news=m*sz:=by
 unfold apS at h;split at h
 ·rename_i k o n c;split at h
  ·rename_i ow l hr;split at h
   ·rename_i r hd;split at h
    ·rename_i t ht;cases h;obtain⟨h1,h2,_⟩:=hM _ (bV hr);obtain⟨p,e,hp⟩:=Gy hd;obtain⟨q,e2,hq⟩:=vU _ _ _ ht;refine⟨_,_,_,rfl,fun j u hj => ?_,hq⟩;have hlt:=(List.getElem?_eq_some_iff.1 hj).1;have:=h2 (o+j) u (by rw[e,e2,aT,aT,List.getElem?_append_right (by rw[aZ,hp]; omega),aZ,hp,Nat.add_sub_cancel_left,List.getElem?_append_left hlt]; exact hj)
     rwa [←Nat.add_assoc]at this
    ·cases h
   ·cases h
  ·cases h
 ·rename_i k n;split at h
  ·rename_i ow l hr;split at h
   ·rename_i t ht;cases h;obtain⟨h1,h2,_⟩:=hM _ (bV hr);obtain⟨q,e2,hq⟩:=vU _ _ _ ht;refine⟨_,_,_,rfl,fun j u hj => ?_,hq⟩;have hlt:=(List.getElem?_eq_some_iff.1 hj).1;exact h2 j u (by rw[e2,aT,List.getElem?_append_left hlt]; exact hj)
   ·cases h
  ·cases h
 ·cases h
section
variable {E:Env} {base:Nat} {β:Nat→Bk} {a:Act} {w:World} {M:List Fact} {d:Nat} {o:Oper} {pre:List Prop} {out:List Fact} {kill:Option Nat} {K:Act→World→Prop} {Q:Exit→Act→World→Prop}
theorem aX (hd:d<a.tmps.size) (hdst:o.dst=some d) (v:AV) (hr:(execOp a.eval o).run E.P w=.ok (.value (v.den β)) w)
  (hK:∀β' a' w',PostB base β β' a w (some d) M [.slot d v] none a' w'→K a' w'):o.wp E.P a w K Q :=
 IR hr (by rw[hdst]; exact hK _ _ _ (PO v hd))
theorem UW (hB:base≤w.heap.size) (hd:d<a.tmps.size) (hdst:o.dst=some d) (v:AV) (l:List At) (t:TypeId)
  (hr:(execOp a.eval o).run E.P w=.ok (.value (v.den (β1 β d w.heap.size))) (w.alloc (.cells (aA l).toArray t)))
  (hK:∀β' a' w',PostB base β β' a w (some d) M [.slot d v,.row d true l] none a' w'→K a' w'):o.wp E.P a w K Q :=
 IR hr (by rw[hdst]; exact hK _ _ _ (aFV v l t hd hB))
variable (hC:(∀φ∈M,φ.ok base β a w)∧base≤w.heap.size∧d<a.tmps.size∧o.dst=some d)
variable (hK:∀β' a' w',PostB base β β' a w (some d) M out kill a' w'→K a' w')
include hC hK
theorem aLP {x:Operand} (ho:o.op=.move x) (h:cH E M d (.move x)=some (pre,out,kill)):o.wp E.P a w K Q:=by
 obtain⟨hM,hB,hd,hdst⟩:=hC;simp only[cH]at h;split at h
 ·rename_i v hv;cases h;exact aX hd hdst v (by simp[execOp,ho,aW hM hv]) hK
 ·cases h
theorem Zw {x:Operand} (ho:o.op=.assign x) (h:cH E M d (.assign x)=some (pre,out,kill)):o.wp E.P a w K Q:=by
 obtain⟨hM,hB,hd,hdst⟩:=hC;simp only[cH]at h;split at h
 ·rename_i v hv;cases h;exact aX hd hdst v (by simp[execOp,ho,aW hM hv]) hK
 ·cases h
theorem aLO {c x y:Operand} (ho:o.op=.pick c x y) (h:cH E M d (.pick c x y)=some (pre,out,kill)):o.wp E.P a w K Q:=by
 obtain⟨hM,hB,hd,hdst⟩:=hC;simp only[cH]at h;split at h
 ·rename_i b v u hc hx hy;cases h;refine aX hd hdst _ ?_ hK;have hc':a.eval c=.bool b:=aW hM hc;cases b
  ·simp[execOp,ho,hc',aW hM hy,asBool]
  ·simp[execOp,ho,hc',aW hM hx,asBool]
 ·cases h
theorem aEj {t:TypeId} (ho:o.op=.alloc t) (h:cH E M d (.alloc t)=some (pre,out,kill)):o.wp E.P a w K Q:=by
 obtain⟨hM,hB,hd,hdst⟩:=hC;simp only[cH]at h;split at h
 ·rename_i l hl;cases h;unfold aQt at hl;split at hl
  ·rename_i i hi;split at hl
   ·rename_i z hz;cases hl;refine UW hB hd hdst _ _ t ?_ hK;simp[execOp,ho,Instr.alloc,zeroValue,typeInfo,hi,hz,newVar,newRow,AV.den,cG,Vc]
   ·cases hl
  ·cases hl
 ·cases h
theorem aUb {t:TypeId} {x:Operand} (ho:o.op=.box t x) (h:cH E M d (.box t x)=some (pre,out,kill)):o.wp E.P a w K Q:=by
 obtain⟨hM,hB,hd,hdst⟩:=hC;simp only[cH]at h;split at h
 ·rename_i v hv;split at h
  ·rename_i p hp;cases h;refine UW hB hd hdst _ _ t ?_ hK;have hc:=yD hp β;have he:=aW hM hv;rw[show AV.den (β1 β d w.heap.size) (.pt d 0)=.pointer (some ⟨w.heap.size,0,none⟩) by simp[AV.den,cG]];simp[execOp,ho,Instr.box,newVar,newRow,he,hc]
  ·cases h
 ·cases h
theorem aEh {t:TypeId} {ps:Array (Nat×Operand)} (ho:o.op=.build t ps) (h:cH E M d (.build t ps)=some (pre,out,kill)):o.wp E.P a w K Q:=by
 obtain⟨hM,hB,hd,hdst⟩:=hC;simp only[cH]at h;split at h
 ·rename_i qs hq;split at h
  ·rename_i l hl;cases h;refine aX hd hdst _ ?_ hK;have:=Hl hM hq hl;have hb:=run_build w t (ps.map fun (i,x)=>(i,a.eval x)) _ (by rw[Array.toList_map]; exact this);simp[execOp,ho,hb,AV.den,aOq]
  ·cases h
 ·cases h
theorem OD {t:TypeId} {n:Nat} {ps:Array (Nat×Operand)} (ho:o.op=.buildSlice t n ps) (h:cH E M d (.buildSlice t n ps)=some (pre,out,kill)):o.wp E.P a w K Q:=by
 obtain⟨hM,hB,hd,hdst⟩:=hC;simp only[cH]at h;split at h
 ·rename_i qs hq;split at h
  ·rename_i l hl;cases h;unfold Xu at hl;split at hl
   ·rename_i e hu;split at hl
    ·rename_i ie hie;split at hl
     ·rename_i z hz;cases hc:(Nat.ble (n*ie.size) 4096 && !(Nat.beq (n*ie.size) 0))<;>rw[hc]at hl
      ·cases hl
      ·simp only[cond_true]at hl;simp only[Bool.and_eq_true,Bool.not_eq_true',Nat.ble_eq]at hc;have hpos:¬n*ie.size=0:=fun e=>by rw[e]at hc; exact absurd hc.2 (by decide)
       have hs:=tA hM _ ps.toList qs _ _ hq hl;rw[IQ,Array.toArray_toList]at hs;refine UW hB hd hdst _ _ e ?_ hK;have hb:=run_buildSlice (P:=E.P) w t e n (ps.map fun (i,x)=>(i,a.eval x)) _ ie z hu hie hz (by omega) hpos (by rw[Array.toList_map]; exact hs);simp[execOp,ho,hb,AV.den,cG]
     ·cases hl
    ·cases hl
   ·cases hl
  ·cases h
 ·cases h
theorem aLQ {t:TypeId} {x:Operand} (hX:Hz E.P E.q.x w) (ho:o.op=.load t x) (h:cH E M d (.load t x)=some (pre,out,kill)) (hp:bC pre):o.wp E.P a w K Q:=by
 obtain⟨hM,hB,hd,hdst⟩:=hC;simp only[cH]at h;split at h
 ·rename_i k i hx;split at h
  ·rename_i ow l n hr hs ht;have hg':∃s,gU l i n=some s∧out=[.slot d (.fl s)]∧kill=none:=by
    split at h
    ·rename_i s hs';cases h;exact⟨s,hp.1,rfl,rfl⟩
    ·split at h
     ·rename_i s hg; cases h; exact⟨s,hg,rfl,rfl⟩
     ·cases h
   obtain⟨s,hg,rfl,rfl⟩:=hg'
   ·obtain⟨i',hi,hn⟩:=lS hs;obtain⟨ds,hu,hd'⟩:=mQ ht;obtain⟨h1,h2,_⟩:=hM _ (bV hr);refine aX hd hdst _ ?_ hK;have:=run_loadAt_mid (P:=E.P) w _ _ t (aA s) ds (CI h2 hg) hu hd' (by rw[hi]; simp[aZ,ZS hg,hn]);have hx':a.eval x=.pointer (some ⟨(β k).1,(β k).2.1+i,none⟩):=aW hM hx;simp[execOp,ho,hx',this,AV.den]
  ·rename_i ow l hr hs ht;cases hsc:pJ E.P t<;>rw[hsc]at h
   ·cases h
   ·simp only[cond_true]at h;have hg':∃v u,cellAt l i=some v∧u.den β=v∧out=[.slot d u]∧kill=none:=by
     split at h
     ·rename_i s hs';split at h
      ·rename_i p u hk;cases h;exact⟨s,u,hp.1,LN hM hk hp.2,rfl,rfl⟩
      ·cases h
     ·split at h
      ·rename_i s hg;split at h
       ·rename_i p u hk;cases h;exact⟨s,u,hg,LN hM hk hp,rfl,rfl⟩
       ·cases h
      ·cases h
    obtain⟨v,u,hg,hu,rfl,rfl⟩:=hg';obtain⟨h1,h2,_⟩:=hM _ (bV hr);refine aX hd hdst _ ?_ hK;have hc:w.cell? ⟨(β k).1,(β k).2.1+i,none⟩=some v:=h2 i v (mT hg);have hx':a.eval x=.pointer (some ⟨(β k).1,(β k).2.1+i,none⟩):=aW hM hx;have hl:=uN w ⟨(β k).1,(β k).2.1+i,none⟩ hsc hc;simp[execOp,ho,Instr.loadAt,Instr.sureAddr,hx',hl,hu]
  ·cases h
 ·rename_i b i hx;have hx':a.eval x=.pointer (some ⟨b,i,none⟩):=aW hM hx;split at h
  ·rename_i n hs ht;split at h
   ·rename_i s hl;cases h;obtain⟨i',hi,hn⟩:=lS hs;obtain⟨ds,hu,hd'⟩:=mQ ht;have h2:=hX.1 _ _ _ hp.1;refine aX hd hdst _ ?_ hK;have:=run_loadAt_mid (P:=E.P) w _ _ t (aA s) ds h2 hu hd' (by rw[hi]; simp[aZ,hp.2.1,hn]);simp[execOp,ho,hx',this,AV.den]
   ·cases h
  ·rename_i hs ht;cases hsc:pJ E.P t<;>rw[hsc]at h
   ·cases h
   ·simp only[cond_true]at h;split at h
    ·rename_i v hv;cases h;have h2:=hX.1 _ _ _ hp.1;refine aX hd hdst _ ?_ hK;have hc:w.cell? ⟨b,i,none⟩=some v:=h2 0 v rfl;have hl:=uN w ⟨b,i,none⟩ hsc hc;simp[execOp,ho,Instr.loadAt,Instr.sureAddr,hx',hl,AV.den]
    ·cases h
  ·cases h
 ·cases h
theorem aEf {t:TypeId} {x:Operand} (ho:o.op=.makeInterface t x) (h:cH E M d (.makeInterface t x)=some (pre,out,kill)):o.wp E.P a w K Q:=by
 obtain⟨hM,hB,hd,hdst⟩:=hC;simp only[cH]at h;split at h
 ·rename_i l hx;cases hi:aIc E.P t<;>rw[hi]at h
  ·cases h;have hx':a.eval x=.agg (aA l).toArray:=aW hM hx;refine aX hd hdst _ ?_ hK;have hm:(Instr.makeInterface t (.agg (aA l).toArray)).run E.P w=.ok (.iface t (.agg (aA l).toArray)) w:=by
    unfold aIc at hi;unfold Instr.makeInterface;split at hi
    ·cases hi
    ·rename_i dd hne hu;rw[Sem.run_bind,run_underlying hu w];cases dd<;>first|rfl|exact absurd rfl (hne _)
    ·cases hi
   simp[execOp,ho,hx',hm,AV.den]
  ·cases h
 ·cases h
theorem ZP {x:Operand} (ho:o.op=.nilCheck x) (h:cH E M d (.nilCheck x)=some (pre,out,kill)):o.wp E.P a w K Q:=by
 obtain⟨hM,hB,hd,hdst⟩:=hC;simp only[cH]at h;split at h
 ·rename_i k j hx;cases h;have hx':a.eval x=.pointer (some ⟨(β k).1,(β k).2.1+j,none⟩):=aW hM hx;exact aX hd hdst _ (by simp[execOp,ho,hx',AV.den]) hK
 ·rename_i p hx;cases h;have hx':a.eval x=.pointer (some p):=aW hM hx;exact aX hd hdst _ (by simp[execOp,ho,hx',AV.den]) hK
 ·cases h
theorem Jg {src dst:TypeId} {x:Operand} (ho:o.op=.convert src dst x) (h:cH E M d (.convert src dst x)=some (pre,out,kill)) (hp:bC pre):o.wp E.P a w K Q:=by
 obtain⟨hM,hB,hd,hdst⟩:=hC;simp only[cH]at h;split at h
 ·rename_i r v hr hx;cases h;have hx':a.eval x=v:=aW hM hx;have h1:=hp.1 w;refine aX hd hdst (.im r) ?_ hK;simp[execOp,ho,hx',h1,AV.den]
 ·cases h
theorem ZQ {fn:Fn} {first captured:Array Operand} (ho:o.op=.makeFunc fn first captured) (h:cH E M d (.makeFunc fn first captured)=some (pre,out,kill)):o.wp E.P a w K Q:=by
 obtain⟨hM,hB,hd,hdst⟩:=hC;simp only[cH]at h;split at h
 ·rename_i id;cases hb:Nat.beq first.size 0<;>rw[hb]at h
  ·cases h
  ·simp only[cond_true]at h;have z1:first = #[]:=Array.size_eq_zero_iff.1 (Nat.eq_of_beq_eq_true hb);subst z1;split at h
   ·rename_i l hl;split at h
    ·rename_i vs hv;cases h;have hargs:=AZ hM hl;rw[DH hM hv]at hargs;have ea:captured.map a.eval=vs.toArray:=by rw[←Array.toArray_toList (xs:=captured.map a.eval),Array.toList_map,hargs]
     refine aX hd hdst (.im (.func (.func id) #[] vs.toArray)) ?_ hK;simp[execOp,ho,Instr.makeFunc,ea,AV.den]
    ·cases h
   ·cases h
 ·cases h
theorem SX {t:TypeId} {x y:Operand} (ho:o.op=.makeSlice t x y) (h:cH E M d (.makeSlice t x y)=some (pre,out,kill)) (hp:bC pre):o.wp E.P a w K Q:=by
 obtain⟨hM,hB,hd,hdst⟩:=hC;simp only[cH]at h;split at h
 ·rename_i n L v u hm hx hy;cases h;have hx':a.eval x=v:=aW hM hx;have hy':a.eval y=u:=aW hM hy;obtain⟨e,he⟩:=hp.1;have h1:=he w;refine UW hB hd hdst _ _ e ?_ hK;simp[execOp,ho,hx',hy',h1,AV.den,cG]
 ·cases h
theorem aEg {s:TypeId} {x:Operand} {i:Nat} (ho:o.op=.fieldAddr s x i) (h:cH E M d (.fieldAddr s x i)=some (pre,out,kill)):o.wp E.P a w K Q:=by
 obtain⟨hM,hB,hd,hdst⟩:=hC;simp only[cH]at h;split at h
 ·rename_i k j fs hx hu;split at h
  ·rename_i f hf;split at h
   ·rename_i n hn;cases hb:Nat.beq n 0<;>rw[hb]at h
    ·cases h;refine aX hd hdst _ ?_ hK;have hx':a.eval x=.pointer (some ⟨(β k).1,(β k).2.1+j,none⟩):=aW hM hx;have hz:n≠0:=fun e=>by rw[e]at hb; cases hb
     simp[execOp,ho,hx',Instr.fieldAt,run_underlying hu,hf,Instr.sureAddr,fieldPlace,cE hn,hz,AV.den,Addr.add_mid,Nat.add_assoc]
    ·cases h
   ·cases h
  ·cases h
 ·rename_i b j fs hx hu;split at h
  ·rename_i f hf;split at h
   ·rename_i n hn;cases hb:Nat.beq n 0<;>rw[hb]at h
    ·cases h;refine aX hd hdst _ ?_ hK;have hx':a.eval x=.pointer (some ⟨b,j,none⟩):=aW hM hx;have hz:n≠0:=fun e=>by rw[e]at hb; cases hb
     simp[execOp,ho,hx',Instr.fieldAt,run_underlying hu,hf,Instr.sureAddr,fieldPlace,cE hn,hz,AV.den,Addr.add_mid,Nat.add_assoc]
    ·cases h
   ·cases h
  ·cases h
 ·cases h
theorem SY {t:TypeId} {x y:Operand} (ho:o.op=.indexAddr t x y) (h:cH E M d (.indexAddr t x y)=some (pre,out,kill)) (hp:bC pre):o.wp E.P a w K Q:=by
 obtain⟨hM,hB,hd,hdst⟩:=hC;simp only[cH]at h;split at h
 ·rename_i i hidx;split at h
  ·rename_i k j kd q n e hx hy hu;have hx':a.eval x=.pointer (some ⟨(β k).1,(β k).2.1+j,none⟩):=aW hM hx;have hy':a.eval y=.int kd q:=aW hM hy;split at h
   ·rename_i s hs;cases h;obtain⟨rfl,hi,_⟩:=hp;refine aX hd hdst _ ?_ hK;simp[execOp,ho,hx',hy',Instr.indexAt,asIntOf,run_underlying hu,Instr.sureAddr,cE hs,hi,AV.den,Addr.add_mid,Nat.add_assoc]
   ·cases h
  ·rename_i k j n m kd q e hx hy hu;have hx':a.eval x=.slice (some ⟨(β k).1,(β k).2.1+j,none⟩) n m:=aW hM hx;have hy':a.eval y=.int kd q:=aW hM hy;split at h
   ·rename_i s hs;cases h;obtain⟨rfl,hi,_⟩:=hp;refine aX hd hdst _ ?_ hK;simp[execOp,ho,hx',hy',Instr.indexAt,asIntOf,run_underlying hu,Instr.sureAddr,cE hs,hi,AV.den,Addr.add_mid,Nat.add_assoc]
   ·cases h
  ·rename_i b j kd q n e hx hy hu;have hx':a.eval x=.pointer (some ⟨b,j,none⟩):=aW hM hx;have hy':a.eval y=.int kd q:=aW hM hy;split at h
   ·rename_i s hs;cases h;obtain⟨rfl,hi,_⟩:=hp;refine aX hd hdst _ ?_ hK;simp[execOp,ho,hx',hy',Instr.indexAt,asIntOf,run_underlying hu,Instr.sureAddr,cE hs,hi,AV.den,Addr.add_mid,Nat.add_assoc]
   ·cases h
  ·rename_i b j n m kd q e hx hy hu;have hx':a.eval x=.slice (some ⟨b,j,none⟩) n m:=aW hM hx;have hy':a.eval y=.int kd q:=aW hM hy;split at h
   ·rename_i s hs;cases h;obtain⟨rfl,hi,_⟩:=hp;refine aX hd hdst _ ?_ hK;simp[execOp,ho,hx',hy',Instr.indexAt,asIntOf,run_underlying hu,Instr.sureAddr,cE hs,hi,AV.den,Addr.add_mid,Nat.add_assoc]
   ·cases h
  ·cases h
 split at h
 ·rename_i k j kd i hx hy;have hx':a.eval x=.pointer (some ⟨(β k).1,(β k).2.1+j,none⟩):=aW hM hx;have hy':a.eval y=.int kd (Int.ofNat i):=aW hM hy;split at h
  ·rename_i n e hu;split at h
   ·rename_i s hs;cases hb:Nat.blt i n<;>rw[hb]at h
    ·cases h
    ·cases h;have hi:i<n:=by simpa using hb
     refine aX hd hdst _ ?_ hK;simp[execOp,ho,hx',hy',Instr.indexAt,asIntOf,run_underlying hu,Instr.sureAddr,cE hs,hi,AV.den,Addr.add_mid,Nat.add_assoc]
   ·cases h
  ·cases h
 ·rename_i k j n m kd i hx hy;have hx':a.eval x=.slice (some ⟨(β k).1,(β k).2.1+j,none⟩) n m:=aW hM hx;have hy':a.eval y=.int kd (Int.ofNat i):=aW hM hy;split at h
  ·rename_i e hu;split at h
   ·rename_i s hs;cases hb:Nat.blt i n<;>rw[hb]at h
    ·cases h
    ·cases h;have hi:i<n:=by simpa using hb
     refine aX hd hdst _ ?_ hK;simp[execOp,ho,hx',hy',Instr.indexAt,asIntOf,run_underlying hu,Instr.sureAddr,cE hs,hi,AV.den,Addr.add_mid,Nat.add_assoc]
   ·cases h
  ·cases h
 ·rename_i k n kd i hx hy;have hx':a.eval x=.slice (some ⟨(β k).1,(β k).2.1,none⟩) n (β k).2.2:=aW hM hx;have hy':a.eval y=.int kd (Int.ofNat i):=aW hM hy;split at h
  ·rename_i e hu;split at h
   ·rename_i s hs;cases hb:Nat.blt i n<;>rw[hb]at h
    ·cases h
    ·cases h;have hi:i<n:=by simpa using hb
     refine aX hd hdst _ ?_ hK;simp[execOp,ho,hx',hy',Instr.indexAt,asIntOf,run_underlying hu,Instr.sureAddr,cE hs,hi,AV.den,Addr.add_mid,Nat.add_assoc]
   ·cases h
  ·cases h
 ·cases h
theorem aEe {t:TypeId} {x y:Operand} (ho:o.op=.index t x y) (h:cH E M d (.index t x y)=some (pre,out,kill)) (hp:bC pre):o.wp E.P a w K Q:=by
 obtain⟨hM,hB,hd,hdst⟩:=hC;simp only[cH]at h;split at h
 ·rename_i v hg;split at h
  ·rename_i l kd i n e hx hy hu;have hx':a.eval x=.agg (aA l).toArray:=aW hM hx;have hy':a.eval y=.int kd (Int.ofNat i):=aW hM hy;split at h
   ·rename_i hs;cases hb:pJ E.P e<;>rw[hb]at h
    ·cases h
    ·cases h;obtain⟨hi,hv,_⟩:=hp;have hagg:(isAgg e).run E.P w=.ok false w:=sJ w hb;have hc:=mT hv;refine aX hd hdst (.im v) ?_ hK;simp[execOp,ho,hx',hy',Instr.index,asIntOf,run_underlying hu,cE hs,hi,part,hagg,AV.den,hc]
   ·cases h
  ·cases h
 split at h
 ·rename_i l kd i hx hy;have hx':a.eval x=.agg (aA l).toArray:=aW hM hx;have hy':a.eval y=.int kd (Int.ofNat i):=aW hM hy;split at h
  ·rename_i n e hu;split at h
   ·rename_i s hs ht;cases hb:Nat.blt i n<;>rw[hb]at h
    ·cases h
    ·simp only[cond_true]at h;split at h
     ·rename_i r hr;cases h;have hi:i<n:=by simpa using hb
      obtain⟨ds,hu2,hd'⟩:=mQ ht;have hagg:(isAgg e).run E.P w=.ok true w:=by
       unfold isAgg;rw[Sem.run_bind,run_underlying hu2 w];cases ds<;>simp_all
      obtain⟨p,r',e1,hp,hr'⟩:=zK hr;have hex:List.take s (List.drop (i*s) (aA l))=aA r:=by
       rw[e1,aT,aT];rw[List.drop_append,aZ,hp];simp only[Nat.sub_self,List.drop_zero];rw[List.drop_of_length_le (by rw[aZ,hp]; omega),List.nil_append,List.take_append_of_le_length (by rw[aZ,hr']; omega),List.take_of_length_le (by rw[aZ,hr']; omega)]
      refine aX hd hdst _ ?_ hK;simp[execOp,ho,hx',hy',Instr.index,asIntOf,run_underlying hu,cE hs,hi,part,hagg,AV.den,hex]
     ·cases h
   ·rename_i hs ht;cases hb:(pJ E.P e&&Nat.blt i n)<;>rw[hb]at h
    ·cases h
    ·simp only[cond_true]at h;rw[Bool.and_eq_true]at hb;split at h
     ·rename_i v hv;cases h;have hi:i<n:=by simpa using hb.2
      have hagg:(isAgg e).run E.P w=.ok false w:=sJ w hb.1;have hc:=mT hv;refine aX hd hdst _ ?_ hK;simp[execOp,ho,hx',hy',Instr.index,asIntOf,run_underlying hu,cE hs,hi,part,hagg,AV.den,hc]
     ·cases h
   ·cases h
  ·cases h
 ·cases h
theorem Je {t:TypeId} {x:Operand} {i:Nat} (ho:o.op=.field t x i) (h:cH E M d (.field t x i)=some (pre,out,kill)):o.wp E.P a w K Q:=by
 obtain⟨hM,hB,hd,hdst⟩:=hC;simp only[cH]at h;split at h
 ·rename_i l fs hx hu;have hx':a.eval x=.agg (aA l).toArray:=aW hM hx;split at h
  ·rename_i f hf;split at h
   ·rename_i s hs ht;split at h
    ·rename_i r hr;cases h;obtain⟨ds,hu2,hd'⟩:=mQ ht;have hagg:(isAgg f.type).run E.P w=.ok true w:=by
      unfold isAgg;rw[Sem.run_bind,run_underlying hu2 w];cases ds<;>simp_all
     obtain⟨p,r',e1,hp,hr'⟩:=zK hr;have hex:List.take s (List.drop f.offset (aA l))=aA r:=by
      rw[e1,aT,aT];rw[List.drop_append,aZ,hp];simp only[Nat.sub_self,List.drop_zero];rw[List.drop_of_length_le (by rw[aZ,hp]; omega),List.nil_append,List.take_append_of_le_length (by rw[aZ,hr']; omega),List.take_of_length_le (by rw[aZ,hr']; omega)]
     refine aX hd hdst _ ?_ hK;simp[execOp,ho,hx',Instr.field,asAgg,run_underlying hu,hf,cE hs,part,hagg,AV.den,hex]
    ·cases h
   ·rename_i hs ht;cases hb:pJ E.P f.type<;>rw[hb]at h
    ·cases h
    ·simp only[cond_true]at h;split at h
     ·rename_i v hv;cases h;have hagg:(isAgg f.type).run E.P w=.ok false w:=sJ w hb;have hc:=mT hv;refine aX hd hdst _ ?_ hK;simp[execOp,ho,hx',Instr.field,asAgg,run_underlying hu,hf,cE hs,part,hagg,AV.den,hc]
     ·cases h
   ·cases h
  ·cases h
 ·cases h
theorem Jf {x:Operand} {i:Nat} (ho:o.op=.extract x i) (h:cH E M d (.extract x i)=some (pre,out,kill)):o.wp E.P a w K Q:=by
 obtain⟨hM,hB,hd,hdst⟩:=hC;simp only[cH]at h;split at h
 ·rename_i l hx;split at h
  ·rename_i t ht;cases h;have hx':a.eval x=.tuple (l.map TV.den).toArray:=aW hM hx;refine aX hd hdst _ ?_ hK;simp[execOp,ho,hx',Instr.extract,ht,TV.av_den]
  ·cases h
 ·rename_i k n m post hx;have hx':a.eval x=.tuple (.slice (some ⟨(β k).1,(β k).2.1,none⟩) n m::post.map TV.den).toArray:=aW hM hx;cases i with
  | zero =>
   cases h;refine aX hd hdst _ ?_ hK;simp[execOp,ho,hx',Instr.extract,AV.den]
  | succ i =>
   simp only at h;split at h
   ·rename_i t ht;cases h;refine aX hd hdst _ ?_ hK;simp[execOp,ho,hx',Instr.extract,ht,TV.av_den]
   ·cases h
 ·rename_i k n ante post hx;have hx':a.eval x=.tuple (ante.map TV.den ++ .slice (some ⟨(β k).1,(β k).2.1,none⟩) n (β k).2.2::post.map TV.den).toArray:=aW hM hx;cases hb:Nat.blt i ante.length<;>rw[hb]at h
  ·simp only[cond_false]at h;have hge:ante.length≤i:=by
    rcases Nat.lt_or_ge i ante.length with q|q
    ·have:Nat.blt i ante.length=true:=by simpa using q
     rw[hb]at this; cases this
    ·exact q
   cases hb2:Nat.beq i ante.length<;>rw[hb2]at h
   ·simp only[cond_false]at h;split at h
    ·rename_i t ht;cases h;have hne:i≠ante.length:=fun e=>by rw[e]at hb2; simp at hb2
     refine aX hd hdst _ ?_ hK;have hget:(ante.map TV.den ++ .slice (some ⟨(β k).1,(β k).2.1,none⟩) n (β k).2.2::post.map TV.den)[i]?=some t.den:=by
      rw[List.getElem?_append_right (by rw[List.length_map]; exact hge),List.length_map];obtain⟨m,hm⟩:∃m,i-ante.length=m+1:=⟨i-ante.length-1,by omega⟩
      rw[hm]at ht ⊢;rw[List.getElem?_cons_succ,List.getElem?_map];rw[Nat.add_sub_cancel]at ht;rw[ht]; rfl
     simp only[execOp,ho,hx',Instr.extract];simp only[List.getElem?_toArray,hget];simp[TV.av_den]
    ·cases h
   ·cases h;have he:=Nat.eq_of_beq_eq_true hb2;refine aX hd hdst _ ?_ hK;have hget:(ante.map TV.den ++ .slice (some ⟨(β k).1,(β k).2.1,none⟩) n (β k).2.2::post.map TV.den)[i]?=some (.slice (some ⟨(β k).1,(β k).2.1,none⟩) n (β k).2.2):=by
     rw[List.getElem?_append_right (by rw[List.length_map]; exact hge),List.length_map,he,Nat.sub_self];rfl
    simp only[execOp,ho,hx',Instr.extract];simp only[List.getElem?_toArray,hget];simp[AV.den]
  ·simp only[cond_true]at h;split at h
   ·rename_i t ht;cases h;have hlt:i<ante.length:=by simpa using hb
    refine aX hd hdst _ ?_ hK;have hget:(ante.map TV.den ++ .slice (some ⟨(β k).1,(β k).2.1,none⟩) n (β k).2.2::post.map TV.den)[i]?=some t.den:=by
     rw[List.getElem?_append_left (by rw[List.length_map]; exact hlt),List.getElem?_map,ht]; rfl
    simp only[execOp,ho,hx',Instr.extract];simp only[List.getElem?_toArray,hget];simp[TV.av_den]
   ·cases h
 ·cases h
theorem aEd {t:TypeId} {x:Operand} {lo hi mx:Option Operand} (ho:o.op=.slice t x lo hi mx) (h:cH E M d (.slice t x lo hi mx)=some (pre,out,kill)) (hp:bC pre):o.wp E.P a w K Q:=by
 obtain⟨hM,hB,hd,hdst⟩:=hC;cases lo with
 | some y =>
  cases hi with
  | none=>simp only[cH]at h; cases h
  | some y2 =>
  cases mx with
  | some _=>simp only[cH]at h; cases h
  | none =>
  simp only[cH]at h;split at h
  ·rename_i k q n m kd1 i kd2 j e hx hlo hhi hu;split at h
   ·rename_i sz hs;cases h;obtain⟨g1,g2,g3,_⟩:=hp;have hx':a.eval x=.slice (some ⟨(β k).1,(β k).2.1+q,none⟩) n m:=aW hM hx;have hl':a.eval y=.int kd1 (Int.ofNat i):=aW hM hlo;have hh':a.eval y2=.int kd2 (Int.ofNat j):=aW hM hhi;have hmi:¬m=i:=by omega
    refine aX hd hdst _ ?_ hK;simp[execOp,ho,hx',hl',hh',Instr.sliceAt,Instr.slice,run_underlying hu,Instr.sliceBounds,Instr.sliceBound,asIntOf,cE hs,AV.den,Addr.add_mid,Nat.add_assoc,g1,g2,hmi]
   ·cases h
  ·cases h
 | none =>
 cases mx with
 | some _=>simp only[cH]at h; cases h
 | none =>
 simp only[cH]at h;split at h
 ·rename_i k j n e hx hu;have hx':a.eval x=.pointer (some ⟨(β k).1,(β k).2.1+j,none⟩):=aW hM hx;split at h
  ·rename_i s hs;cases hi with
   | none =>
    cases h;refine aX hd hdst _ ?_ hK
    by_cases hn:n=0<;>simp[execOp,ho,hx',Instr.sliceAt,Instr.sureAddr,run_underlying hu,Instr.sliceBounds,cE hs,AV.den,Addr.add_mid,hn]
   | some y =>
    simp only at h;split at h
    ·rename_i kd i hy;have hy':a.eval y=.int kd (Int.ofNat i):=aW hM hy;cases hb:Nat.ble i n<;>rw[hb]at h
     ·cases h
     ·cases h;have hi:i≤n:=by simpa using hb
      refine aX hd hdst _ ?_ hK
      by_cases hn:n=0
      ·subst hn;have hi0:i=0:=Nat.le_zero.1 hi;subst hi0;simp[execOp,ho,hx',hy',Instr.sliceAt,Instr.sureAddr,run_underlying hu,Instr.sliceBounds,Instr.sliceBound,asIntOf,cE hs,AV.den,Addr.add_mid,hi]
      ·simp[execOp,ho,hx',hy',Instr.sliceAt,Instr.sureAddr,run_underlying hu,Instr.sliceBounds,Instr.sliceBound,asIntOf,cE hs,AV.den,Addr.add_mid,hn,hi]
    ·cases h
  ·cases h
 ·cases h
theorem aLN {op:UnOp} {t:TypeId} {x:Operand} (ho:o.op=.unOp op t x) (h:cH E M d (.unOp op t x)=some (pre,out,kill)) (hp:bC pre):o.wp E.P a w K Q:=by
 obtain⟨hM,hB,hd,hdst⟩:=hC;simp only[cH]at h;split at h
 ·rename_i r hr;split at h
  ·rename_i v hx;cases h;have hx':a.eval x=v:=aW hM hx;have h1:=hp.1 w;refine aX hd hdst (.im r) ?_ hK;simp[execOp,ho,hx',h1,AV.den]
  ·cases h
 split at h
 ·rename_i b hb;have hb':a.eval x=.bool b:=aW hM hb;have hrun:(execOp a.eval o).run E.P w=.ok (.value (.bool (!b))) w:=by simp[execOp,ho,hb',Op.unary]
  split at h
  ·rename_i v hv;cases h;exact aX hd hdst (.im v) (by rw[show AV.den β (.im v)=v from rfl,←hp.1]; exact hrun) hK
  ·cases h;exact aX hd hdst (.im (.bool (!b))) hrun hK
 ·cases h
theorem aEi {op:BinOp} {t t2:TypeId} {x y:Operand} (hq:SB E.P E.q) (ho:o.op=.binOp op t x y t2) (h:cH E M d (.binOp op t x y t2)=some (pre,out,kill)) (hp:bC pre):o.wp E.P a w K Q:=by
 obtain⟨hM,hB,hd,hdst⟩:=hC;replace hq:SB E.P E.q:=hq;simp only[cH]at h;split at h
 ·rename_i r hr;split at h
  ·rename_i v u hx hy;cases h;have hx':a.eval x=v:=aW hM hx;have hy':a.eval y=u:=aW hM hy;have h1:=hp.1 w;refine aX hd hdst (.im r) ?_ hK;simp only[execOp,ho,hx',hy',AV.den];rw[Sem.run_bind,h1];rfl
  ·cases h
 split at h
 ·rename_i v u hx hy;have hx':=aW hM hx;have hy':=aW hM hy;unfold bEd at h;split at h
  ·rename_i k p k' q;split at h
   ·rename_i hk;subst hk;have hfin:∀r,aI op k p q=some r→(execOp a.eval o).run E.P w=.ok (.value r) w:=fun r hr=>by
     simp only[AV.den]at hx' hy';cases op<;>simp only[aI]at hr<;>first|(cases hr; done)|skip
     all_goals first
      | (cases hr; simp[execOp,ho,hx',hy',eqGuard,binOp,Op.intArith,Op.intCmp]; done)
      | (by_cases hz:q=0; (rw[if_pos hz]at hr; cases hr); rw[if_neg hz]at hr; cases hr; simp[execOp,ho,hx',hy',eqGuard,binOp,Op.intDiv,hz])
    split at h
    ·rename_i r hr;cases h;exact aX hd hdst (.im r) (hfin r hp.1) hK
    ·split at h
     ·rename_i r hr;cases h;exact aX hd hdst (.im r) (hfin r hr) hK
     ·cases h
   ·cases h
  ·rename_i p q;simp only[AV.den]at hx' hy';split at h
   ·rename_i hu;cases op<;>simp only at h<;>first|(cases h; done)|skip
    all_goals cases h
    ·refine aX hd hdst (.im (.bool (p==q))) ?_ hK;simp[execOp,ho,hx',hy',eqGuard,binOp,run_equal_bool w t p q hu,AV.den]
    ·refine aX hd hdst (.im (.bool (p != q))) ?_ hK;simp[execOp,ho,hx',hy',eqGuard,binOp,run_equal_bool w t p q hu,AV.den];cases p<;>cases q<;>rfl
   ·cases h
  ·rename_i l m;simp only[AV.den]at hx' hy';cases hN:(E.q.fit t l&&E.q.fit t m)<;>rw[hN]at h
   ·cases h
   ·simp only[cond_true]at h;rw[Bool.and_eq_true]at hN;cases hh:E.hint d<;>rw[hh]at h<;>simp only[cond_true,cond_false]at h
    ·split at h
     ·rename_i n hn;cases hb:(Nat.beq (dF l) n&&Nat.beq (dF m) n)<;>rw[hb]at h
      ·cases h
      ·simp only[cond_true]at h;rw[Bool.and_eq_true]at hb;obtain⟨hg,he⟩:=hq.2 t n hn;have he':=he l m w (Nat.eq_of_beq_eq_true hb.1) (Nat.eq_of_beq_eq_true hb.2) hN.1 hN.2;cases op<;>simp only at h<;>first|(cases h; done)|skip
       all_goals cases h
       all_goals refine aX hd hdst _ ?_ hK
       all_goals simp only[execOp,ho,hx',hy',Sem.run_bind,run_eqGuard_agg w _ t x y _ _ hg,run_eql_struct,run_neq_struct,Result.andThen_ok,Sem.run_pure,AV.den]
       ·rw[he' hp.1]; rfl
       ·rw[he' hp.1]; rfl
     ·cases h
    ·split at h
     ·rename_i n hn;cases hb:(Nat.beq (dF l) n&&Nat.beq (dF m) n)<;>rw[hb]at h
      ·cases h
      ·simp only[cond_true]at h;rw[Bool.and_eq_true]at hb;obtain⟨hg,he⟩:=hq.1 t n hn;have he':=he l w (Nat.eq_of_beq_eq_true hb.1) hN.1;cases op<;>simp only at h<;>first|(cases h; done)|skip
       all_goals cases h
       all_goals refine aX hd hdst _ ?_ hK
       all_goals have hp1:=hp.1
       all_goals simp only[execOp,ho,hx',hy',←hp1,Sem.run_bind,run_eqGuard_agg w _ t x y _ _ hg,run_eql_struct,run_neq_struct,Result.andThen_ok,Sem.run_pure,AV.den]
       ·rw[he']; rfl
       ·rw[he']; rfl
     ·cases h
  ·cases h
 ·cases h
theorem aLR {c:Call} (hT:∀d,Yb E.P (E.T d) w) (hX:Hz E.P E.q.x w) (ho:o.op=.call c) (h:cH E M d (.call c)=some (pre,out,kill)) (hp:bC pre):o.wp E.P a w K Q:=by
 obtain⟨hM,hB,hd,hdst⟩:=hC;simp only[cH]at h;split at h
 ·rename_i hc;split at h
  ·rename_i x t hx ht;split at h
   ·rename_i k j n m e hx1 hu;cases h;have hx':a.eval x=.slice (some ⟨(β k).1,(β k).2.1+j,none⟩) n m:=aW hM hx1;have e1:c.args = #[x]:=by rw[←Array.toArray_toList (xs:=c.args),hx]
    have e2:c.argTypes = #[t]:=by rw[←Array.toArray_toList (xs:=c.argTypes),ht]
    refine aX hd hdst _ ?_ hK;simp[execOp,ho,resolve,hc,e1,e2,invoke,builtin,hx',Builtin.len_,run_underlying hu,AV.den]
   ·rename_i p n m e hx1 hu;cases h;have hx':a.eval x=.slice p n m:=aW hM hx1;have e1:c.args = #[x]:=by rw[←Array.toArray_toList (xs:=c.args),hx]
    have e2:c.argTypes = #[t]:=by rw[←Array.toArray_toList (xs:=c.argTypes),ht]
    refine aX hd hdst _ ?_ hK;simp[execOp,ho,resolve,hc,e1,e2,invoke,builtin,hx',Builtin.len_,run_underlying hu,AV.den]
   ·rename_i k n e hx1 hu;cases h;have hx':a.eval x=.slice (some ⟨(β k).1,(β k).2.1,none⟩) n (β k).2.2:=aW hM hx1;have e1:c.args = #[x]:=by rw[←Array.toArray_toList (xs:=c.args),hx]
    have e2:c.argTypes = #[t]:=by rw[←Array.toArray_toList (xs:=c.argTypes),ht]
    refine aX hd hdst _ ?_ hK;simp[execOp,ho,resolve,hc,e1,e2,invoke,builtin,hx',Builtin.len_,run_underlying hu,AV.den]
   ·cases h
  ·cases h
 ·rename_i hc;split at h
  ·rename_i x y t t' hx ht;cases htt:Nat.beq t t'<;>rw[htt]at h
   ·cases h
   ·simp only[cond_true]at h;cases Nat.eq_of_beq_eq_true htt;split at h
    ·rename_i u v e sz by8 hx1 hy1 hT1;split at h
     ·rename_i m news n l kl hS hD;cases hb:(news.all cOk&&(Nat.blt 0 m&&(Nat.ble ((n+m)*by8) 140737488355328&&Nat.ble (n+m) 4611686018427387904)))<;>rw[hb]at h
      ·cases h
      ·cases h;simp only[Bool.and_eq_true,Nat.blt_eq,Nat.ble_eq]at hb;obtain⟨hone,h0,hby,hmx⟩:=hb;have hx':=aW hM hx1;have hy':=aW hM hy1;obtain⟨bs,os',cs',hden,hrng,hsz⟩:=aKp hM hS;rw[hden]at hy';have e1:c.args = #[x,y]:=by rw[←Array.toArray_toList (xs:=c.args),hx]
       have e2:c.argTypes = #[t,t]:=by rw[←Array.toArray_toList (xs:=c.argTypes),ht]
       have hone':∀v∈aA news,v.oneCell'=true:=DN hone
       have hnews:∀j v,(aA news)[j]?=some v→w.cell? ((⟨bs,os',none⟩:Addr).add j)=some v:=fun j v hj=>by
        rw[Addr.add_mid]; exact hrng j v hj
       have hcase:((a.eval x=.slice none 0 0∧n=0∧aA l=[])∧kill=none)∨∃k l0,kill=some k∧u=.so k n∧Fact.row k true l0∈M∧l0=l∧base≤(β k).1∧a.eval x=.slice (some ⟨(β k).1,0,none⟩) n (β k).2.2∧AppAt w (β k).1 e sz n (β k).2.2∧w.rangeAt (β k).1 0 (aA l)∧(aA l).length=n*sz:=by
        unfold apD at hD;split at hD
        ·cases hD;exact Or.inl ⟨⟨hx',rfl,rfl⟩,rfl⟩
        ·rename_i k n';split at hD
         ·rename_i l' e' sz' n2 hr ha;cases hq:(Nat.beq e e'&&(Nat.beq sz sz'&&(Nat.beq n' n2&&Nat.beq (dF l') (n'*sz))))<;>rw[hq]at hD
          ·cases hD
          ·cases hD;simp only[Bool.and_eq_true]at hq;obtain⟨q1,q2,q3,q4⟩:=hq;cases Nat.eq_of_beq_eq_true q1;cases Nat.eq_of_beq_eq_true q2;cases Nat.eq_of_beq_eq_true q3;obtain⟨g1,g2,g3,_⟩:=hM _ (bV hr);obtain⟨g4,g5,g6⟩:=g3 rfl;have ga:=hM _ (oA ha);simp only[Fact.ok]at ga;refine Or.inr ⟨k,l,rfl,rfl,bV hr,rfl,g4,?_,ga,by rw[←g5]; exact g2,by rw[aZ]; exact Nat.eq_of_beq_eq_true q4⟩;rw[hx'];simp only[AV.den,g5]
         ·cases hD
        ·cases hD
       have hu:(a.eval x=.slice none 0 0∧n=0∧aA l=[])∨∃b cap,a.eval x=.slice (some ⟨b,0,none⟩) n cap∧AppAt w b e sz n cap∧w.rangeAt b 0 (aA l)∧(aA l).length=n*sz:=by
        rcases hcase with⟨h,_⟩|⟨k,l0,_,_,_,_,_,h1,h2,h3,h4⟩
        ·exact Or.inl h
        ·exact Or.inr ⟨_,_,h1,h2,h3,h4⟩
       obtain⟨b,cap,w',hr,a1,a2,a3,a4,a5,a6,a7⟩:=aFb (P:=E.P) w (ty:=o.type) hT1 hu (by rw[aZ]; exact hsz) hnews hone' h0 hby (by simp only[maxLen]; omega) (c:=cs');have hrun:(execOp a.eval o).run E.P w=.ok (.value (.slice (some ⟨b,0,none⟩) (n+m) cap)) w':=by
        unfold execOp;simp only[ho,resolve,hc,e1,e2,invoke,builtin,Sem.run_bind,Sem.run_pure,Result.andThen_ok,List.map_toArray,List.map_cons,List.map_nil,hy',hr]
       refine IR hrun ?_;rw[hdst];refine hK _ _ _ (aFW (L:=l++news) (row:=(a.eval x).ownBlock) hd hB a1 a2 (by rw[aT]; exact a3) a4 a5 a6 ?_)
       rcases hcase with⟨⟨h1,_⟩,h2⟩|⟨k,l0,hk,_,hm,rfl,hb,h1,_⟩
       ·refine Or.inl ⟨h2,by rw[h1]; rfl,?_⟩
        rcases a7 with h|⟨c0,h⟩
        ·exact h
        ·rw[h1]at h; cases h
       ·refine Or.inr ⟨k,_,hk,by rw[h1]; rfl,hb,hm,?_⟩
        rcases a7 with h|⟨c0,h⟩
        ·exact Or.inl h
        ·rw[h1]at h; cases h; exact Or.inr rfl
     ·cases h
    ·cases h
  ·cases h
 ·rename_i hc;split at h
  ·rename_i x y hx;split at h
   ·rename_i k p k' q hx1 hy1;have hx':a.eval x=.int k p:=aW hM hx1;have hy':a.eval y=.int k' q:=aW hM hy1;have e1:c.args = #[x,y]:=by rw[←Array.toArray_toList (xs:=c.args),hx]
    have hrun:(execOp a.eval o).run E.P w=.ok (.value (.int k (if q>p then q else p))) w:=by
     simp[execOp,ho,resolve,hc,e1,invoke,builtin,hx',hy',Builtin.max_,Builtin.max2]
    split at h
    ·rename_i v hv;cases h;exact aX hd hdst (.im v) (by rw[show AV.den β (.im v)=v from rfl,←hp.1]; exact hrun) hK
    ·cases h;exact aX hd hdst (.im (.int k (if q>p then q else p))) hrun hK
   ·cases h
  ·cases h
 ·rename_i f hc;split at h
  ·rename_i id first captured hf;cases hb:Nat.beq first.size 0<;>rw[hb]at h
   ·cases h
   ·simp only[cond_true]at h;have z1:first = #[]:=Array.size_eq_zero_iff.1 (Nat.eq_of_beq_eq_true hb);subst z1;split at h
    ·rename_i l hl;split at h
     ·rename_i cs hcs;have hf':a.eval f=.func (.func id) #[] captured:=aW hM hf;have hargs:=AZ hM hl;have hcas:=yR hM hcs;have hcap:∀(cs:List CA) (vs:List Value) (us:List Value),bZ w cs vs→bZ w (cs++us.map fun v=>.v (.im v)) (vs++us):=fun cs=>by
       induction cs with
       | nil =>
        intro vs us h;cases vs with
        | cons _ _=>exact h.elim
        | nil =>
         induction us with
         | nil=>trivial
         | cons u us ih=>exact⟨rfl,ih⟩
       | cons c cs ih =>
        intro vs us h;cases vs with
        | nil=>cases c<;>exact h.elim
        | cons v vs=>cases c<;>exact⟨h.1,ih vs us h.2⟩
      have hcas':=hcap cs _ captured.toList hcas;have ea:c.args.map a.eval=(l.map (AV.den β)).toArray:=by rw[←Array.toArray_toList (xs:=c.args.map a.eval),Array.toList_map,hargs]
      have hrun:(∀args w,(callFunc id args).run E.P w=.ok (.enter id args) w)→(execOp a.eval o).run E.P w=.ok (.enter id (l.map (AV.den β)++captured.toList).toArray) w:=fun h1=>by
       have e3:(l.map (AV.den β)).toArray++captured=(l.map (AV.den β)++captured.toList).toArray:=by simp
       simp[execOp,ho,resolve,hc,Deferred.ofValue,hf',invoke,ea,h1]
      split at h
      ·rename_i pre' r hr;cases h;obtain⟨h1,h2⟩:=hT _ _ _ _ _ hr hp;have hcall:=h2 _ hcas';unfold Oper.wp;rw[hrun h1];refine Calls.mono hcall ?_
       rintro e w' ⟨rfl,hbl⟩
       show K _ _;rw[hdst,←RV.av_den β r];exact hK _ _ _ (CM r.av hd hB hbl)
      ·split at h
       ·rename_i pre' r hr;cases h;obtain⟨h1,h2⟩:=hX.2.1 _ _ _ _ hr hp;have hcall:=h2 _ hcas';unfold Oper.wp;rw[hrun h1];refine Calls.mono hcall ?_
        rintro e w' ⟨b,rfl,hbl,hb1,hb2,hb3,hb4⟩
        show K _ _;rw[hdst];exact hK _ _ _ (Nd r b hd hB hbl hb1 hb2 hb3 hb4)
       ·split at h
        ·rename_i pre' r hr;cases h;obtain⟨h1,h2⟩:=hX.2.2.1 _ _ _ _ hr hp;have hcall:=h2 _ hcas';unfold Oper.wp;rw[hrun h1];refine Calls.mono hcall ?_
         rintro e w' ⟨b,cap,rfl,hbl,hb1,hb2,hb3,hb4,hb5⟩
         show K _ _;rw[hdst];exact hK _ _ _ (Dy r b cap hd hB hbl hb1 hb2 hb3 hb4 hb5)
        ·split at h
         ·rename_i pre' j l' hr;have hw4:∀(k n m:Nat) (l0:List At) (v:AV),l[j]?=some v→v.den β=.slice (some ⟨(β k).1,(β k).2.1,none⟩) n m→(v=.so k n∨v=.sl k 0 n m)→gQ M k=some (true,l0)→k≠d→bC pre' →
            (∀β' a' w',PostB base β β' a w (some d) M [.slot d v,.row k true l'] (some k) a' w'→K a' w')→o.wp E.P a w K Q:=by
           intro k n m l0 v hv hden hvv hrow hkd hp' hK';obtain⟨h1,h2⟩:=hX.2.2.2.1 _ _ _ _ _ hr hp';obtain⟨r1,r2,r3,r4⟩:=hM _ (bV hrow);obtain⟨r5,r6,r7⟩:=r3 rfl;have hargj:(l.map (AV.den β)++captured.toList)[j]?=some (.slice (some ⟨(β k).1,(β k).2.1,none⟩) n m):=by
            have hlt:j<(l.map (AV.den β)).length:=by rw[List.length_map]; exact (List.getElem?_eq_some_iff.1 hv).1
            rw[List.getElem?_append_left hlt,List.getElem?_map,hv,←hden]; rfl
           have hcall:=h2 _ hcas' _ _ _ _ hargj r7;unfold Oper.wp;rw[hrun h1];refine Calls.mono hcall ?_
           rintro e w' ⟨rfl,hwr,hrg⟩
           show K _ _;rw[hdst];refine hK' β _ _ ⟨oL _ _ _,gS _ _ _,fun s hs=>oK _ _ _ _ hs,fun _ _=>rfl,hwr.size,fun p hp hne => ?_,hwr.shape,fun w0 h0 => ?_,fun φ hφ => ?_,fun k' l1 hk => ?_,fun k1 k2 l1 l2 hk hk' => ?_,fun k' hk => ?_⟩
           ·have:=hwr.block p.block hp (hne k rfl);exact⟨World.cell?_of_block this,World.frozen?_of_block this⟩
           ·exact h0.trans ⟨hwr.os,hwr.tape,hwr.output,hwr.size,fun q hq=>hwr.block q (by omega) (by omega)⟩
           ·simp only[List.mem_cons,List.not_mem_nil,or_false]at hφ
            rcases hφ with rfl|rfl
            ·show (a.put (some d) _).tmps[d]?=_;rw[kP _ _ _ hd,hden]
            ·exact⟨Nat.lt_of_lt_of_le r1 hwr.size,hrg,fun _=>⟨r5,r6,fun q=>by rw[hwr.frozen]; exact r7 q⟩,fun h=>by cases h⟩
           ·simp only[List.mem_cons,List.not_mem_nil,or_false,reduceCtorEq,false_or]at hk;cases hk;exact Or.inr (Or.inl ⟨fun e=>hkd (by injection e with e; exact e.symm),l0,bV hrow⟩)
           ·simp only[List.mem_cons,List.not_mem_nil,or_false,reduceCtorEq,false_or]at hk hk';cases hk; cases hk'; rfl
           ·cases hk;exact⟨l0,bV hrow⟩
          unfold wrA at h;split at h
          ·rename_i k n hv;split at h
           ·rename_i l0 hrow;cases hb : !(Nat.beq k d)<;>rw[hb]at h
            ·cases h
            ·cases h;have hkd:k≠d:=fun e=>by rw[e]at hb; simp at hb
             exact hw4 k n (β k).2.2 l0 _ hv rfl (Or.inl rfl) hrow hkd hp hK
           ·cases h
          ·rename_i k n m hv;split at h
           ·rename_i l0 hrow;cases hb : !(Nat.beq k d)<;>rw[hb]at h
            ·cases h
            ·cases h;have hkd:k≠d:=fun e=>by rw[e]at hb; simp at hb
             exact hw4 k n m l0 _ hv rfl (Or.inr rfl) hrow hkd hp hK
           ·cases h
          ·cases h
         ·split at h
          ·rename_i pre' j r l' hr;unfold wrP at h;split at h
           ·rename_i k i hv;split at h
            ·rename_i l0 hrow;cases hb : !(Nat.beq k d)<;>rw[hb]at h
             ·cases h
             ·cases h;have hkd:k≠d:=fun e=>by rw[e]at hb; simp at hb
              obtain⟨h1,h2⟩:=hX.2.2.2.2 _ _ _ _ _ _ hr hp;obtain⟨r1,r2,r3,r4⟩:=hM _ (bV hrow);obtain⟨r5,r6,r7⟩:=r3 rfl;have hargj:(l.map (AV.den β)++captured.toList)[j]?=some (.pointer (some ⟨(β k).1,i,none⟩)):=by
               have hlt:j<(l.map (AV.den β)).length:=by rw[List.length_map]; exact (List.getElem?_eq_some_iff.1 hv).1
               rw[List.getElem?_append_left hlt,List.getElem?_map,hv];simp[AV.den,r6]
              have hcall:=h2 _ hcas' _ _ hargj r7;unfold Oper.wp;rw[hrun h1];refine Calls.mono hcall ?_
              rintro e w' ⟨rfl,hwr,hrg⟩
              show K _ _;rw[hdst,←RV.av_den β r];refine hK β _ _ ⟨oL _ _ _,gS _ _ _,fun s hs=>oK _ _ _ _ hs,fun _ _=>rfl,hwr.below.size,fun p hp hne=>hwr.mem p hp (hne k rfl),hwr.shape,fun w0 h0=>h0.trans (hwr.below.mono r5),fun φ hφ => ?_,fun k' l1 hk => ?_,fun k1 k2 l1 l2 hk hk' => ?_,fun k' hk => ?_⟩
              ·simp only[List.mem_cons,List.not_mem_nil,or_false]at hφ
               rcases hφ with rfl|rfl
               ·show (a.put (some d) _).tmps[d]?=_;rw[kP _ _ _ hd]
               ·exact⟨Nat.lt_of_lt_of_le r1 hwr.below.size,by rw[r6]; exact hrg,fun _=>⟨r5,r6,hwr.free⟩,fun h=>by cases h⟩
              ·simp only[List.mem_cons,List.not_mem_nil,or_false,reduceCtorEq,false_or]at hk;cases hk;exact Or.inr (Or.inl ⟨fun e=>hkd (by injection e with e; exact e.symm),l0,bV hrow⟩)
              ·simp only[List.mem_cons,List.not_mem_nil,or_false,reduceCtorEq,false_or]at hk hk';cases hk; cases hk'; rfl
              ·cases hk;exact⟨l0,bV hrow⟩
            ·cases h
           ·cases h
          ·cases h
     ·cases h
    ·cases h
  ·cases h
 ·rename_i x name hc;split at h
  ·rename_i t l0 hx;split at h
   ·rename_i id hid;split at h
    ·rename_i l hl;split at h
     ·rename_i cs hcs;split at h
      ·rename_i pre' r hr;cases h;obtain⟨h1,h2⟩:=hT _ _ _ _ _ hr hp;have hx':a.eval x=.iface t (.agg (aA l0).toArray):=aW hM hx;have hargs:=AZ hM hl;have hcas:=yR hM hcs;have hcall:=h2 (.agg (aA l0).toArray::l.map (AV.den β)) ⟨rfl,hcas⟩;have ea:c.args.map a.eval=(l.map (AV.den β)).toArray:=by rw[←Array.toArray_toList (xs:=c.args.map a.eval),Array.toList_map,hargs]
       unfold Oper.wp;have hen:∀xs,(callFunc id xs).run E.P w=.ok (.enter id xs) w:=fun xs=>h1 xs w
       have hmt:=Lm w hid (.agg (aA l0).toArray) (l.map (AV.den β)).toArray hen;have hrun:(execOp a.eval o).run E.P w=.ok (.enter id (#[.agg (aA l0).toArray]++(l.map (AV.den β)).toArray)) w:=by
        have hex:(#[Value.iface t (.agg (aA l0).toArray)]++(l.map (AV.den β)).toArray).extract 1 (#[Value.iface t (.agg (aA l0).toArray)]++(l.map (AV.den β)).toArray).size=(l.map (AV.den β)).toArray:=by simp[List.take_of_length_le]
        have hg0:(#[Value.iface t (.agg (aA l0).toArray)]++(l.map (AV.den β)).toArray)[0]?=some (Value.iface t (.agg (aA l0).toArray)):=by simp
        simp only[execOp,ho,resolve,hc,ea,hx',Sem.run_bind,Sem.run_pure,Result.andThen_ok,invoke,hg0,hex];exact hmt
       rw[hrun];have e2:(#[Value.agg (aA l0).toArray]++(l.map (AV.den β)).toArray)=(Value.agg (aA l0).toArray::l.map (AV.den β)).toArray:=by simp
       rw[e2];refine Calls.mono hcall ?_
       rintro e w' ⟨rfl,hbl⟩
       show K _ _;rw[hdst,←RV.av_den β r];exact hK _ _ _ (CM r.av hd hB hbl)
      ·cases h
     ·cases h
    ·cases h
   ·cases h
  ·cases h
 ·cases h
end
section
variable {E:Env} {base:Nat} {β:Nat→Bk} {a:Act} {w:World} {M:List Fact} {d:Nat} {o:Oper} {pre:List Prop} {out:List Fact} {kill:Option Nat} {K:Act→World→Prop} {Q:Exit→Act→World→Prop}
theorem Ja (hT:∀d,Yb E.P (E.T d) w) (hX:Hz E.P E.q.x w) (hq:SB E.P E.q) (hM:∀φ∈M,φ.ok base β a w) (hB:base≤w.heap.size) (hd:d<a.tmps.size) (hdst:o.dst=some d)
  (hK:∀β' a' w',PostB base β β' a w (some d) M out kill a' w'→K a' w') (h:cH E M d o.op=some (pre,out,kill)) (hp:bC pre):o.wp E.P a w K Q:=by
 generalize ho:o.op=op at h;cases op with
 | move x=>exact aLP ⟨hM,hB,hd,hdst⟩ hK ho h
 | assign x=>exact Zw ⟨hM,hB,hd,hdst⟩ hK ho h
 | pick c x y=>exact aLO ⟨hM,hB,hd,hdst⟩ hK ho h
 | alloc t=>exact aEj ⟨hM,hB,hd,hdst⟩ hK ho h
 | box t x=>exact aUb ⟨hM,hB,hd,hdst⟩ hK ho h
 | build t ps=>exact aEh ⟨hM,hB,hd,hdst⟩ hK ho h
 | buildSlice t n ps=>exact OD ⟨hM,hB,hd,hdst⟩ hK ho h
 | makeInterface t x=>exact aEf ⟨hM,hB,hd,hdst⟩ hK ho h
 | nilCheck x=>exact ZP ⟨hM,hB,hd,hdst⟩ hK ho h
 | load t x=>exact aLQ ⟨hM,hB,hd,hdst⟩ hK hX ho h hp
 | convert src dst x=>exact Jg ⟨hM,hB,hd,hdst⟩ hK ho h hp
 | makeFunc fn f c=>exact ZQ ⟨hM,hB,hd,hdst⟩ hK ho h
 | makeSlice t x y=>exact SX ⟨hM,hB,hd,hdst⟩ hK ho h hp
 | fieldAddr s x i=>exact aEg ⟨hM,hB,hd,hdst⟩ hK ho h
 | indexAddr t x y=>exact SY ⟨hM,hB,hd,hdst⟩ hK ho h hp
 | index t x y=>exact aEe ⟨hM,hB,hd,hdst⟩ hK ho h hp
 | extract x i=>exact Jf ⟨hM,hB,hd,hdst⟩ hK ho h
 | field t x i=>exact Je ⟨hM,hB,hd,hdst⟩ hK ho h
 | slice t x lo hi mx=>exact aEd ⟨hM,hB,hd,hdst⟩ hK ho h hp
 | binOp op t x y t2=>exact aEi ⟨hM,hB,hd,hdst⟩ hK hq ho h hp
 | unOp op t x=>exact aLN ⟨hM,hB,hd,hdst⟩ hK ho h hp
 | call c=>exact aLR ⟨hM,hB,hd,hdst⟩ hK hT hX ho h hp
 | _=>simp only[cH]at h; cases h
theorem Gk:∀{p:List At},p.all cOk=true→∀v∈aA p,v.oneCell'=true
 | [],_,v,hv=>by cases hv
 | x::r,h,v,hv=>by
  rw[List.all_cons,Bool.and_eq_true]at h
  rcases List.mem_append.1 hv with hv|hv
  ·cases x with
   | f x=>simp only[At.cells,w4,List.mem_cons,List.not_mem_nil,or_false]at hv; rcases hv with rfl|rfl|rfl|rfl<;>rfl
   | q x=>simp only[At.cells,w4,List.mem_cons,List.not_mem_nil,or_false]at hv; rcases hv with rfl|rfl|rfl|rfl<;>rfl
   | c u=>cases List.mem_singleton.1 hv; exact ZU h.1
  ·exact Gk h.2 v hv
theorem fS (b:Nat):∀(vs:List Value) (o:Nat) (w:World),(w.setCells b o vs).heap.size=w.heap.size
 | [],_,_=>rfl
 | v::r,o,w=>by rw[World.setCells,fS b r]; simp[World.setCell]
theorem uM {B b:Nat} (hb:B≤b):∀(vs:List Value) (o:Nat) (w0 w:World),Below B w0 w→Below B w0 (w.setCells b o vs)
 | [],_,_,_,h=>h
 | v::r,o,w0,w,h=>uM hb r (o+1) w0 _ (h.setCell hb v)
theorem ZO (hM:∀φ∈M,φ.ok base β a w) (hB:base≤w.heap.size) (hdst:o.dst=none)
  (hK:∀β' a' w',PostB base β β' a w none M out kill a' w'→K a' w') (h:SW E M o.op=some (pre,out,kill)) (hp:bC pre):o.wp E.P a w K Q:=by
 generalize ho:o.op=op at h;cases op with
 | store t x y =>
  simp only[SW]at h;split at h
  ·rename_i k i v hx hy;split at h
   ·rename_i p l n hv hr hs;cases hb:(Nat.beq n (dF p)&&p.all cOk)<;>rw[hb]at h
    ·cases h
    ·simp only[cond_true]at h;simp only[Bool.and_eq_true]at hb;have hl':∃l',put l i p=some l'∧out=[.row k true l']∧kill=some k:=by
      split at h
      ·rename_i l' hs';cases h;exact⟨l',hp.1,rfl,rfl⟩
      ·split at h
       ·rename_i l' hl; cases h; exact⟨l',hl,rfl,rfl⟩
       ·cases h
     obtain⟨l',hl,rfl,rfl⟩:=hl'
     ·have hn:=Nat.eq_of_beq_eq_true hb.1;obtain⟨ii,hi,hin⟩:=lS hs;obtain⟨h1,h2,h3,_⟩:=hM _ (bV hr);obtain⟨h4,h5,h6⟩:=h3 rfl;obtain⟨A,m,s,e1,e2,e3,e4⟩:=Dj hl;have hx':a.eval x=.pointer (some ⟨(β k).1,(β k).2.1+i,none⟩):=aW hM hx;rw[h5,Nat.zero_add]at hx';rw[h5]at h2;have hsz:(aA p).length=n:=by rw[aZ,hn]
      have hth:w.there (β k).1 i (aA p).toArray.size:=fun j hj=>by
       have hj':j<dF m:=by rw[e4,←aZ]; simpa using hj
       refine⟨?_,h6 _⟩;have:=h2 (i+j) ((aA m)[j]'(by rw[aZ]; exact hj')) (by
        rw[e1,aT,aT,List.getElem?_append_right (by rw[aZ,e3]; omega),aZ,e3,show i+j-i=j by omega,List.getElem?_append_left (by rw[aZ]; exact hj')];exact List.getElem?_eq_getElem _)
       rw[Nat.zero_add]at this;rw[this]; rfl
      have hst:=run_storeVar_mid (P:=E.P) w (β k).1 i t (aA p).toArray hth (by rw[hi]; simp[hin,hsz]) (all_oneCell_toArray (Gk hb.2));have hst2:(storeVar t ⟨(β k).1,i,none⟩ (v.den β)).run E.P w=.ok () (w.setCells (β k).1 i (aA p)):=by
       have hc:=yD hv β;unfold storeVar at hst ⊢;rw[hc];exact hst
      have hrun:(execOp a.eval o).run E.P w=.ok .skip (w.setCells (β k).1 i (aA p)):=by
       simp[execOp,ho,Instr.storeAt,hx',Instr.sureAddr,aW hM hy,hst2]
      unfold Oper.wp;rw[hrun];show K (a.put o.dst undef) _;rw[hdst];refine hK β a _ ⟨rfl,rfl,fun _ _=>rfl,fun _ _=>rfl,by rw[fS]; exact Nat.le_refl _,fun q hq hk=>⟨?_,World.frozen?_setCells _ _ _ _ _⟩,oC _ _ _ _,fun w0 h=>uM h4 _ _ _ _ h,fun φ hφ => ?_,fun k' l1 hk => ?_,fun k1 k2 l1 l2 hk hk' => ?_,fun k' hk => ?_⟩
      ·exact World.cell?_setCells_out _ _ _ _ _ fun e _=>absurd e (hk k rfl)
      ·cases List.mem_singleton.1 hφ;refine⟨by rw[fS]; exact h1,?_,fun _=>⟨h4,h5,fun j=>by rw[World.frozen?_setCells]; exact h6 j⟩,fun h=>by cases h⟩;rw[h5,e2];intro j u hj;rw[Nat.zero_add]
       by_cases c1:j<i
       ·rw[World.cell?_setCells_out _ _ _ _ _ (fun _ _=>Or.inl c1)];have:=h2 j u (by
         rw[e1,aT,aT];rw[List.getElem?_append_left (by rw[aZ,e3]; exact c1)]at hj ⊢;exact hj)
        rwa [Nat.zero_add]at this
       ·rw[List.getElem?_append_right (by rw[aZ,e3]; omega),aZ,e3]at hj
        by_cases c2:j<i+n
        ·rw[List.getElem?_append_left (by omega)]at hj;have:=World.cell?_setCells_in (β k).1 (aA p) i w (fun q hq=>(hth q (by simpa using hq)).1) (j-i) (by omega);rw[show i+(j-i)=j by omega]at this;rw[this,←hj,List.getElem?_eq_getElem]
        ·rw[List.getElem?_append_right (by omega),hsz]at hj;rw[World.cell?_setCells_out _ _ _ _ _ (fun _ _=>Or.inr (by simp only[]; omega))];have:=h2 j u (by
          rw[e1,aT,aT,List.getElem?_append_right (by rw[aZ,e3]; omega),aZ,e3,List.getElem?_append_right (by rw[aZ,e4]; omega),aZ,e4,←hn];exact hj)
         rwa [Nat.zero_add]at this
      ·cases List.mem_singleton.1 hk;exact Or.inr (Or.inl ⟨by simp,l,bV hr⟩)
      ·cases List.mem_singleton.1 hk; cases List.mem_singleton.1 hk'; rfl
      ·cases hk;exact⟨l,bV hr⟩
   ·cases h
  ·cases h
 | _=>simp only[SW]at h; cases h
theorem aGs {ops:Array Oper} (hT:∀d,Yb E.P (E.T d) w) (hX:Hz E.P E.q.x w) (hq:SB E.P E.q) (hM:∀φ∈M,φ.ok base β a w) (hB:base≤w.heap.size) (hn:a.tmps.size=E.nt)
  (hK:∀β' a' w',PostB base β β' a w o.dst M out kill a' w'→K a' w') (h:opA E ops M o=some (pre,out,kill)) (hp:bC pre) :
  if Region.wanted o (yielded ops a.tmps)=true then o.wp E.P a w K Q else K (a.put o.dst undef) w:=by
 unfold opA at h;split at h
 ·rename_i hg;rw[if_pos (AW hM hg)];cases hd:o.dst with
  | none =>
   rw[hd]at h;rw[hd]at hK;exact ZO hM hB hd hK h hp
  | some d =>
   rw[hd]at h;rw[hd]at hK;simp only at h;cases hb:Nat.blt d E.nt<;>rw[hb]at h
   ·cases h
   ·exact Ja hT hX hq hM hB (by rw[hn]; simpa using hb) hd hK h hp
 ·rename_i hg;rw[if_neg (by rw[AW hM hg]; simp)];cases hd:o.dst with
  | none=>rw[hd]at h; cases h
  | some d =>
   rw[hd]at h;rw[hd]at hK;simp only at h;cases hb:Nat.blt d E.nt<;>rw[hb]at h
   ·cases h
   ·cases h;exact hK _ _ _ (PO (.im undef) (by rw[hn]; simpa using hb))
 ·cases h
theorem aVz {E:Env} {ops:Array Oper} {M:List Fact} {o:Oper} {r:List Prop×List Fact×Option Nat} (h:opA E ops M o=some r) {d:Nat} (hd:o.dst=some d):d<E.nt:=by
 unfold opA at h;rw[hd]at h;split at h
 ·simp only at h;cases hb:Nat.blt d E.nt<;>rw[hb]at h
  ·cases h
  ·simpa using hb
 ·simp only at h;cases hb:Nat.blt d E.nt<;>rw[hb]at h
  ·cases h
  ·simpa using hb
 ·cases h
end
def rP:Option Nat→Nat→Bool
 | some d,s=>Nat.beq d s
 | none,_=>false
theorem eJ {d:Option Nat} {s:Nat}:rP d s=true↔d=some s:=by
 cases d with
 | none=>simp[rP]
 | some x=>simp[rP]
def mS (dst kill:Option Nat):Fact→Bool
 | .slot s v=>rP dst s||(match v.key with|some k=>rP dst k|none=>false)
 | .row k _ _=>rP dst k||rP kill k
 | .at k _=>rP dst k
 | .app k _ _ _=>rP dst k
structure Rec where
 M:List (Option Nat×Fact)
 dst:Option Nat
 kill:Option Nat
def dep (draw:Bool) (ops:Array Oper) (i j:Nat):Bool :=
 bif draw then (match ops[i]? with|some o=>o.after.toList.any (fun e=>Region.binds .any e&&Nat.beq e.on j)|none=>false)else Nat.blt j i
def aSo (φ:Fact):List Rec→Nat→Option Nat→Bool
 | [],_,_=>true
 | r::rs,j,b=>(bif (match b with|none=>true|some b'=>Nat.blt b' j)then !(mS r.dst r.kill φ)else true)&&aSo φ rs (j+1) b
def aDy (draw:Bool) (ops:Array Oper) (i:Nat) (rs:List Rec) (x:Option Nat×Fact):Bool :=
 (match x.1 with|none=>true|some b=>dep draw ops i b)&&aSo x.2 rs 0 x.1
def tmps:List Operand→List Nat
 | []=>[]
 | .tmp s::r=>s::tmps r
 | _::r=>tmps r
def aLZ (ops:Array Oper) (o:Oper):List Nat :=
 match o.guard with
 | some (g,_)=>(match (ops[g]?).bind (·.dst)with|some s=>s::tmps o.op.operands.toList|none=>tmps o.op.operands.toList)
 | none=>tmps o.op.operands.toList
def bBn:Op→Bool
 | .load _ _=>true
 | .store _ _ _=>true
 | .call _=>true
 | _=>false
def LM (l:List Nat):List (Option Nat×Fact)→List Nat
 | []=>[]
 | (_,.slot s v)::r=>bif l.any (Nat.beq s)then (match v.key with|some k=>k::LM l r|none=>LM l r)else LM l r
 | _::r=>LM l r
def bFk (l ks:List Nat) (x:Option Nat×Fact):Bool :=
 match x.2 with
 | .slot s _=>l.any (Nat.beq s)
 | .row k _ _=>ks.any (Nat.beq k)
 | .at _ _=>true
 | .app k _ _ _=>ks.any (Nat.beq k)
def sel (ops:Array Oper) (o:Oper) (M:List (Option Nat×Fact)):List (Option Nat×Fact) :=
 match aLZ ops o with
 | l=>match (bif bBn o.op then LM l M else [])with
  | ks=>M.filter (bFk l ks)
theorem aMc {ops:Array Oper} {o:Oper} {M:List (Option Nat×Fact)} {x:Option Nat×Fact} (h:x∈sel ops o M):x∈M:=(List.mem_filter.1 h).1
def OL (E:Env) (draw:Bool) (ops:Array Oper):List Oper→Nat→List (Option Nat×Fact)→List Rec→List Prop→Option (List Prop×List (Option Nat×Fact)×List Rec)
 | [],_,TF,rs,ps=>some (ps,TF,rs)
 | o::rest,i,TF,rs,ps =>
  match sel ops o (TF.filter (aDy draw ops i rs))with
  | M=>match opA E ops (M.map (·.2)) o with
   | some (pre,out,kill)=>OL E draw ops rest (i+1) (out.map (fun φ=>(some i,φ))++TF) (rs++[⟨M,o.dst,kill⟩]) (ps++pre)
   | none=>none
def yS {α:Type} (p:Nat→α→Bool):Nat→List α→Bool
 | _,[]=>true
 | k,x::r=>p k x&&yS p (k+1) r
theorem mV {α:Type} {p:Nat→α→Bool}:∀{l:List α} {k:Nat},yS p k l=true→∀i x,l[i]?=some x→p (k+i) x=true
 | [],k,_,i,x,hx=>by simp at hx
 | y::r,k,h,i,x,hx=>by
  unfold yS at h;rw[Bool.and_eq_true]at h;cases i with
  | zero=>cases hx; exact h.1
  | succ i =>
   have:=mV h.2 i x (by simpa using hx)
   rwa [show k+1+i=k+(i+1) by omega]at this
def Xy (draw:Bool) (ops:Array Oper) (x:Option Nat×Fact) (j:Nat) (r:Rec):Bool :=
 rP x.1 j||(!(mS r.dst r.kill x.2)||(match x.1 with|some b=>dep draw ops b j|none=>false))
def chk (draw:Bool) (ops:Array Oper) (rs:List Rec):Bool :=
 yS (fun i r=>r.M.all fun x=>yS (fun j r'=>Nat.beq j i||(dep draw ops j i||Xy draw ops x j r')) 0 rs) 0 rs
def low (draw:Bool) (ops:Array Oper):Bool :=
 bif draw then yS (fun i (o:Oper)=>o.after.toList.all fun e => !(Region.binds .any e)||Nat.blt e.on i) 0 ops.toList else true
def aHP (draw:Bool) (ops:Array Oper) (rs:List Rec) (x:Option Nat×Fact):Bool:=yS (fun j r=>Xy draw ops x j r) 0 rs
def aBD (E:Env) (draw:Bool) (ops:Array Oper) (A:List Fact):Option (List Prop×List Fact) :=
 match OL E draw ops ops.toList 0 (A.map fun φ=>(none,φ)) [] []with
 | some (ps,TF,rs)=>bif chk draw ops rs&&low draw ops then some (ps,(TF.filter (aHP draw ops rs)).map (·.2))else none
 | none=>none
section
variable {E:Env} {draw:Bool} {ops:Array Oper}
theorem vY:∀{rem:List Oper} {i:Nat} {TF TF':List (Option Nat×Fact)} {rs rs':List Rec} {ps ps':List Prop},OL E draw ops rem i TF rs ps=some (ps',TF',rs')→rs.length=i →
  (∀x∈TF,x∈TF')∧(∀x∈TF',x∈TF∨∃b,x.1=some b∧i≤b∧b<i+rem.length)∧(bC ps'→bC ps)∧(∀j,j<i→rs'[j]?=rs[j]?)∧rs'.length=i+rem.length ∧
  ∀j o,rem[j]?=some o→∃r pre out,rs'[i+j]?=some r∧r.dst=o.dst∧opA E ops (r.M.map (·.2)) o=some (pre,out,r.kill)∧(bC ps'→bC pre) ∧
   (∀x∈r.M,x∈TF'∧∀b,x.1=some b→dep draw ops (i+j) b=true)∧∀φ,(some (i+j),φ)∈TF'→(some (i+j),φ)∈TF∨φ∈out
 | [],i,TF,TF',rs,rs',ps,ps',h,hl=>by
  cases h;exact⟨fun _ h=>h,fun _ h=>Or.inl h,fun h=>h,fun _ _=>rfl,by simp[hl],fun j o ho=>by simp at ho⟩
 | o::rest,i,TF,TF',rs,rs',ps,ps',h,hl=>by
  unfold OL at h;simp only at h;split at h
  ·rename_i pre out kill ho;obtain⟨h1,h2,h3,h4,h5,h6⟩:=vY h (by simp[hl]);have hps:bC ps'→bC ps∧bC pre:=fun h=>kB.1 (h3 h)
   refine⟨fun x hx=>h1 x (List.mem_append_right _ hx),fun x hx => ?_,fun h=>(hps h).1,fun j hj => ?_,by rw[h5]; simp; omega,?_⟩
   ·rcases h2 x hx with hx|⟨b,hb,hi,hlt⟩
    ·rcases List.mem_append.1 hx with hx|hx
     ·obtain⟨φ,_,rfl⟩:=List.mem_map.1 hx;exact Or.inr ⟨i,rfl,Nat.le_refl _,by simp⟩
     ·exact Or.inl hx
    ·exact Or.inr ⟨b,hb,by omega,by simp; omega⟩
   ·rw[h4 j (by omega),List.getElem?_append_left (by omega)]
   ·intro j o' hj;cases j with
    | zero =>
     cases hj;refine⟨_,pre,out,by rw[Nat.add_zero,h4 i (by omega),List.getElem?_append_right (by omega),hl,Nat.sub_self]; rfl,rfl,ho,fun h=>(hps h).2,fun x hx => ?_,fun φ hφ => ?_⟩
     ·obtain⟨hx1,hx2⟩:=List.mem_filter.1 (aMc hx);refine⟨h1 x (List.mem_append_right _ hx1),fun b hb => ?_⟩;unfold aDy at hx2;rw[hb]at hx2;simp only[Bool.and_eq_true]at hx2;exact hx2.1
     ·rcases h2 _ hφ with hx|⟨b,hb,hi,hlt⟩
      ·rcases List.mem_append.1 hx with hx|hx
       ·obtain⟨ψ,hψ,e⟩:=List.mem_map.1 hx;cases e;exact Or.inr hψ
       ·exact Or.inl hx
      ·simp only[Nat.add_zero,Option.some.injEq]at hb;omega
    | succ j =>
     obtain⟨r,pre',out',e1,e2,e3,e4,e5,e6⟩:=h6 j o' (by simpa using hj);rw[show i+1+j=i+(j+1) by omega]at e1 e5 e6;refine⟨r,pre',out',e1,e2,e3,e4,e5,fun φ hφ => ?_⟩
     rcases e6 φ hφ with hx|hx
     ·rcases List.mem_append.1 hx with hx|hx
      ·obtain⟨ψ,hψ,e⟩:=List.mem_map.1 hx;simp only[Prod.mk.injEq,Option.some.injEq]at e;omega
      ·exact Or.inl hx
     ·exact Or.inr hx
  ·cases h
def qV (draw:Bool) (ops:Array Oper) (rs:List Rec) (G:Nat→Prop) (x:Option Nat×Fact):Prop :=
 (∀b,x.1=some b→G b)∧∀j r,rs[j]?=some r→G j→x.1≠some j→mS r.dst r.kill x.2=true→∃b,x.1=some b∧dep draw ops b j=true
structure Tail (nt base:Nat) (w0:World) (β:Nat→Bk) (w:World):Prop where
 size:(β nt).1≤w.heap.size
 mem:∀p:Addr,base<p.block→p.block<(β nt).1→w.cell? p=w0.cell? p∧w.frozen? p=w0.frozen? p
 shape:Shape w0 w
structure Inv (E:Env) (draw:Bool) (ops:Array Oper) (base:Nat) (w0:World) (TF:List (Option Nat×Fact)) (rs:List Rec) (G:Nat→Prop) (a:Act) (w:World):Prop where
 defers:a.defers=[]
 size:a.tmps.size=E.nt
 below:Below base w0 w
 heap:base≤w.heap.size
 closed:∀i j,G i→dep draw ops i j=true→G j
 facts:∃β:Nat→Bk,(∀x∈TF,qV draw ops rs G x→x.2.ok base β a w) ∧
  (∀x∈TF,∀y∈TF,qV draw ops rs G x→qV draw ops rs G y→∀k k' l l',x.2=.row k true l→y.2=.row k' true l'→k≠k'→(β k).1≠(β k').1) ∧
  (∀x∈TF,qV draw ops rs G x→∀k l,x.2=.row k true l→(β k).1=base∨(β E.nt).1≤(β k).1)∧Tail E.nt base w0 β w
theorem aWT {base:Nat} {β β':Nat→Bk} {a a':Act} {w w':World} {dst kill:Option Nat} {M out:List Fact} (hP:PostB base β β' a w dst M out kill a' w') {φ:Fact} (h:φ.ok base β a w) (hc:mS dst kill φ=false)
  (hk:∀kk k GM l,kill=some kk→φ=.row k GM l→(β kk).1≠(β k).1):φ.ok base β' a' w':=by
 cases φ with
 | slot s v =>
  simp only[mS,Bool.or_eq_false_iff]at hc;have h1:dst≠some s:=fun e=>by have:=eJ.2 e; rw[hc.1]at this; cases this
  have h2:∀k,v.key=some k→β' k=β k:=fun k hv=>hP.beta k fun e=>by
   have h3:=hc.2;rw[hv]at h3;have:=eJ.2 e;simp only at h3;rw[h3]at this; cases this
  show a'.tmps[s]?=_;rw[hP.tmps s h1,AV.den_eq v h2];exact h
 | row k GM l =>
  simp only[mS,Bool.or_eq_false_iff]at hc;have h1:dst≠some k:=fun e=>by have:=eJ.2 e; rw[hc.1]at this; cases this
  obtain⟨g1,g2,g3,g4⟩:=h;have hm:∀j,w'.cell? ⟨(β k).1,j,none⟩=w.cell? ⟨(β k).1,j,none⟩∧w'.frozen? ⟨(β k).1,j,none⟩=w.frozen? ⟨(β k).1,j,none⟩:=fun j=>hP.mem ⟨(β k).1,j,none⟩ g1 fun kk hkk e=>hk kk k GM l hkk rfl e.symm
  refine⟨?_,?_,?_,?_⟩<;>rw[hP.beta k h1]
  ·exact Nat.lt_of_lt_of_le g1 hP.heap
  ·intro j v hj;rw[(hm _).1];exact g2 j v hj
  ·exact fun ho=>⟨(g3 ho).1,(g3 ho).2.1,fun j=>by rw[(hm _).2]; exact (g3 ho).2.2 j⟩
  ·exact g4
 | «at» k b =>
  have h1:dst≠some k:=fun e=>by have:=eJ.2 e; rw[show rP dst k=false from hc]at this; cases this
  show (β' k).1=b∧(β' k).2.1=0;rw[hP.beta k h1];exact h
 | app k e sz n =>
  have h1:dst≠some k:=fun e=>by have:=eJ.2 e; rw[show rP dst k=false from hc]at this; cases this
  show AppAt w' (β' k).1 e sz n (β' k).2.2;rw[hP.beta k h1];exact AppAt.shape hP.shape h
theorem JH {base:Nat} {w0:World} {A:List Fact} {TF:List (Option Nat×Fact)} {rs:List Rec} {ps:List Prop} (hT:∀d,TabOkW E.P (E.T d) base w0) (hq:cV E.P E.q base w0)
  (hrun:OL E draw ops ops.toList 0 (A.map fun φ=>(none,φ)) [] []=some (ps,TF,rs)) (hps:bC ps) (hchk:chk draw ops rs=true) {Q:Exit→Act→World→Prop}
  {G:Nat→Prop} {a:Act} {w:World} (hI:Inv E draw ops base w0 TF rs G a w) {i:Nat} {o:Oper} (ho:ops[i]?=some o) (hi:¬G i) (hdeps:∀j,dep draw ops i j=true→G j) :
  if Region.wanted o (yielded ops a.tmps)=true then o.wp E.P a w (Inv E draw ops base w0 TF rs (fun j=>j=i∨G j)) Q else Inv E draw ops base w0 TF rs (fun j=>j=i∨G j) (a.put o.dst undef) w:=by
 obtain⟨_,_,_,_,_,hops⟩:=vY hrun rfl;obtain⟨r,pre,out,hr,hdst,hop,hpre,hM,hborn⟩:=hops i o (by simpa using ho);rw[Nat.zero_add]at hr hM hborn;obtain⟨β,hok,hinj,hown,htl⟩:=hI.facts;have hMv:∀x∈r.M,qV draw ops rs G x:=fun x hx=>by
  refine⟨fun b hb=>hdeps b ((hM x hx).2 b hb),fun j r' hj hG hne hcl => ?_⟩;have h1:=mV hchk i r hr;rw[List.all_eq_true]at h1;have h2:=mV (h1 x hx) j r' hj;rw[Nat.zero_add,Nat.zero_add]at h2;rw[Bool.or_eq_true,Bool.or_eq_true]at h2
  rcases h2 with h2|h2|h2
  ·exact absurd (Nat.eq_of_beq_eq_true h2▸hG) hi
  ·exact absurd (hI.closed j i hG h2) hi
  ·unfold Xy at h2;rw[Bool.or_eq_true,Bool.or_eq_true,hcl]at h2
   rcases h2 with h2|h2|h2
   ·exact absurd (eJ.1 h2) hne
   ·cases h2
   ·split at h2
    ·rename_i b hb; exact⟨b,hb,h2⟩
    ·cases h2
 refine aGs (ops:=ops) (fun d=>hT d w hI.below) (hq.2 w hI.below) hq.1 (M:=r.M.map (·.2)) (out:=out) (kill:=r.kill) (β:=β) (base:=base) (fun φ hφ => ?_) hI.heap hI.size (fun β' a' w' hP => ?_) hop (hpre hps)
 ·obtain⟨x,hx,rfl⟩:=List.mem_map.1 hφ;exact hok x (hM x hx).1 (hMv x hx)
 have hnt:β' E.nt=β E.nt:=hP.beta E.nt fun e=>Nat.lt_irrefl _ (aVz hop e)
 have hrowM:∀k l0,Fact.row k true l0∈r.M.map (·.2)→∃x∈TF,qV draw ops rs G x∧x.2=.row k true l0:=fun k l0 h=>by
  obtain⟨x,hx,e⟩:=List.mem_map.1 h;exact⟨x,(hM x hx).1,hMv x hx,e⟩
 have hkill:∀x∈TF,qV draw ops rs G x→mS o.dst r.kill x.2=false→∀kk k GM l,r.kill=some kk→x.2=.row k GM l→(β kk).1≠(β k).1:=fun x hx hv hc kk k GM l hkk hφ=>by
  obtain⟨l0,hl0⟩:=hP.kills kk hkk;obtain⟨y,hy,hyv,hye⟩:=hrowM kk l0 hl0;have hne:kk≠k:=fun e=>by
   rw[hφ]at hc;simp only[mS,Bool.or_eq_false_iff]at hc;have:=eJ.2 (e▸hkk:r.kill=some k);rw[hc.2]at this; cases this
  cases GM with
  | true=>exact hinj y hy x hx hyv hv kk k l0 l hye hφ hne
  | false =>
   have h1:=hok y hy hyv;rw[hye]at h1;have h2:=hok x hx hv;rw[hφ]at h2;have:=(h1.2.2.1 rfl).1;have:=h2.2.2.2 rfl;omega
 have hold:∀x∈TF,qV draw ops rs (fun j=>j=i∨G j) x→x.1≠some i→qV draw ops rs G x∧mS o.dst r.kill x.2=false:=fun x hx hv hne=>by
  refine⟨⟨fun b hb=>(hv.1 b hb).resolve_left fun e=>hne (by rw[hb,e]),fun j r' hj hG=>hv.2 j r' hj (Or.inr hG)⟩,?_⟩;cases hc:mS o.dst r.kill x.2 with
  | false=>rfl
  | true =>
   obtain⟨b,hb,hd⟩:=hv.2 i r hr (Or.inl rfl) hne (by rw[hdst]; exact hc);exact absurd (hI.closed b i ((hv.1 b hb).resolve_left fun e=>hne (by rw[hb,e])) hd) hi
 have hnew:∀x∈TF,x.1=some i→x.2∈out:=fun x hx e=>by
  obtain⟨b,φ⟩:=x;simp only at e;subst e
  rcases hborn φ hx with h|h
  ·obtain⟨ψ,_,e⟩:=List.mem_map.1 h;cases e
  ·exact h
 have hβ:∀x∈TF,qV draw ops rs (fun j=>j=i∨G j) x→x.1≠some i→∀k GM l,x.2=.row k GM l→β' k=β k:=fun x hx hv hne k GM l hφ=>by
  obtain⟨_,hc⟩:=hold x hx hv hne;rw[hφ]at hc;simp only[mS,Bool.or_eq_false_iff]at hc;exact hP.beta k fun e=>by have:=eJ.2 e; rw[hc.1]at this; cases this
 have hno:∀x∈TF,∀y∈TF,x.1=some i→qV draw ops rs (fun j=>j=i∨G j) y→y.1≠some i→∀k k' l l',x.2=.row k true l→y.2=.row k' true l'→k≠k'→(β' k).1≠(β' k').1:=fun x hx y hy hxi hyv hyi k k' l l' hxe hye hkk=>by
  obtain⟨hyo,_⟩:=hold y hy hyv hyi;rw[hβ y hy hyv hyi k' true l' hye];have h1:=hnew x hx hxi;rw[hxe]at h1
  rcases hP.rows k l h1 with⟨h2,_⟩|⟨h2,l0,h3⟩|⟨h2,k0,l0,hk0,he,h3⟩
  ·have h4:=hok y hy hyo;rw[hye]at h4;have:=h4.1;omega
  ·obtain⟨z,hz,hzv,hze⟩:=hrowM k l0 h3;rw[hP.beta k h2];exact hinj z hz y hy hzv hyo k k' l0 l' hze hye hkk
  ·obtain⟨z,hz,hzv,hze⟩:=hrowM k0 l0 h3;rw[he];refine hinj z hz y hy hzv hyo k0 k' l0 l' hze hye fun e => ?_
   subst e;have hc:=(hold y hy hyv hyi).2;rw[hye]at hc;simp only[mS,Bool.or_eq_false_iff]at hc;have:=eJ.2 hk0;rw[hc.2]at this; cases this
 refine⟨by rw[hP.defers]; exact hI.defers,by rw[hP.size]; exact hI.size,hP.below w0 hI.below,Nat.le_trans hI.heap hP.heap,?_,β',?_,?_,?_,?_⟩
 ·intro p q hp hpq
  rcases hp with rfl|hp
  ·exact Or.inr (hdeps q hpq)
  ·exact Or.inr (hI.closed p q hp hpq)
 ·intro x hx hv
  by_cases e:x.1=some i
  ·exact hP.ok _ (hnew x hx e)
  ·obtain⟨h1,h2⟩:=hold x hx hv e;exact aWT hP (hok x hx h1) h2 (hkill x hx h1 h2)
 ·intro x hx y hy hxv hyv k k' l l' hxe hye hkk
  by_cases e1:x.1=some i
  ·by_cases e2:y.1=some i
   ·have h1:=hnew x hx e1;have h2:=hnew y hy e2;rw[hxe]at h1;rw[hye]at h2;exact absurd (hP.one k k' l l' h1 h2) hkk
   ·exact hno x hx y hy e1 hyv e2 k k' l l' hxe hye hkk
  ·by_cases e2:y.1=some i
   ·exact fun e=>hno y hy x hx e2 hxv e1 k' k l' l hye hxe (Ne.symm hkk) e.symm
   ·rw[hβ x hx hxv e1 k true l hxe,hβ y hy hyv e2 k' true l' hye];exact hinj x hx y hy (hold x hx hxv e1).1 (hold y hy hyv e2).1 k k' l l' hxe hye hkk
 ·intro x hx hv k l hxe;rw[hnt]
  by_cases e:x.1=some i
  ·have h1:=hnew x hx e;rw[hxe]at h1
   rcases hP.rows k l h1 with⟨h2,_⟩|⟨h2,l0,h3⟩|⟨h2,k0,l0,hk0,he,h3⟩
   ·exact Or.inr (Nat.le_trans htl.size h2)
   ·obtain⟨z,hz,hzv,hze⟩:=hrowM k l0 h3;rw[hP.beta k h2];exact hown z hz hzv k l0 hze
   ·obtain⟨z,hz,hzv,hze⟩:=hrowM k0 l0 h3;rw[he];exact hown z hz hzv k0 l0 hze
  ·rw[hβ x hx hv e k true l hxe];exact hown x hx (hold x hx hv e).1 k l hxe
 ·refine⟨by rw[hnt]; exact Nat.le_trans htl.size hP.heap,fun p h1 h2 => ?_,htl.shape.trans hP.shape⟩;rw[hnt]at h2;have h3:=hP.mem p (Nat.lt_of_lt_of_le h2 htl.size) fun kk hkk e=>by
   obtain⟨l0,hl0⟩:=hP.kills kk hkk;obtain⟨z,hz,hzv,hze⟩:=hrowM kk l0 hl0
   rcases hown z hz hzv kk l0 hze with h4|h4<;>omega
  have h4:=htl.mem p h1 h2;exact⟨h3.1.trans h4.1,h3.2.trans h4.2⟩
end
structure Holds (nt base:Nat) (w0:World) (A:List Fact) (a:Act) (w:World):Prop where
 defers:a.defers=[]
 size:a.tmps.size=nt
 below:Below base w0 w
 heap:base≤w.heap.size
 facts:∃β:Nat→Bk,(∀φ∈A,φ.ok base β a w)∧(∀k k' l l',Fact.row k true l∈A→Fact.row k' true l'∈A→k≠k'→(β k).1≠(β k').1)∧(∀k l,Fact.row k true l∈A→(β k).1=base∨(β nt).1≤(β k).1)∧Tail nt base w0 β w
theorem Holds.drew {nt base:Nat} {w0:World} {A:List Fact} {a:Act} {w:World} (h:Holds nt base w0 A a w):Holds nt base w0 A a w.drew :=
 h.facts.elim fun β hβ=>⟨h.defers,h.size,h.below.drew,h.heap,β,hβ.1,hβ.2.1,hβ.2.2.1,hβ.2.2.2.size,hβ.2.2.2.mem,hβ.2.2.2.shape⟩
section
variable {E:Env} {draw:Bool} {ops:Array Oper} {base:Nat} {w0:World} {A A':List Fact} {TF:List (Option Nat×Fact)} {rs:List Rec} {ps:List Prop} {a:Act} {w:World} {Q:Exit→Act→World→Prop}
theorem BT (hrun:OL E draw ops ops.toList 0 (A.map fun φ=>(none,φ)) [] []=some (ps,TF,rs)) (h:Holds E.nt base w0 A a w):Inv E draw ops base w0 TF rs (fun _=>False) a w:=by
 obtain⟨_,h2,_⟩:=vY hrun rfl;obtain⟨β,hok,hinj,hown,htl⟩:=h.facts;have hA:∀x∈TF,qV draw ops rs (fun _=>False) x→x.2∈A:=fun x hx hv=>by
  rcases h2 x hx with hx|⟨b,hb,_⟩
  ·obtain⟨φ,hφ,rfl⟩:=List.mem_map.1 hx;exact hφ
  ·exact (hv.1 b hb).elim
 exact⟨h.defers,h.size,h.below,h.heap,fun _ _ h=>h.elim,β,fun x hx hv=>hok _ (hA x hx hv),fun x hx y hy hxv hyv k k' l l' hxe hye hkk=>hinj k k' l l' (hxe▸hA x hx hxv) (hye▸hA y hy hyv) hkk,fun x hx hv k l hxe=>hown k l (hxe▸hA x hx hv),htl⟩
theorem WF (hrun:OL E draw ops ops.toList 0 (A.map fun φ=>(none,φ)) [] []=some (ps,TF,rs)) {G:Nat→Prop} (hG:∀i,i<ops.size→G i) (h:Inv E draw ops base w0 TF rs G a w) :
  Holds E.nt base w0 ((TF.filter (aHP draw ops rs)).map (·.2)) a w:=by
 obtain⟨_,h2,_⟩:=vY hrun rfl;obtain⟨β,hok,hinj,hown,htl⟩:=h.facts;have hv:∀φ∈(TF.filter (aHP draw ops rs)).map (·.2),∃x∈TF,qV draw ops rs G x∧x.2=φ:=fun φ hφ=>by
  obtain⟨x,hx,rfl⟩:=List.mem_map.1 hφ;obtain⟨h3,h4⟩:=List.mem_filter.1 hx;refine⟨x,h3,⟨fun b hb => ?_,fun j r hj _ hne hc => ?_⟩,rfl⟩
  ·rcases h2 x h3 with h5|⟨b',hb',_,hlt⟩
   ·obtain⟨ψ,_,rfl⟩:=List.mem_map.1 h5;cases hb
   ·rw[hb']at hb;cases hb;exact hG b (by simpa using hlt)
  ·have h5:=mV h4 j r hj;rw[Nat.zero_add]at h5;unfold Xy at h5;rw[Bool.or_eq_true,Bool.or_eq_true,hc]at h5
   rcases h5 with h5|h5|h5
   ·exact absurd (eJ.1 h5) hne
   ·cases h5
   ·split at h5
    ·rename_i b hb; exact⟨b,hb,h5⟩
    ·cases h5
 refine⟨h.defers,h.size,h.below,h.heap,β,fun φ hφ => ?_,fun k k' l l' hk hk' hne => ?_,fun k l hk => ?_,htl⟩
 ·obtain⟨x,h1,h2,rfl⟩:=hv φ hφ;exact hok x h1 h2
 ·obtain⟨x,h1,h2,e1⟩:=hv _ hk;obtain⟨y,h3,h4,e2⟩:=hv _ hk';exact hinj x h1 y h3 h2 h4 k k' l l' e1 e2 hne
 ·obtain⟨x,h1,h2,e1⟩:=hv _ hk;exact hown x h1 h2 k l e1
def fr:Nat→Array Bool→Nat
 | 0,_=>0
 | n+1,g=>fr n g+(bif g.getD n false then 0 else 1)
theorem Wl:∀{n:Nat} {g:Array Bool},fr n g=0→∀i,i<n→g.getD i false=true
 | 0,g,_,i,hi=>by omega
 | n+1,g,h,i,hi=>by
  unfold fr at h
  by_cases e:i=n
  ·subst e;cases hb:g.getD i false
   ·rw[hb]at h; simp at h
   ·rfl
  ·exact Wl (n:=n) (by omega) i (by omega)
theorem Gg {g:Array Bool} {i j:Nat} (hi:i<g.size):(g.setIfInBounds i true).getD j false=true↔j=i∨g.getD j false=true:=by
 by_cases e:j=i
 ·subst e; simp[Array.getD,hi]
 ·have:¬i=j:=fun h=>e h.symm
  simp[Array.getD_eq_getD_getElem?,Array.getElem?_setIfInBounds_ne this,e]
theorem aIQ:∀{n:Nat} {g:Array Bool} {i:Nat},n≤i→fr n (g.setIfInBounds i true)=fr n g
 | 0,_,_,_=>rfl
 | n+1,g,i,h=>by
  have:¬i=n:=by omega
  unfold fr;rw[aIQ (by omega)];simp[Array.getD_eq_getD_getElem?,Array.getElem?_setIfInBounds_ne this]
theorem aIP:∀{n:Nat} {g:Array Bool} {i:Nat},i<n→i<g.size→g.getD i false=false→fr n (g.setIfInBounds i true)+1=fr n g
 | 0,_,_,h,_,_=>by omega
 | n+1,g,i,h,hs,hg=>by
  unfold fr
  by_cases e:i=n
  ·subst e;rw[aIQ (Nat.le_refl _),(Gg hs).2 (Or.inl rfl),hg];simp
  ·have h1:=aIP (n:=n) (g:=g) (by omega) hs hg;have h2:(g.setIfInBounds i true).getD n false=g.getD n false:=by
    have:¬i=n:=e;simp[Array.getD_eq_getD_getElem?,Array.getElem?_setIfInBounds_ne this]
   rw[h2]; omega
theorem aJu {i j:Nat}:dep true ops i j=true↔∃o,ops[i]?=some o∧∃e∈o.after,Region.binds .any e=true∧e.on=j:=by
 unfold dep;simp only[cond_true];cases ho:ops[i]? with
 | none=>simp
 | some o =>
  simp only[List.any_eq_true];constructor
  ·rintro⟨e,he,h⟩
   rw[Bool.and_eq_true]at h;exact⟨o,rfl,e,by simpa using he,h.1,Nat.eq_of_beq_eq_true h.2⟩
  ·rintro⟨o',e1,e,he,hb,rfl⟩
   cases e1;exact⟨e,by simpa using he,by rw[hb]; simp⟩
theorem aQf (hT:∀d,TabOkW E.P (E.T d) base w0) (hq:cV E.P E.q base w0) (hrun:OL E true ops ops.toList 0 (A.map fun φ=>(none,φ)) [] []=some (ps,TF,rs)) (hps:bC ps) (hchk:chk true ops rs=true) (hlow:low true ops=true)
  (hQ:∀a w,Inv E true ops base w0 TF rs (fun i=>i<ops.size) a w→Q .normal a w) :
  ∀(m:Nat) (g:Array Bool) (a:Act) (w:World),g.size=ops.size→fr ops.size g=m→Inv E true ops base w0 TF rs (fun i=>g.getD i false=true) a w→wpAny E.P .any ops Q m g a w:=by
 have hfin:∀(g:Array Bool) (a:Act) (w:World),g.size=ops.size→(∀i,i<ops.size→g.getD i false=true)→Inv E true ops base w0 TF rs (fun i=>g.getD i false=true) a w→Q .normal a w:=fun g a w hs hall hI=>by
  refine hQ a w ?_;have:(fun i=>g.getD i false=true)=fun i=>i<ops.size:=funext fun i=>propext ⟨fun h=>by
   rw[←hs]
   by_cases hi:i<g.size
   ·exact hi
   ·simp[Array.getD,hi]at h,hall i⟩
  rwa [this]at hI
 have hready:∀(g:Array Bool),g.size=ops.size→Region.ready .any ops g=[]→∀i,i<ops.size→g.getD i false=true:=fun g hs hr i=>by
  induction i using Nat.strongRecOn with
  | _ i ih =>
   intro hi;cases hb:g.getD i false with
   | true=>rfl
   | false =>
    exfalso;have:i∈Region.ready .any ops g:=by
     refine mem_ready.2 ⟨?_,ops[i],Array.getElem?_eq_getElem hi,fun e he hbi => ?_⟩
     ·have:i<g.size:=by omega
      simp[Array.getD,this]at hb ⊢;exact hb
     ·unfold low at hlow;simp only[cond_true]at hlow;have:=mV hlow i ops[i] (by simp[hi]);rw[List.all_eq_true]at this;have:=this e (by simpa using he);rw[hbi]at this;have hlt:e.on<i:=by simpa using this
      exact ih e.on hlt (by omega)
    rw[hr]at this;cases this
 intro m
 induction m with
 | zero =>
  intro g a w hs hf hI;have hall:=Wl hf;refine⟨?_,hfin g a w hs hall hI⟩;apply List.eq_nil_iff_forall_not_mem.2;intro i hi;obtain⟨h1,o,ho,_⟩:=mem_ready.1 hi;have hlt:i<ops.size:=(Array.getElem?_eq_some_iff.1 ho).1;have h2:=hall i hlt;have:i<g.size:=by omega
  simp[Array.getD,this]at h1 h2;rw[h1]at h2; cases h2
 | succ m ih =>
  intro g a w hs hf hI;refine⟨fun hr=>hfin g a w hs (hready g hs hr) hI,fun i hi => ?_⟩;obtain⟨h1,o,ho,h2⟩:=mem_ready.1 hi;have hlt:i<ops.size:=(Array.getElem?_eq_some_iff.1 ho).1;have hg:i<g.size:=by omega
  have hgi:g.getD i false=false:=by
   simp[Array.getD,hg]at h1 ⊢;exact h1
  have hst:=JH hT hq hrun hps hchk (Q:=Q) hI ho (by rw[hgi]; simp) (fun j hj=>by
   obtain⟨o',ho',e,he,hb,rfl⟩:=aJu.1 hj;rw[ho]at ho';cases ho';exact h2 e he hb)
  unfold wpOp;rw[ho];simp only;have hnext:∀a' w',Inv E true ops base w0 TF rs (fun j=>j=i∨g.getD j false=true) a' w'→wpAny E.P .any ops Q m (g.setIfInBounds i true) a' w':=fun a' w' h=>by
   refine ih _ a' w' (by simp[hs]) (by have:=aIP hlt hg hgi; omega) ?_;have:(fun j=>(g.setIfInBounds i true).getD j false=true)=fun j=>j=i∨g.getD j false=true:=funext fun j=>propext (Gg hg)
   rwa [this]
  by_cases hw:Region.wanted o (yielded ops a.tmps)=true
  ·rw[if_pos hw]at hst ⊢;exact Or.inl (Oper.wp_mono hnext hst)
  ·rw[if_neg hw]at hst ⊢;exact hnext _ _ hst
theorem Sk (hT:∀d,TabOkW E.P (E.T d) base w0) (hq:cV E.P E.q base w0) (hrun:OL E false ops ops.toList 0 (A.map fun φ=>(none,φ)) [] []=some (ps,TF,rs)) (hps:bC ps) (hchk:chk false ops rs=true)
  (hQ:∀a w,Inv E false ops base w0 TF rs (fun i=>i<ops.size) a w→Q .normal a w) :
  ∀(m k:Nat) (a:Act) (w:World),k+m=ops.size→Inv E false ops base w0 TF rs (fun i=>i<k) a w→wpOps E.P ops Q (List.range' k m) a w
 | 0,k,a,w,hk,hI=>by
  have:k=ops.size:=by omega
  subst this;exact hQ a w hI
 | m+1,k,a,w,hk,hI=>by
  have hlt:k<ops.size:=by omega
  have ho:ops[k]?=some ops[k]:=Array.getElem?_eq_getElem hlt;have hst:=JH hT hq hrun hps hchk (Q:=Q) hI ho (Nat.lt_irrefl k) (fun j hj=>by unfold dep at hj; simpa using hj);simp only[List.range'_succ,wpOps];rw[ho];simp only;have hnext:∀a' w',Inv E false ops base w0 TF rs (fun j=>j=k∨j<k) a' w'→wpOps E.P ops Q (List.range' (k+1) m) a' w':=fun a' w' h=>by
   refine Sk hT hq hrun hps hchk hQ m (k+1) a' w' (by omega) ?_;have:(fun j=>j<k+1)=fun j=>j=k∨j<k:=funext fun j=>propext (by omega)
   rwa [this]
  by_cases hw:Region.wanted ops[k] (yielded ops a.tmps)=true
  ·rw[if_pos hw]at hst ⊢;exact Or.inl (Oper.wp_mono hnext hst)
  ·rw[if_neg hw]at hst ⊢;exact hnext _ _ hst
theorem aBC {id:Nat} (hm:E.P.follows .mixedOrders=true) (hT:∀d,TabOkW E.P (E.T d) base w0) (hq:cV E.P E.q base w0) (h:aBD E draw ops A=some (ps,A')) (hps:bC ps) (hA:Holds E.nt base w0 A a w)
  (hQ:∀a w,Holds E.nt base w0 A' a w→Q .normal a w):(Code.region id ops draw).wp E.P Q a w:=by
 unfold aBD at h;split at h
 ·rename_i ps' TF rs hrun;cases hc:(chk draw ops rs&&low draw ops)<;>rw[hc]at h
  ·cases h
  ·cases h;rw[Bool.and_eq_true]at hc;cases draw with
   | false =>
    refine wp_region ?_;rw[List.range_eq_range'];exact Sk hT hq hrun hps hc.1 (fun a w hI=>hQ a w (WF hrun (fun _ h=>h) hI)) ops.size 0 a w (by omega) (by
     have:(fun i=>i<0)=fun _:Nat=>False:=funext fun i=>propext ⟨fun h=>by omega,fun h=>h.elim⟩
     rw[this];exact BT hrun hA)
   | true =>
    refine wp_region_any hm ?_;have hsz:∀n,fr n (Array.replicate ops.size false)=n:=fun n=>by
     induction n with
     | zero=>rfl
     | succ n ih=>unfold fr; rw[ih]; by_cases hn:n<ops.size<;>simp[Array.getD,hn]
    refine aQf hT hq hrun hps hc.1 hc.2 (fun a w hI=>hQ a w (WF hrun (fun _ h=>h) hI)) ops.size _ a _ (by simp) (hsz _) ?_;have:(fun i=>(Array.replicate ops.size false).getD i false=true)=fun _:Nat=>False:=funext fun i=>propext (by by_cases hi:i<ops.size<;>simp[Array.getD,hi])
    rw[this];exact BT hrun hA.drew
 ·cases h
end
end Go.Proofs.YtglgakbkdjhojaaGreat.Ex
