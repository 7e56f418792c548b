/- Rf01 -/
import Derived.Laws.AppendOwn
import Derived.Laws.OwnMore
import Derived.Laws.StructEq
import Derived.Orders
import Derived.Test.YtjkpglhlmknciaaGreatRf00
import Derived.Test.YtjkpglhlmknciaaGreatProg
set_option maxRecDepth 100000
set_option linter.unusedVariables false
set_option linter.unusedSimpArgs false
set_option linter.unnecessarySimpa false
namespace Go.Proofs.YtjkpglhlmknciaaGreat.Ex
open Go.Proofs.Tryz
open Go.RowKit
theorem kO {P:Program} {t n:Nat} (h:fF P t=some n):∃i,P.info? t=some i∧i.size=n:=by
 unfold fF at h;split at h
 ·rename_i i hi; cases h; exact⟨i,hi,rfl⟩
 ·cases h
theorem lM {P:Program} {t:Nat} (h:wP P t=true):∃d,P.underlying t=some d∧d.isRow=true:=by
 unfold wP at h;split at h
 ·rename_i d hd; exact⟨d,hd,h⟩
 ·cases h
theorem bM {P:Program} {t n:Nat} (h:fF P t=some n) (w:World):(sizeOf t).run P w=.ok n w:=by
 obtain⟨i,hi,rfl⟩:=kO h;simp[sizeOf,typeInfo,hi]
theorem AH {w:World} {b o:Nat} {l:List At} {i n:Nat} {s:List At} (h:w.rangeAt b o (aA l)) (hs:gS l i n=some s):w.rangeAt b (o+i) (aA s):=by
 obtain⟨p,r,e,hp,ht⟩:=pH hs;intro j v hj;have hlt:j<(aA s).length:=(List.getElem?_eq_some_iff.1 hj).1;have:=h (i+j) v (by
  rw[e,aP,aP,List.getElem?_append_right (by rw[aT,hp]; omega),aT,hp,show i+j-i=j by omega,List.getElem?_append_left hlt];exact hj)
 rwa [←Nat.add_assoc]at this
theorem qL {P:Program} (w:World) {t:Nat} (hs:oD P t=true):(isAgg t).run P w=.ok false w:=by
 unfold oD at hs;unfold isAgg;split at hs
 ·cases hs
 ·cases hs
 ·rename_i d hu h1 h2;rw[Sem.run_bind,run_underlying h2 w];cases d<;>first|rfl|exact absurd rfl (hu _)|exact absurd rfl (h1 _ _)
 ·cases hs
theorem sM {P:Program} (w:World) (p:Addr) {t:Nat} {v:Value} (hs:oD P t=true) (hc:w.cell? p=some v):(loadVar t p).run P w=.ok v w:=by
 have hagg:(isAgg t).run P w=.ok false w:=by
  unfold oD at hs;unfold isAgg;split at hs
  ·cases hs
  ·cases hs
  ·rename_i d hu h1 h2;rw[Sem.run_bind,run_underlying h2 w];cases d<;>first|rfl|exact absurd rfl (hu _)|exact absurd rfl (h1 _ _)
  ·cases hs
 simp[loadVar,Sem.run_bind,hagg,hc]
theorem Gh {P:Program} (w:World) {t f:Nat} {name:String} (h:It P t name=some f) (v:Value) (args:Array Value) (he:∀xs,(callFunc f xs).run P w=.ok (.enter f xs) w) :
  (callMethod (.iface t v) name args).run P w=.ok (.enter f (#[v]++args)) w:=by
 have hmeth:∀k,(method (k+1) t v name).run P w=.ok (f,v) w:=fun k=>by
  unfold It at h;split at h
  ·rename_i i d hi hu;have hfin:(∀e,d ≠ .pointer e)→(match i.methods.find? (·.name==name)with
     | some m=>(match m.path.toList,m.func with
      | [],some (f,false)=>some f
      | _,_=>none)
     | none=>none)=some f→(method (k+1) t v name).run P w=.ok (f,v) w:=fun hd h=>by
    split at h
    ·rename_i m hm;split at h
     ·rename_i f' hp hf;cases h;unfold method;have hrec:∀o,(receiverAt t (.val v) false o).run P w=.ok v w:=fun o=>by
       unfold receiverAt;rw[Sem.run_bind,run_underlying hu w];cases d<;>first|exact absurd rfl (hd _)|rfl
      simp[typeInfo,hi,hm,hp,follow,hf,hrec]
     ·cases h
    ·cases h
   cases d<;>first|(cases h; done)|exact hfin (fun e q=>by cases q) h
  ·cases h
 unfold callMethod;have hk:∃k,P.types.size+Made.depth=k+1:=⟨P.types.size+99,rfl⟩
 obtain⟨k,hk⟩:=hk;simp[Sem.run_bind,run_program,hk,hmeth,he]
theorem VT {l:List At} {i n:Nat} {s:List At} (hs:gS l i n=some s):cF s=n:=by
 obtain⟨p,r,e,hp,ht⟩:=pH hs;exact ht
theorem IR {M:List Fact} {base:Nat} {β:Nat→Bk} {a:Act} {w:World} (hM:∀φ∈M,φ.ok base β a w) {ky:Option Nat} {v:Value} {p:List Prop} {u:AV} (h:Pp M ky v=some (p,u)) (hp:aZ p):u.den β=v:=by
 unfold Pp at h;split at h
 ·cases h; rfl
 ·rename_i k;split at h
  ·rename_i b n m b' hb;cases h;have:=hM _ (gK hb);simp only[Fact.ok]at this;obtain⟨rfl,_⟩:=hp;simp[AV.den,this]
  ·rename_i b b' hb;cases h;have:=hM _ (gK hb);simp only[Fact.ok]at this;obtain⟨rfl,_⟩:=hp;simp[AV.den,this]
  ·cases h
theorem BG {M:List Fact} {base:Nat} {β:Nat→Bk} {a:Act} {w:World} (hM:∀φ∈M,φ.ok base β a w):∀{l:List AV} {vs:List Value},Xn M l=some vs→l.map (AV.den β)=vs
 | [],vs,h=>by cases h; rfl
 | .im v::r,vs,h=>by
  unfold Xn at h;split at h
  ·rename_i l hl;cases h;show v::r.map (AV.den β)=_;rw[BG hM hl]
  ·cases h
 | .pt k o::r,vs,h=>by
  unfold Xn at h;split at h
  ·rename_i b l hb hl;cases h;have:=hM _ (gK hb);simp only[Fact.ok]at this;show (AV.pt k o).den β::r.map (AV.den β)=_;rw[BG hM hl];simp[AV.den,this]
  ·cases h
 | .fl _::_,vs,h=>by cases h
 | .sl _ _ _ _::_,vs,h=>by cases h
 | .tu _::_,vs,h=>by cases h
 | .ic _ _::_,vs,h=>by cases h
 | .tf _ _ _ _::_,vs,h=>by cases h
 | .so _ _::_,vs,h=>by cases h
 | .tg _ _ _ _::_,vs,h=>by cases h
theorem Ia {base:Nat} {β:Nat→Bk} {a:Act} {w w':World} {d:Nat} {M:List Fact} (r:FR) (b:Nat) (h:d<a.tmps.size) (hB:base≤w.heap.size) (hb:Below w.heap.size w w')
  (h1:w.heap.size≤b) (h2:b<w'.heap.size) (h3:w'.rangeAt b 0 (aA r.l)) (h4:∀j,w'.frozen? ⟨b,j,none⟩=false) :
  PostB base β (β1 β d b) a w (some d) M [.slot d (bif r.post.isEmpty then .sl d 0 r.n r.m else .tf d r.n r.m r.post),.row d true r.l] none (a.put (some d) (r.val b)) w' where
 defers:=rfl
 size:=fP _ _ _
 tmps s hs:=lZ _ _ _ _ hs
 beta k hk:=Dk _ _ _ _ hk
 heap:=hb.size
 mem p hp _:=⟨hb.cell hp,hb.frozen hp⟩
 shape:=Shape.below hb
 below _ h:=h.trans (hb.mono hB)
 ok φ hφ:=by
  rcases List.mem_cons.1 hφ with rfl|hφ
  ·show (a.put (some d) (r.val b)).tmps[d]?=_;rw[iQ _ _ _ h];unfold FR.val;cases r.post.isEmpty<;>simp[AV.den,cE]
  ·cases List.mem_singleton.1 hφ;refine⟨by rw[cE]; exact h2,by rw[cE]; exact h3,fun _=>⟨by rw[cE]; exact Nat.le_trans hB h1,by rw[cE],fun j=>by rw[cE]; exact h4 j⟩,fun h=>by cases h⟩
 rows k l hk:=by
  rcases List.mem_cons.1 hk with hk|hk
  ·cases hk
  ·cases List.mem_singleton.1 hk;exact Or.inl ⟨by rw[cE]; exact h1,rfl⟩
 one k k' l l' hk hk':=by
  rcases List.mem_cons.1 hk with hk|hk
  ·cases hk
  ·rcases List.mem_cons.1 hk' with hk'|hk'
   ·cases hk'
   ·cases List.mem_singleton.1 hk; cases List.mem_singleton.1 hk'; rfl
 kills k hk:=by cases hk
theorem VV {v:Value} (h:IU v=true):v.oneCell'=true:=by cases v<;>first|rfl|cases h
theorem BK:∀{p:List At},p.all cOk=true→∀v∈aA p,v.oneCell'=true
 | [],_,v,hv=>by cases hv
 | x::r,h,v,hv=>by
  rw[List.all_cons,Bool.and_eq_true]at h
  rcases List.mem_append.1 hv with hv|hv
  ·cases x with
   | f x=>simp only[At.cells,w4,List.mem_cons,List.not_mem_nil,or_false]at hv; rcases hv with rfl|rfl|rfl|rfl<;>rfl
   | q x=>simp only[At.cells,w4,List.mem_cons,List.not_mem_nil,or_false]at hv; rcases hv with rfl|rfl|rfl|rfl<;>rfl
   | c u=>cases List.mem_singleton.1 hv; exact VV h.1
  ·exact BK h.2 v hv
theorem ZO {base:Nat} {β:Nat→Bk} {a:Act} {w w':World} {d:Nat} {M:List Fact} (r:FS) (b cap:Nat) (h:d<a.tmps.size) (hB:base≤w.heap.size) (hb:Below w.heap.size w w')
  (h1:w.heap.size≤b) (h2:b<w'.heap.size) (h3:w'.rangeAt b 0 (aA r.l)) (h4:∀j,w'.frozen? ⟨b,j,none⟩=false) (h5:r.ap=true→AppAt w' b r.e r.sz r.n cap) :
  PostB base β (β2 β d b cap) a w (some d) M (.slot d (bif r.lone then .so d r.n else .tg d r.n r.ante r.post) :: .row d true r.l::(bif r.ap then [.app d r.e r.sz r.n]else [])) none (a.put (some d) (r.val b cap)) w' where
 defers:=rfl
 size:=fP _ _ _
 tmps s hs:=lZ _ _ _ _ hs
 beta k hk:=Zb _ _ _ _ _ hk
 heap:=hb.size
 mem p hp _:=⟨hb.cell hp,hb.frozen hp⟩
 shape:=Shape.below hb
 below _ h:=h.trans (hb.mono hB)
 ok φ hφ:=by
  rcases List.mem_cons.1 hφ with rfl|hφ
  ·show (a.put (some d) (r.val b cap)).tmps[d]?=_;rw[iQ _ _ _ h];unfold FS.val;cases r.lone<;>simp[AV.den,dF]
  rcases List.mem_cons.1 hφ with rfl|hφ
  ·refine⟨by rw[dF]; exact h2,by rw[dF]; exact h3,fun _=>⟨by rw[dF]; exact Nat.le_trans hB h1,by rw[dF],fun j=>by rw[dF]; exact h4 j⟩,fun h=>by cases h⟩
  ·cases hap:r.ap<;>rw[hap]at hφ
   ·cases hφ
   ·cases List.mem_singleton.1 hφ;show AppAt w' (β2 β d b cap d).1 _ _ _ (β2 β d b cap d).2.2;rw[dF]; exact h5 hap
 rows k l hk:=by
  rcases List.mem_cons.1 hk with hk|hk
  ·cases hk
  rcases List.mem_cons.1 hk with hk|hk
  ·cases hk;exact Or.inl ⟨by rw[dF]; exact h1,rfl⟩
  ·cases hap:r.ap<;>rw[hap]at hk
   ·cases hk
   ·cases List.mem_singleton.1 hk
 one k k' l l' hk hk':=by
  have key:∀k l,Fact.row k true l∈(Fact.slot d (bif r.lone then AV.so d r.n else .tg d r.n r.ante r.post) :: .row d true r.l::(bif r.ap then [.app d r.e r.sz r.n]else []))→k=d:=fun k l hk=>by
   rcases List.mem_cons.1 hk with hk|hk
   ·cases hk
   rcases List.mem_cons.1 hk with hk|hk
   ·cases hk; rfl
   ·cases hap:r.ap<;>rw[hap]at hk
    ·cases hk
    ·cases List.mem_singleton.1 hk
  rw[key k l hk,key k' l' hk']
 onlyOwn k l h:=by
  simp only[List.mem_cons,reduceCtorEq,false_or,Fact.row.injEq,Bool.false_eq_true,false_and,and_false]at h;cases hq:r.ap<;>rw[hq]at h
  ·cases h
  ·simp at h
 kills k hk:=by cases hk
theorem LB (w:World) (p:Addr) (v:Value):Shape w (w.setCell p v):=fun b cur e hb=>by
 by_cases h:b=p.block
 ·subst h;refine⟨if p.spot.isSome then cur else cur.setIfInBounds p.off v,?_,?_⟩
  ·simp[World.setCell,Array.getElem?_modify,hb]
  ·split<;>simp
 ·exact⟨cur,(Below.heap_setCell w p v b h).trans hb,rfl⟩
theorem nB (b:Nat):∀(vs:List Value) (o:Nat) (w:World),Shape w (w.setCells b o vs)
 | [],_,w=>Shape.refl w
 | v::r,o,w=>(LB w _ v).trans (nB b r (o+1) _)
theorem aPk {w:World} {b e sz n cap:Nat} {xs:List Value} (h:AppAt w b e sz n cap) (hr:w.rangeAt b 0 xs) (hl:xs.length=n*sz):w.ownsRow 0 e sz (.slice (some ⟨b,0,none⟩) n cap) n xs:=by
 obtain⟨cur,h1,h2,h3,h4⟩:=h;refine⟨hl,.inr ⟨b,cap,cur,rfl,Nat.zero_le _,h1,h2,h3,h4,?_⟩⟩;have hle:n*sz≤cur.size:=by rw[h4]; exact Nat.mul_le_mul_right _ h2
 apply List.ext_getElem?;intro j
 by_cases hj:j<n*sz
 ·have h5:=hr j (xs[j]'(by omega)) (List.getElem?_eq_getElem _);rw[Nat.zero_add,cell_of_row w b j cur e (0,0) h1]at h5;rw[List.getElem?_take,if_pos hj,Array.getElem?_toList,h5,List.getElem?_eq_getElem]
 ·rw[List.getElem?_eq_none (by simp; omega),List.getElem?_eq_none (by omega)]
theorem QX {w:World} {base b e sz n cap:Nat} {xs:List Value} (h:w.ownsRow base e sz (.slice (some ⟨b,0,none⟩) n cap) n xs):AppAt w b e sz n cap∧base≤b∧b<w.heap.size∧w.rangeAt b 0 xs∧∀j,w.frozen? ⟨b,j,none⟩=false:=by
 have h0:=h;obtain⟨hl,⟨e0,_⟩|⟨g,c,cur,e1,hb,hg,h2,h3,h4,h5⟩⟩:=h
 ·cases e0
 ·cases e1;refine⟨⟨cur,hg,h2,h3,h4⟩,hb,(Array.getElem?_eq_some_iff.1 hg).1,fun j v hj => ?_,h0.frozenAt⟩;rw[Nat.zero_add,h0.cellAt j (by rw[←hl]; exact (List.getElem?_eq_some_iff.1 hj).1)];exact hj
theorem aFT {P:Program} {t e sz by8:Nat} (h:apT P t=some (e,sz,by8)):P.underlying t=some (.slice e)∧∃i z,P.info? e=some i∧i.zero=some z∧i.size=sz∧i.bytes=by8∧z.cells.size=sz∧0<sz:=by
 unfold apT at h;split at h
 ·rename_i e' hu;split at h
  ·rename_i i hi;split at h
   ·rename_i z hz;cases hb:(Nat.beq z.cells.size i.size&&Nat.blt 0 i.size)<;>rw[hb]at h
    ·cases h
    ·cases h;rw[Bool.and_eq_true]at hb;exact⟨hu,i,z,hi,hz,rfl,rfl,Nat.eq_of_beq_eq_true hb.1,by simpa using hb.2⟩
   ·cases h
  ·cases h
 ·cases h
theorem YG {P:Program} (w:World) {t ty e sz by8:Nat} (hT:apT P t=some (e,sz,by8)) {u:Value} {n:Nat} {xs:List Value}
  (hu:(u=.slice none 0 0∧n=0∧xs=[])∨∃b cap,u=.slice (some ⟨b,0,none⟩) n cap∧AppAt w b e sz n cap∧w.rangeAt b 0 xs∧xs.length=n*sz)
  {ad:Addr} {m c:Nat} {news:List Value} (hl:news.length=m*sz) (hnews:∀j v,news[j]?=some v→w.cell? (ad.add j)=some v) (h1:∀v∈news,v.oneCell'=true)
  (h0:0<m) (hbytes:(n+m)*by8≤140737488355328) (hmax:n+m≤maxLen) :
  ∃b cap w',(Builtin.append_ #[t,t] ty #[u,.slice (some ad) m c]).run P w=.ok (.slice (some ⟨b,0,none⟩) (n+m) cap) w'∧AppAt w' b e sz (n+m) cap∧b<w'.heap.size∧w'.rangeAt b 0 (xs++news)∧(∀j,w'.frozen? ⟨b,j,none⟩=false) ∧
   w.grownBy w' u.ownBlock∧Shape w w'∧(w.heap.size≤b∨∃cap0,u=.slice (some ⟨b,0,none⟩) n cap0):=by
 obtain⟨ht,i,z,hi,hz,hsize,hby,hzs,hsz⟩:=aFT hT
 rcases hu with⟨rfl,rfl,rfl⟩|⟨b,cap,rfl,ha,hr,hx⟩
 ·obtain⟨v',w',hr,hown,hg,hne⟩:=run_append_own (P:=P) w w.heap.size t ty e i z sz by8 ht hi hz hsize hby hzs hsz _ 0 [] (World.ownsRow_nil w w.heap.size e sz) ad m c news hl hnews h1 hmax hbytes (Nat.le_refl _);have hv:∃b cap,v'=.slice (some ⟨b,0,none⟩) (0+m) cap:=by
   obtain⟨_,⟨rfl,h2⟩|⟨g,c',cur,rfl,_⟩⟩:=hown
   ·omega
   ·exact⟨g,c',rfl⟩
  obtain⟨b,cap,rfl⟩:=hv;obtain⟨a1,a2,a3,a4,a5⟩:=QX hown;exact⟨b,cap,w',hr,a1,a3,a4,a5,hg,fun q cur e' hq=>⟨cur,(hg.block q (Array.getElem?_eq_some_iff.1 hq).1 (by simp[Value.ownBlock])).trans hq,rfl⟩,Or.inl a2⟩
 ·have hown:=aPk ha hr hx
  by_cases hroom:n+m≤cap
  ·obtain⟨w',hr',hown',hg⟩:=run_append_fits (P:=P) w 0 t ty e i sz ht hi hsize b n cap xs hown ad m c news hl hnews h1 hroom;obtain⟨a1,a2,a3,a4,a5⟩:=QX hown';refine⟨b,cap,w',hr',a1,a3,a4,a5,hg,fun q cur e' hq => ?_,Or.inr ⟨cap,rfl⟩⟩
   by_cases hqb:q=b
   ·subst hqb;obtain⟨c0,k1,k2,k3,k4⟩:=ha;rw[k1]at hq;cases hq;obtain⟨c1,m1,m2,m3,m4⟩:=a1;exact⟨c1,m1,by rw[m4,k4]⟩
   ·exact⟨cur,(hg.block q (Array.getElem?_eq_some_iff.1 hq).1 (by simpa using hqb)).trans hq,rfl⟩
  ·obtain⟨v',w',hr',hown',hg,_⟩:=run_append_own (P:=P) w 0 t ty e i z sz by8 ht hi hz hsize hby hzs hsz _ n xs hown ad m c news hl hnews h1 hmax hbytes (Nat.zero_le _);have holds:∀j v,xs[j]?=some v→w.cell? ((⟨b,0,none⟩:Addr).add j)=some v:=hown.cells (g:=b) rfl
   have hr2:=run_append_grow (P:=P) w t ty e i z ht hi hz ⟨b,0,none⟩ n cap xs (by rw[hsize]; exact hx) holds ad m c news (by rw[hsize]; exact hl) hnews (by omega) (by simp only[maxLen]at hmax; omega) (growslice_fits (by omega) (by rw[hby]; exact hbytes));rw[hr']at hr2;injection hr2 with hv hw;subst hv;obtain⟨a1,a2,a3,a4,a5⟩:=QX hown';exact⟨_,_,w',hr',a1,a3,a4,a5,hg,by rw[hw]; exact Shape.trans (b:=w.drew) (fun q cur e' hq=>⟨cur,hq,rfl⟩) (Shape.alloc _ _),Or.inl (Nat.le_refl _)⟩
theorem ZP {base:Nat} {β:Nat→Bk} {a:Act} {w w':World} {d:Nat} {M:List Fact} {kl:Option Nat} {L:List At} {e sz N b cap:Nat} {row:Option Nat} (h:d<a.tmps.size) (hB:base≤w.heap.size)
  (h1:AppAt w' b e sz N cap) (h2:b<w'.heap.size) (h3:w'.rangeAt b 0 (aA L)) (h4:∀j,w'.frozen? ⟨b,j,none⟩=false) (hg:w.grownBy w' row) (hs:Shape w w')
  (hk:(kl=none∧row=none∧w.heap.size≤b)∨∃k l0,kl=some k∧row=some (β k).1∧base≤(β k).1∧Fact.row k true l0∈M∧(w.heap.size≤b∨b=(β k).1)) :
  PostB base β (β2 β d b cap) a w (some d) M [.slot d (.so d N),.row d true L,.app d e sz N] kl (a.put (some d) (.slice (some ⟨b,0,none⟩) N cap)) w':=by
 have hbb:base≤b:=by
  rcases hk with⟨_,_,h⟩|⟨k,l0,_,_,hb,_,h|h⟩<;>omega
 have hmem:∀q,q<w.heap.size→(∀k,kl=some k→q≠(β k).1)→w'.heap[q]?=w.heap[q]?:=fun q hq hne=>by
  refine hg.block q hq fun e => ?_
  rcases hk with⟨_,h,_⟩|⟨k,l0,hkl,h,_⟩
  ·rw[h]at e; cases e
  ·rw[h]at e;exact hne k hkl (by injection e)
 exact {
  defers:=rfl
  size:=fP _ _ _
  tmps:=fun s hs=>lZ _ _ _ _ hs
  beta:=fun k hk=>Zb _ _ _ _ _ hk
  heap:=hg.size
  mem:=fun p hp hne=>⟨World.cell?_of_block (hmem p.block hp hne),World.frozen?_of_block (hmem p.block hp hne)⟩
  shape:=hs
  below:=fun w0 hw0=>hw0.grown hg hB fun k hk'=>by
   rcases hk with⟨_,h,_⟩|⟨k0,l0,_,h,hb,_⟩
   ·rw[h]at hk'; cases hk'
   ·rw[h]at hk'; cases hk'; exact hb
  ok:=fun φ hφ=>by
   simp only[List.mem_cons,List.not_mem_nil,or_false]at hφ
   rcases hφ with rfl|rfl|rfl
   ·show (a.put (some d) _).tmps[d]?=_;rw[iQ _ _ _ h];simp[AV.den,dF]
   ·refine⟨by rw[dF]; exact h2,by rw[dF]; exact h3,fun _=>⟨by rw[dF]; exact hbb,by rw[dF],fun j=>by rw[dF]; exact h4 j⟩,fun h=>by cases h⟩
   ·show AppAt w' (β2 β d b cap d).1 _ _ _ (β2 β d b cap d).2.2;rw[dF]; exact h1
  rows:=fun k l hk'=>by
   simp only[List.mem_cons,List.not_mem_nil,or_false,reduceCtorEq,false_or]at hk';cases hk'
   rcases hk with⟨_,_,h⟩|⟨k0,l0,hkl,_,_,hm,h|h⟩
   ·exact Or.inl ⟨by rw[dF]; exact h,rfl⟩
   ·exact Or.inl ⟨by rw[dF]; exact h,rfl⟩
   ·exact Or.inr (Or.inr ⟨rfl,k0,l0,hkl,by rw[dF]; exact h,hm⟩)
  one:=fun k k' l l' hk hk'=>by
   simp only[List.mem_cons,List.not_mem_nil,or_false,reduceCtorEq,false_or]at hk hk';cases hk; cases hk'; rfl
  kills:=fun k hk'=>by
   rcases hk with⟨h,_⟩|⟨k0,l0,hkl,_,_,hm,_⟩
   ·rw[h]at hk'; cases hk'
   ·rw[hkl]at hk'; cases hk'; exact⟨l0,hm⟩ }
theorem Cw {M:List Fact} {base:Nat} {β:Nat→Bk} {a:Act} {w:World} (hM:∀φ∈M,φ.ok base β a w) {sz:Nat} {v:AV} {m:Nat} {news:List At} (h:apS M sz v=some (m,news)) :
  ∃b o c,v.den β=.slice (some ⟨b,o,none⟩) m c∧w.rangeAt b o (aA news)∧cF news=m*sz:=by
 unfold apS at h;split at h
 ·rename_i k o n c;split at h
  ·rename_i ow l hr;split at h
   ·rename_i r hd;split at h
    ·rename_i t ht;cases h;obtain⟨h1,h2,_⟩:=hM _ (bH hr);obtain⟨p,e,hp⟩:=JJ hd;obtain⟨q,e2,hq⟩:=tV _ _ _ ht;refine⟨_,_,_,rfl,fun j u hj => ?_,hq⟩;have hlt:=(List.getElem?_eq_some_iff.1 hj).1;have:=h2 (o+j) u (by rw[e,e2,aP,aP,List.getElem?_append_right (by rw[aT,hp]; omega),aT,hp,Nat.add_sub_cancel_left,List.getElem?_append_left hlt]; exact hj)
     rwa [←Nat.add_assoc]at this
    ·cases h
   ·cases h
  ·cases h
 ·rename_i k n;split at h
  ·rename_i ow l hr;split at h
   ·rename_i t ht;cases h;obtain⟨h1,h2,_⟩:=hM _ (bH hr);obtain⟨q,e2,hq⟩:=tV _ _ _ ht;refine⟨_,_,_,rfl,fun j u hj => ?_,hq⟩;have hlt:=(List.getElem?_eq_some_iff.1 hj).1;exact h2 j u (by rw[e2,aP,List.getElem?_append_left hlt]; exact hj)
   ·cases h
  ·cases h
 ·cases h
theorem aFS {E:Env} {M:List Fact} {base:Nat} {β:Nat→Bk} {a:Act} {w:World} (hM:∀φ∈M,φ.ok base β a w) (hX:OV E.P E.q.x w) {sz d:Nat} {v:AV} {m:Nat} {news:List At} {ps:List Prop} (h:apV E M sz d v=some (m,news,ps)) (hp:aZ ps) :
  ∃b o c,v.den β=.slice (some ⟨b,o,none⟩) m c∧w.rangeAt b o (aA news)∧cF news=m*sz:=by
 unfold apV at h;split at h
 ·split at h
  ·rename_i k o n c;split at h
   ·rename_i ow l hr;cases h;obtain⟨h1,h2,_⟩:=hM _ (bH hr);obtain⟨p,s,e,hq,hs⟩:=pH hp.1;refine⟨_,_,_,rfl,fun j u hj => ?_,hs⟩;have hlt:=(List.getElem?_eq_some_iff.1 hj).1;have:=h2 (o+j) u (by rw[e,aP,aP,List.getElem?_append_right (by rw[aT,hq]; omega),aT,hq,Nat.add_sub_cancel_left,List.getElem?_append_left hlt]; exact hj)
    rwa [←Nat.add_assoc]at this
   ·cases h
  ·rename_i k n;split at h
   ·rename_i ow l hr;cases h;obtain⟨h1,h2,_⟩:=hM _ (bH hr);obtain⟨p,s,e,hq,hs⟩:=pH hp.1;refine⟨_,_,_,rfl,fun j u hj => ?_,hs⟩;have hlt:=(List.getElem?_eq_some_iff.1 hj).1;have:=h2 (0+j) u (by rw[e,aP,aP,List.getElem?_append_right (by rw[aT,hq]; omega),aT,hq,Nat.add_sub_cancel_left,List.getElem?_append_left hlt]; exact hj)
    rwa [Nat.zero_add]at this
   ·cases h
  ·rename_i b o n c;cases h;exact⟨b,o,c,rfl,hX.1 _ _ _ hp.1,hp.2.1⟩
  ·cases h
 ·split at h
  ·rename_i m' t hS;cases h;exact Cw hM hS
  ·cases h
theorem aFR {M:List Fact} {base:Nat} {β:Nat→Bk} {a:Act} {w:World} (hM:∀φ∈M,φ.ok base β a w) {e sz:Nat} {u:AV} {n:Nat} {l:List At} {kl:Option Nat} {ps:List Prop} (h:apW M e sz u=some (n,l,kl,ps)) (hp:aZ ps) :
  ((u.den β=.slice none 0 0∧n=0∧aA l=[])∧kl=none)∨∃k l0,kl=some k∧Fact.row k true l0∈M∧l0=l∧base≤(β k).1∧u.den β=.slice (some ⟨(β k).1,0,none⟩) n (β k).2.2∧AppAt w (β k).1 e sz n (β k).2.2∧w.rangeAt (β k).1 0 (aA l)∧(aA l).length=n*sz:=by
 unfold apW at h;split at h
 ·cases h;exact Or.inl ⟨⟨rfl,rfl,rfl⟩,rfl⟩
 ·rename_i k n';split at h
  ·rename_i l' e' sz' n2 hr ha;cases hq:(Nat.beq e e'&&Nat.beq sz sz')<;>rw[hq]at h
   ·cases h
   ·cases h;simp only[Bool.and_eq_true]at hq;obtain⟨q1,q2⟩:=hq;cases Nat.eq_of_beq_eq_true q1;cases Nat.eq_of_beq_eq_true q2;obtain⟨p1,p2,_⟩:=hp;obtain⟨g1,g2,g3,_⟩:=hM _ (bH hr);obtain⟨g4,g5,g6⟩:=g3 rfl;have ga:=hM _ (kS ha);simp only[Fact.ok]at ga;rw[←p1]at ga;refine Or.inr ⟨k,l,rfl,bH hr,rfl,g4,?_,ga,by rw[←g5]; exact g2,by rw[aT]; exact p2⟩;simp only[AV.den,g5]
  ·cases h
 ·cases h
section
variable {E:Env} {base:Nat} {β:Nat→Bk} {a:Act} {w:World} {M:List Fact} {d:Nat} {o:Oper} {pre:List Prop} {out:List Fact} {kill:Option Nat} {K:Act→World→Prop} {Q:Exit→Act→World→Prop}
theorem aR (hd:d<a.tmps.size) (hdst:o.dst=some d) (v:AV) (hr:(execOp a.eval o).run E.P w=.ok (.value (v.den β)) w)
  (hK:∀β' a' w',PostB base β β' a w (some d) M [.slot d v] none a' w'→K a' w'):o.wp E.P a w K Q :=
 xG hr (by rw[hdst]; exact hK _ _ _ (ML v hd))
theorem RL (hB:base≤w.heap.size) (hd:d<a.tmps.size) (hdst:o.dst=some d) (v:AV) (l:List At) (t:TypeId)
  (hr:(execOp a.eval o).run E.P w=.ok (.value (v.den (β1 β d w.heap.size))) (w.alloc (.cells (aA l).toArray t)))
  (hK:∀β' a' w',PostB base β β' a w (some d) M [.slot d v,.row d true l] none a' w'→K a' w'):o.wp E.P a w K Q :=
 xG hr (by rw[hdst]; exact hK _ _ _ (aBO v l t hd hB))
variable (hC:(∀φ∈M,φ.ok base β a w)∧base≤w.heap.size∧d<a.tmps.size∧o.dst=some d)
variable (hK:∀β' a' w',PostB base β β' a w (some d) M out kill a' w'→K a' w')
include hC hK
theorem aHn {x:Operand} (ho:o.op=.move x) (h:cD E M d (.move x)=some (pre,out,kill)):o.wp E.P a w K Q:=by
 obtain⟨hM,hB,hd,hdst⟩:=hC;simp only[cD]at h;split at h
 ·rename_i v hv;cases h;exact aR hd hdst v (by simp[execOp,ho,aM hM hv]) hK
 ·cases h
theorem Tj {x:Operand} (ho:o.op=.assign x) (h:cD E M d (.assign x)=some (pre,out,kill)):o.wp E.P a w K Q:=by
 obtain⟨hM,hB,hd,hdst⟩:=hC;simp only[cD]at h;split at h
 ·rename_i v hv;cases h;exact aR hd hdst v (by simp[execOp,ho,aM hM hv]) hK
 ·cases h
theorem aHm {c x y:Operand} (ho:o.op=.pick c x y) (h:cD E M d (.pick c x y)=some (pre,out,kill)):o.wp E.P a w K Q:=by
 obtain⟨hM,hB,hd,hdst⟩:=hC;simp only[cD]at h;split at h
 ·rename_i b v u hc hx hy;cases h;refine aR hd hdst _ ?_ hK;have hc':a.eval c=.bool b:=aM hM hc;cases b
  ·simp[execOp,ho,hc',aM hM hy,asBool]
  ·simp[execOp,ho,hc',aM hM hx,asBool]
 ·cases h
theorem aAr {t:TypeId} (ho:o.op=.alloc t) (h:cD E M d (.alloc t)=some (pre,out,kill)):o.wp E.P a w K Q:=by
 obtain⟨hM,hB,hd,hdst⟩:=hC;simp only[cD]at h;split at h
 ·rename_i l hl;cases h;unfold aLv at hl;split at hl
  ·rename_i i hi;split at hl
   ·rename_i z hz;cases hl;refine RL hB hd hdst _ _ t ?_ hK;simp[execOp,ho,Instr.alloc,zeroValue,typeInfo,hi,hz,newVar,newRow,AV.den,cE,Ov]
   ·cases hl
  ·cases hl
 ·cases h
theorem aOc {t:TypeId} {x:Operand} (ho:o.op=.box t x) (h:cD E M d (.box t x)=some (pre,out,kill)):o.wp E.P a w K Q:=by
 obtain⟨hM,hB,hd,hdst⟩:=hC;simp only[cD]at h;split at h
 ·rename_i v hv;split at h
  ·rename_i p hp;cases h;refine RL hB hd hdst _ _ t ?_ hK;have hc:=wC hp β;have he:=aM hM hv;rw[show AV.den (β1 β d w.heap.size) (.pt d 0)=.pointer (some ⟨w.heap.size,0,none⟩) by simp[AV.den,cE]];simp[execOp,ho,Instr.box,newVar,newRow,he,hc]
  ·cases h
 ·cases h
theorem aAp {t:TypeId} {ps:Array (Nat×Operand)} (ho:o.op=.build t ps) (h:cD E M d (.build t ps)=some (pre,out,kill)):o.wp E.P a w K Q:=by
 obtain⟨hM,hB,hd,hdst⟩:=hC;simp only[cD]at h;split at h
 ·rename_i qs hq;split at h
  ·rename_i l hl;cases h;refine aR hd hdst _ ?_ hK;have:=Cu hM hq hl;have hb:=run_build w t (ps.map fun (i,x)=>(i,a.eval x)) _ (by rw[Array.toList_map]; exact this);simp[execOp,ho,hb,AV.den,aJG]
  ·cases h
 ·cases h
theorem KZ {t:TypeId} {n:Nat} {ps:Array (Nat×Operand)} (ho:o.op=.buildSlice t n ps) (h:cD E M d (.buildSlice t n ps)=some (pre,out,kill)):o.wp E.P a w K Q:=by
 obtain⟨hM,hB,hd,hdst⟩:=hC;simp only[cD]at h;split at h
 ·rename_i qs hq;split at h
  ·rename_i l hl;cases h;unfold Rz at hl;split at hl
   ·rename_i e hu;split at hl
    ·rename_i ie hie;split at hl
     ·rename_i z hz;cases hc:(Nat.ble (n*ie.size) 4096 && !(Nat.beq (n*ie.size) 0))<;>rw[hc]at hl
      ·cases hl
      ·simp only[cond_true]at hl;simp only[Bool.and_eq_true,Bool.not_eq_true',Nat.ble_eq]at hc;have hpos:¬n*ie.size=0:=fun e=>by rw[e]at hc; exact absurd hc.2 (by decide)
       have hs:=rH hM _ ps.toList qs _ _ hq hl;rw[EZ,Array.toArray_toList]at hs;refine RL hB hd hdst _ _ e ?_ hK;have hb:=run_buildSlice (P:=E.P) w t e n (ps.map fun (i,x)=>(i,a.eval x)) _ ie z hu hie hz (by omega) hpos (by rw[Array.toList_map]; exact hs);simp[execOp,ho,hb,AV.den,cE]
     ·cases hl
    ·cases hl
   ·cases hl
  ·cases h
 ·cases h
theorem aHo {t:TypeId} {x:Operand} (hX:OV E.P E.q.x w) (ho:o.op=.load t x) (h:cD E M d (.load t x)=some (pre,out,kill)) (hp:aZ pre):o.wp E.P a w K Q:=by
 obtain⟨hM,hB,hd,hdst⟩:=hC;simp only[cD]at h;split at h
 ·rename_i k i hx;split at h
  ·rename_i ow l n hr hs ht;have hg':∃s,gS l i n=some s∧out=[.slot d (.fl s)]∧kill=none:=by
    split at h
    ·rename_i s hs';cases h;exact⟨s,hp.1,rfl,rfl⟩
    ·split at h
     ·rename_i s hg; cases h; exact⟨s,hg,rfl,rfl⟩
     ·cases h
   obtain⟨s,hg,rfl,rfl⟩:=hg'
   ·obtain⟨i',hi,hn⟩:=kO hs;obtain⟨ds,hu,hd'⟩:=lM ht;obtain⟨h1,h2,_⟩:=hM _ (bH hr);refine aR hd hdst _ ?_ hK;have:=run_loadAt_mid (P:=E.P) w _ _ t (aA s) ds (AH h2 hg) hu hd' (by rw[hi]; simp[aT,VT hg,hn]);have hx':a.eval x=.pointer (some ⟨(β k).1,(β k).2.1+i,none⟩):=aM hM hx;simp[execOp,ho,hx',this,AV.den]
  ·rename_i ow l hr hs ht;cases hsc:oD E.P t<;>rw[hsc]at h
   ·cases h
   ·simp only[cond_true]at h;have hg':∃v u,cellAt l i=some v∧u.den β=v∧out=[.slot d u]∧kill=none:=by
     split at h
     ·rename_i s hs';split at h
      ·rename_i p u hk;cases h;exact⟨s,u,hp.1,IR hM hk hp.2,rfl,rfl⟩
      ·cases h
     ·split at h
      ·rename_i s hg;split at h
       ·rename_i p u hk;cases h;exact⟨s,u,hg,IR hM hk hp,rfl,rfl⟩
       ·cases h
      ·cases h
    obtain⟨v,u,hg,hu,rfl,rfl⟩:=hg';obtain⟨h1,h2,_⟩:=hM _ (bH hr);refine aR hd hdst _ ?_ hK;have hc:w.cell? ⟨(β k).1,(β k).2.1+i,none⟩=some v:=h2 i v (lQ hg);have hx':a.eval x=.pointer (some ⟨(β k).1,(β k).2.1+i,none⟩):=aM hM hx;have hl:=sM w ⟨(β k).1,(β k).2.1+i,none⟩ hsc hc;simp[execOp,ho,Instr.loadAt,Instr.sureAddr,hx',hl,hu]
  ·cases h
 ·rename_i b i hx;have hx':a.eval x=.pointer (some ⟨b,i,none⟩):=aM hM hx;split at h
  ·rename_i n hs ht;split at h
   ·rename_i s hl;cases h;obtain⟨i',hi,hn⟩:=kO hs;obtain⟨ds,hu,hd'⟩:=lM ht;have h2:=hX.1 _ _ _ hp.1;refine aR hd hdst _ ?_ hK;have:=run_loadAt_mid (P:=E.P) w _ _ t (aA s) ds h2 hu hd' (by rw[hi]; simp[aT,hp.2.1,hn]);simp[execOp,ho,hx',this,AV.den]
   ·cases h
  ·rename_i hs ht;cases hsc:oD E.P t<;>rw[hsc]at h
   ·cases h
   ·simp only[cond_true]at h;split at h
    ·rename_i v hv;cases h;have h2:=hX.1 _ _ _ hp.1;refine aR hd hdst _ ?_ hK;have hc:w.cell? ⟨b,i,none⟩=some v:=h2 0 v rfl;have hl:=sM w ⟨b,i,none⟩ hsc hc;simp[execOp,ho,Instr.loadAt,Instr.sureAddr,hx',hl,AV.den]
    ·cases h
  ·cases h
 ·cases h
theorem aAn {t:TypeId} {x:Operand} (ho:o.op=.makeInterface t x) (h:cD E M d (.makeInterface t x)=some (pre,out,kill)):o.wp E.P a w K Q:=by
 obtain⟨hM,hB,hd,hdst⟩:=hC;simp only[cD]at h;split at h
 ·rename_i l hx;cases hi:aDT E.P t<;>rw[hi]at h
  ·cases h;have hx':a.eval x=.agg (aA l).toArray:=aM hM hx;refine aR hd hdst _ ?_ hK;have hm:(Instr.makeInterface t (.agg (aA l).toArray)).run E.P w=.ok (.iface t (.agg (aA l).toArray)) w:=by
    unfold aDT at hi;unfold Instr.makeInterface;split at hi
    ·cases hi
    ·rename_i dd hne hu;rw[Sem.run_bind,run_underlying hu w];cases dd<;>first|rfl|exact absurd rfl (hne _)
    ·cases hi
   simp[execOp,ho,hx',hm,AV.den]
  ·cases h
 ·cases h
theorem VQ {x:Operand} (ho:o.op=.nilCheck x) (h:cD E M d (.nilCheck x)=some (pre,out,kill)):o.wp E.P a w K Q:=by
 obtain⟨hM,hB,hd,hdst⟩:=hC;simp only[cD]at h;split at h
 ·rename_i k j hx;cases h;have hx':a.eval x=.pointer (some ⟨(β k).1,(β k).2.1+j,none⟩):=aM hM hx;exact aR hd hdst _ (by simp[execOp,ho,hx',AV.den]) hK
 ·rename_i p hx;cases h;have hx':a.eval x=.pointer (some p):=aM hM hx;exact aR hd hdst _ (by simp[execOp,ho,hx',AV.den]) hK
 ·cases h
theorem Ee {src dst:TypeId} {x:Operand} (ho:o.op=.convert src dst x) (h:cD E M d (.convert src dst x)=some (pre,out,kill)) (hp:aZ pre):o.wp E.P a w K Q:=by
 obtain⟨hM,hB,hd,hdst⟩:=hC;simp only[cD]at h;split at h
 ·rename_i r v hr hx;cases h;have hx':a.eval x=v:=aM hM hx;have h1:=hp.1 w;refine aR hd hdst (.im r) ?_ hK;simp[execOp,ho,hx',h1,AV.den]
 ·cases h
theorem VR {fn:Fn} {first captured:Array Operand} (ho:o.op=.makeFunc fn first captured) (h:cD E M d (.makeFunc fn first captured)=some (pre,out,kill)):o.wp E.P a w K Q:=by
 obtain⟨hM,hB,hd,hdst⟩:=hC;simp only[cD]at h;split at h
 ·rename_i id;cases hb:Nat.beq first.size 0<;>rw[hb]at h
  ·cases h
  ·simp only[cond_true]at h;have z1:first = #[]:=Array.size_eq_zero_iff.1 (Nat.eq_of_beq_eq_true hb);subst z1;split at h
   ·rename_i l hl;split at h
    ·rename_i vs hv;cases h;have hargs:=yU hM hl;rw[BG hM hv]at hargs;have ea:captured.map a.eval=vs.toArray:=by rw[←Array.toArray_toList (xs:=captured.map a.eval),Array.toList_map,hargs]
     refine aR hd hdst (.im (.func (.func id) #[] vs.toArray)) ?_ hK;simp[execOp,ho,Instr.makeFunc,ea,AV.den]
    ·cases h
   ·cases h
 ·cases h
theorem PR {t:TypeId} {x y:Operand} (ho:o.op=.makeSlice t x y) (h:cD E M d (.makeSlice t x y)=some (pre,out,kill)) (hp:aZ pre):o.wp E.P a w K Q:=by
 obtain⟨hM,hB,hd,hdst⟩:=hC;simp only[cD]at h;split at h
 ·rename_i n L v u hm hx hy;cases h;have hx':a.eval x=v:=aM hM hx;have hy':a.eval y=u:=aM hM hy;obtain⟨e,he⟩:=hp.1;have h1:=he w;refine RL hB hd hdst _ _ e ?_ hK;simp[execOp,ho,hx',hy',h1,AV.den,cE]
 ·cases h
theorem aAo {s:TypeId} {x:Operand} {i:Nat} (ho:o.op=.fieldAddr s x i) (h:cD E M d (.fieldAddr s x i)=some (pre,out,kill)):o.wp E.P a w K Q:=by
 obtain⟨hM,hB,hd,hdst⟩:=hC;simp only[cD]at h;split at h
 ·rename_i k j fs hx hu;split at h
  ·rename_i f hf;split at h
   ·rename_i n hn;cases hb:Nat.beq n 0<;>rw[hb]at h
    ·cases h;refine aR hd hdst _ ?_ hK;have hx':a.eval x=.pointer (some ⟨(β k).1,(β k).2.1+j,none⟩):=aM hM hx;have hz:n≠0:=fun e=>by rw[e]at hb; cases hb
     simp[execOp,ho,hx',Instr.fieldAt,run_underlying hu,hf,Instr.sureAddr,fieldPlace,bM hn,hz,AV.den,Addr.add_mid,Nat.add_assoc]
    ·cases h
   ·cases h
  ·cases h
 ·rename_i b j fs hx hu;split at h
  ·rename_i f hf;split at h
   ·rename_i n hn;cases hb:Nat.beq n 0<;>rw[hb]at h
    ·cases h;refine aR hd hdst _ ?_ hK;have hx':a.eval x=.pointer (some ⟨b,j,none⟩):=aM hM hx;have hz:n≠0:=fun e=>by rw[e]at hb; cases hb
     simp[execOp,ho,hx',Instr.fieldAt,run_underlying hu,hf,Instr.sureAddr,fieldPlace,bM hn,hz,AV.den,Addr.add_mid,Nat.add_assoc]
    ·cases h
   ·cases h
  ·cases h
 ·cases h
theorem PS {t:TypeId} {x y:Operand} (ho:o.op=.indexAddr t x y) (h:cD E M d (.indexAddr t x y)=some (pre,out,kill)) (hp:aZ pre):o.wp E.P a w K Q:=by
 obtain⟨hM,hB,hd,hdst⟩:=hC;simp only[cD]at h;split at h
 ·rename_i i hidx;split at h
  ·rename_i k j kd q n e hx hy hu;have hx':a.eval x=.pointer (some ⟨(β k).1,(β k).2.1+j,none⟩):=aM hM hx;have hy':a.eval y=.int kd q:=aM hM hy;split at h
   ·rename_i s hs;cases h;obtain⟨rfl,hi,_⟩:=hp;refine aR hd hdst _ ?_ hK;simp[execOp,ho,hx',hy',Instr.indexAt,asIntOf,run_underlying hu,Instr.sureAddr,bM hs,hi,AV.den,Addr.add_mid,Nat.add_assoc]
   ·cases h
  ·rename_i k j n m kd q e hx hy hu;have hx':a.eval x=.slice (some ⟨(β k).1,(β k).2.1+j,none⟩) n m:=aM hM hx;have hy':a.eval y=.int kd q:=aM hM hy;split at h
   ·rename_i s hs;cases h;obtain⟨rfl,hi,_⟩:=hp;refine aR hd hdst _ ?_ hK;simp[execOp,ho,hx',hy',Instr.indexAt,asIntOf,run_underlying hu,Instr.sureAddr,bM hs,hi,AV.den,Addr.add_mid,Nat.add_assoc]
   ·cases h
  ·rename_i b j kd q n e hx hy hu;have hx':a.eval x=.pointer (some ⟨b,j,none⟩):=aM hM hx;have hy':a.eval y=.int kd q:=aM hM hy;split at h
   ·rename_i s hs;cases h;obtain⟨rfl,hi,_⟩:=hp;refine aR hd hdst _ ?_ hK;simp[execOp,ho,hx',hy',Instr.indexAt,asIntOf,run_underlying hu,Instr.sureAddr,bM hs,hi,AV.den,Addr.add_mid,Nat.add_assoc]
   ·cases h
  ·rename_i b j n m kd q e hx hy hu;have hx':a.eval x=.slice (some ⟨b,j,none⟩) n m:=aM hM hx;have hy':a.eval y=.int kd q:=aM hM hy;split at h
   ·rename_i s hs;cases h;obtain⟨rfl,hi,_⟩:=hp;refine aR hd hdst _ ?_ hK;simp[execOp,ho,hx',hy',Instr.indexAt,asIntOf,run_underlying hu,Instr.sureAddr,bM hs,hi,AV.den,Addr.add_mid,Nat.add_assoc]
   ·cases h
  ·cases h
 split at h
 ·rename_i k j kd i hx hy;have hx':a.eval x=.pointer (some ⟨(β k).1,(β k).2.1+j,none⟩):=aM hM hx;have hy':a.eval y=.int kd (Int.ofNat i):=aM hM hy;split at h
  ·rename_i n e hu;split at h
   ·rename_i s hs;cases hb:Nat.blt i n<;>rw[hb]at h
    ·cases h
    ·cases h;have hi:i<n:=by simpa using hb
     refine aR hd hdst _ ?_ hK;simp[execOp,ho,hx',hy',Instr.indexAt,asIntOf,run_underlying hu,Instr.sureAddr,bM hs,hi,AV.den,Addr.add_mid,Nat.add_assoc]
   ·cases h
  ·cases h
 ·rename_i k j n m kd i hx hy;have hx':a.eval x=.slice (some ⟨(β k).1,(β k).2.1+j,none⟩) n m:=aM hM hx;have hy':a.eval y=.int kd (Int.ofNat i):=aM hM hy;split at h
  ·rename_i e hu;split at h
   ·rename_i s hs;cases hb:Nat.blt i n<;>rw[hb]at h
    ·cases h
    ·cases h;have hi:i<n:=by simpa using hb
     refine aR hd hdst _ ?_ hK;simp[execOp,ho,hx',hy',Instr.indexAt,asIntOf,run_underlying hu,Instr.sureAddr,bM hs,hi,AV.den,Addr.add_mid,Nat.add_assoc]
   ·cases h
  ·cases h
 ·rename_i k n kd i hx hy;have hx':a.eval x=.slice (some ⟨(β k).1,(β k).2.1,none⟩) n (β k).2.2:=aM hM hx;have hy':a.eval y=.int kd (Int.ofNat i):=aM hM hy;split at h
  ·rename_i e hu;split at h
   ·rename_i s hs;cases hb:Nat.blt i n<;>rw[hb]at h
    ·cases h
    ·cases h;have hi:i<n:=by simpa using hb
     refine aR hd hdst _ ?_ hK;simp[execOp,ho,hx',hy',Instr.indexAt,asIntOf,run_underlying hu,Instr.sureAddr,bM hs,hi,AV.den,Addr.add_mid,Nat.add_assoc]
   ·cases h
  ·cases h
 ·cases h
theorem aAm {t:TypeId} {x y:Operand} (ho:o.op=.index t x y) (h:cD E M d (.index t x y)=some (pre,out,kill)) (hp:aZ pre):o.wp E.P a w K Q:=by
 obtain⟨hM,hB,hd,hdst⟩:=hC;simp only[cD]at h;split at h
 ·rename_i v hg;split at h
  ·rename_i l kd i n e hx hy hu;have hx':a.eval x=.agg (aA l).toArray:=aM hM hx;have hy':a.eval y=.int kd (Int.ofNat i):=aM hM hy;split at h
   ·rename_i hs;cases hb:oD E.P e<;>rw[hb]at h
    ·cases h
    ·cases h;obtain⟨hi,hv,_⟩:=hp;have hagg:(isAgg e).run E.P w=.ok false w:=qL w hb;have hc:=lQ hv;refine aR hd hdst (.im v) ?_ hK;simp[execOp,ho,hx',hy',Instr.index,asIntOf,run_underlying hu,bM hs,hi,part,hagg,AV.den,hc]
   ·cases h
  ·cases h
 split at h
 ·rename_i l kd i hx hy;have hx':a.eval x=.agg (aA l).toArray:=aM hM hx;have hy':a.eval y=.int kd (Int.ofNat i):=aM hM hy;split at h
  ·rename_i n e hu;split at h
   ·rename_i s hs ht;cases hb:Nat.blt i n<;>rw[hb]at h
    ·cases h
    ·simp only[cond_true]at h;split at h
     ·rename_i r hr;cases h;have hi:i<n:=by simpa using hb
      obtain⟨ds,hu2,hd'⟩:=lM ht;have hagg:(isAgg e).run E.P w=.ok true w:=by
       unfold isAgg;rw[Sem.run_bind,run_underlying hu2 w];cases ds<;>simp_all
      obtain⟨p,r',e1,hp,hr'⟩:=pH hr;have hex:List.take s (List.drop (i*s) (aA l))=aA r:=by
       rw[e1,aP,aP];rw[List.drop_append,aT,hp];simp only[Nat.sub_self,List.drop_zero];rw[List.drop_of_length_le (by rw[aT,hp]; omega),List.nil_append,List.take_append_of_le_length (by rw[aT,hr']; omega),List.take_of_length_le (by rw[aT,hr']; omega)]
      refine aR hd hdst _ ?_ hK;simp[execOp,ho,hx',hy',Instr.index,asIntOf,run_underlying hu,bM hs,hi,part,hagg,AV.den,hex]
     ·cases h
   ·rename_i hs ht;cases hb:(oD E.P e&&Nat.blt i n)<;>rw[hb]at h
    ·cases h
    ·simp only[cond_true]at h;rw[Bool.and_eq_true]at hb;split at h
     ·rename_i v hv;cases h;have hi:i<n:=by simpa using hb.2
      have hagg:(isAgg e).run E.P w=.ok false w:=qL w hb.1;have hc:=lQ hv;refine aR hd hdst _ ?_ hK;simp[execOp,ho,hx',hy',Instr.index,asIntOf,run_underlying hu,bM hs,hi,part,hagg,AV.den,hc]
     ·cases h
   ·cases h
  ·cases h
 ·cases h
theorem Ec {t:TypeId} {x:Operand} {i:Nat} (ho:o.op=.field t x i) (h:cD E M d (.field t x i)=some (pre,out,kill)):o.wp E.P a w K Q:=by
 obtain⟨hM,hB,hd,hdst⟩:=hC;simp only[cD]at h;split at h
 ·rename_i l fs hx hu;have hx':a.eval x=.agg (aA l).toArray:=aM hM hx;split at h
  ·rename_i f hf;split at h
   ·rename_i s hs ht;split at h
    ·rename_i r hr;cases h;obtain⟨ds,hu2,hd'⟩:=lM ht;have hagg:(isAgg f.type).run E.P w=.ok true w:=by
      unfold isAgg;rw[Sem.run_bind,run_underlying hu2 w];cases ds<;>simp_all
     obtain⟨p,r',e1,hp,hr'⟩:=pH hr;have hex:List.take s (List.drop f.offset (aA l))=aA r:=by
      rw[e1,aP,aP];rw[List.drop_append,aT,hp];simp only[Nat.sub_self,List.drop_zero];rw[List.drop_of_length_le (by rw[aT,hp]; omega),List.nil_append,List.take_append_of_le_length (by rw[aT,hr']; omega),List.take_of_length_le (by rw[aT,hr']; omega)]
     refine aR hd hdst _ ?_ hK;simp[execOp,ho,hx',Instr.field,asAgg,run_underlying hu,hf,bM hs,part,hagg,AV.den,hex]
    ·cases h
   ·rename_i hs ht;cases hb:oD E.P f.type<;>rw[hb]at h
    ·cases h
    ·simp only[cond_true]at h;split at h
     ·rename_i v hv;cases h;have hagg:(isAgg f.type).run E.P w=.ok false w:=qL w hb;have hc:=lQ hv;refine aR hd hdst _ ?_ hK;simp[execOp,ho,hx',Instr.field,asAgg,run_underlying hu,hf,bM hs,part,hagg,AV.den,hc]
     ·cases h
   ·cases h
  ·cases h
 ·cases h
theorem Ed {x:Operand} {i:Nat} (ho:o.op=.extract x i) (h:cD E M d (.extract x i)=some (pre,out,kill)):o.wp E.P a w K Q:=by
 obtain⟨hM,hB,hd,hdst⟩:=hC;simp only[cD]at h;split at h
 ·rename_i l hx;split at h
  ·rename_i t ht;cases h;have hx':a.eval x=.tuple (l.map TV.den).toArray:=aM hM hx;refine aR hd hdst _ ?_ hK;simp[execOp,ho,hx',Instr.extract,ht,TV.av_den]
  ·cases h
 ·rename_i k n m post hx;have hx':a.eval x=.tuple (.slice (some ⟨(β k).1,(β k).2.1,none⟩) n m::post.map TV.den).toArray:=aM hM hx;cases i with
  | zero =>
   cases h;refine aR hd hdst _ ?_ hK;simp[execOp,ho,hx',Instr.extract,AV.den]
  | succ i =>
   simp only at h;split at h
   ·rename_i t ht;cases h;refine aR hd hdst _ ?_ hK;simp[execOp,ho,hx',Instr.extract,ht,TV.av_den]
   ·cases h
 ·rename_i k n ante post hx;have hx':a.eval x=.tuple (ante.map TV.den ++ .slice (some ⟨(β k).1,(β k).2.1,none⟩) n (β k).2.2::post.map TV.den).toArray:=aM hM hx;cases hb:Nat.blt i ante.length<;>rw[hb]at h
  ·simp only[cond_false]at h;have hge:ante.length≤i:=by
    rcases Nat.lt_or_ge i ante.length with q|q
    ·have:Nat.blt i ante.length=true:=by simpa using q
     rw[hb]at this; cases this
    ·exact q
   cases hb2:Nat.beq i ante.length<;>rw[hb2]at h
   ·simp only[cond_false]at h;split at h
    ·rename_i t ht;cases h;have hne:i≠ante.length:=fun e=>by rw[e]at hb2; simp at hb2
     refine aR hd hdst _ ?_ hK;have hget:(ante.map TV.den ++ .slice (some ⟨(β k).1,(β k).2.1,none⟩) n (β k).2.2::post.map TV.den)[i]?=some t.den:=by
      rw[List.getElem?_append_right (by rw[List.length_map]; exact hge),List.length_map];obtain⟨m,hm⟩:∃m,i-ante.length=m+1:=⟨i-ante.length-1,by omega⟩
      rw[hm]at ht ⊢;rw[List.getElem?_cons_succ,List.getElem?_map];rw[Nat.add_sub_cancel]at ht;rw[ht]; rfl
     simp only[execOp,ho,hx',Instr.extract];simp only[List.getElem?_toArray,hget];simp[TV.av_den]
    ·cases h
   ·cases h;have he:=Nat.eq_of_beq_eq_true hb2;refine aR hd hdst _ ?_ hK;have hget:(ante.map TV.den ++ .slice (some ⟨(β k).1,(β k).2.1,none⟩) n (β k).2.2::post.map TV.den)[i]?=some (.slice (some ⟨(β k).1,(β k).2.1,none⟩) n (β k).2.2):=by
     rw[List.getElem?_append_right (by rw[List.length_map]; exact hge),List.length_map,he,Nat.sub_self];rfl
    simp only[execOp,ho,hx',Instr.extract];simp only[List.getElem?_toArray,hget];simp[AV.den]
  ·simp only[cond_true]at h;split at h
   ·rename_i t ht;cases h;have hlt:i<ante.length:=by simpa using hb
    refine aR hd hdst _ ?_ hK;have hget:(ante.map TV.den ++ .slice (some ⟨(β k).1,(β k).2.1,none⟩) n (β k).2.2::post.map TV.den)[i]?=some t.den:=by
     rw[List.getElem?_append_left (by rw[List.length_map]; exact hlt),List.getElem?_map,ht]; rfl
    simp only[execOp,ho,hx',Instr.extract];simp only[List.getElem?_toArray,hget];simp[TV.av_den]
   ·cases h
 ·cases h
theorem aAl {t:TypeId} {x:Operand} {lo hi mx:Option Operand} (ho:o.op=.slice t x lo hi mx) (h:cD E M d (.slice t x lo hi mx)=some (pre,out,kill)) (hp:aZ pre):o.wp E.P a w K Q:=by
 obtain⟨hM,hB,hd,hdst⟩:=hC;cases lo with
 | some y =>
  cases hi with
  | none =>
   cases mx with
   | some _=>simp only[cD]at h; cases h
   | none =>
   simp only[cD]at h;split at h
   ·rename_i r v u hr hx hlo;cases h;have hx':a.eval x=v:=aM hM hx;have hl':a.eval y=u:=aM hM hlo;refine aR hd hdst (.im r) ?_ hK;simp[execOp,ho,hx',hl',hp.1 w,AV.den]
   ·cases h
  | some y2 =>
  cases mx with
  | some _=>simp only[cD]at h; cases h
  | none =>
  simp only[cD]at h;split at h
  ·rename_i r hr;split at h
   ·rename_i v u u' hx hlo hhi;cases h;have hx':a.eval x=v:=aM hM hx;have hl':a.eval y=u:=aM hM hlo;have hh':a.eval y2=u':=aM hM hhi;refine aR hd hdst (.im r) ?_ hK;simp[execOp,ho,hx',hl',hh',hp.1 w,AV.den]
   ·cases h
  split at h
  ·rename_i k q n m kd1 i kd2 j e hx hlo hhi hu;split at h
   ·rename_i sz hs;cases h;obtain⟨g1,g2,g3,_⟩:=hp;have hx':a.eval x=.slice (some ⟨(β k).1,(β k).2.1+q,none⟩) n m:=aM hM hx;have hl':a.eval y=.int kd1 (Int.ofNat i):=aM hM hlo;have hh':a.eval y2=.int kd2 (Int.ofNat j):=aM hM hhi;have hmi:¬m=i:=by omega
    refine aR hd hdst _ ?_ hK;simp[execOp,ho,hx',hl',hh',Instr.sliceAt,Instr.slice,run_underlying hu,Instr.sliceBounds,Instr.sliceBound,asIntOf,bM hs,AV.den,Addr.add_mid,Nat.add_assoc,g1,g2,hmi]
   ·cases h
  ·cases h
 | none =>
 cases mx with
 | some _=>simp only[cD]at h; cases h
 | none =>
 simp only[cD]at h;split at h
 ·rename_i k j n e hx hu;have hx':a.eval x=.pointer (some ⟨(β k).1,(β k).2.1+j,none⟩):=aM hM hx;split at h
  ·rename_i s hs;cases hi with
   | none =>
    cases h;refine aR hd hdst _ ?_ hK
    by_cases hn:n=0<;>simp[execOp,ho,hx',Instr.sliceAt,Instr.sureAddr,run_underlying hu,Instr.sliceBounds,bM hs,AV.den,Addr.add_mid,hn]
   | some y =>
    simp only at h;split at h
    ·rename_i kd i hy;have hy':a.eval y=.int kd (Int.ofNat i):=aM hM hy;cases hb:Nat.ble i n<;>rw[hb]at h
     ·cases h
     ·cases h;have hi:i≤n:=by simpa using hb
      refine aR hd hdst _ ?_ hK
      by_cases hn:n=0
      ·subst hn;have hi0:i=0:=Nat.le_zero.1 hi;subst hi0;simp[execOp,ho,hx',hy',Instr.sliceAt,Instr.sureAddr,run_underlying hu,Instr.sliceBounds,Instr.sliceBound,asIntOf,bM hs,AV.den,Addr.add_mid,hi]
      ·simp[execOp,ho,hx',hy',Instr.sliceAt,Instr.sureAddr,run_underlying hu,Instr.sliceBounds,Instr.sliceBound,asIntOf,bM hs,AV.den,Addr.add_mid,hn,hi]
    ·cases h
  ·cases h
 ·rename_i k q n m e hx hu;have hx':a.eval x=.slice (some ⟨(β k).1,(β k).2.1+q,none⟩) n m:=aM hM hx;cases hi with
  | none=>cases h
  | some y =>
   simp only at h;split at h
   ·rename_i kd i s hy hs;cases h;have g1:=hp.1;have hy':a.eval y=.int kd (Int.ofNat i):=aM hM hy;refine aR hd hdst _ ?_ hK
    by_cases hn:m=0
    ·subst hn;cases Nat.le_zero.1 g1;simp[execOp,ho,hx',hy',Instr.sliceAt,Instr.slice,run_underlying hu,Instr.sliceBounds,Instr.sliceBound,asIntOf,bM hs,AV.den,Addr.add_mid]
    ·simp[execOp,ho,hx',hy',Instr.sliceAt,Instr.slice,run_underlying hu,Instr.sliceBounds,Instr.sliceBound,asIntOf,bM hs,AV.den,Addr.add_mid,g1,hn]
   ·cases h
 ·rename_i p n m e hx hu;have hx':a.eval x=.slice p n m:=aM hM hx;cases hi with
  | none=>cases h
  | some y =>
   simp only at h;split at h
   ·rename_i kd i s hy hs;cases h;have g1:=hp.1;have hy':a.eval y=.int kd (Int.ofNat i):=aM hM hy;refine aR hd hdst _ ?_ hK;have hadd:p.map (fun x:Addr=>x.add 0)=p:=by
     cases p with
     | none=>rfl
     | some q=>show some (q.add 0)=some q; unfold Addr.add; rw[if_pos rfl]
    by_cases hn:m=0
    ·subst hn;cases Nat.le_zero.1 g1;simp[execOp,ho,hx',hy',Instr.sliceAt,Instr.slice,run_underlying hu,Instr.sliceBounds,Instr.sliceBound,asIntOf,bM hs,AV.den]
    ·simp[execOp,ho,hx',hy',Instr.sliceAt,Instr.slice,run_underlying hu,Instr.sliceBounds,Instr.sliceBound,asIntOf,bM hs,AV.den,g1,hn,hadd]
   ·cases h
 ·cases h
theorem aHl {op:UnOp} {t:TypeId} {x:Operand} (ho:o.op=.unOp op t x) (h:cD E M d (.unOp op t x)=some (pre,out,kill)) (hp:aZ pre):o.wp E.P a w K Q:=by
 obtain⟨hM,hB,hd,hdst⟩:=hC;simp only[cD]at h;split at h
 ·rename_i r hr;split at h
  ·rename_i v hx;cases h;have hx':a.eval x=v:=aM hM hx;have h1:=hp.1 w;refine aR hd hdst (.im r) ?_ hK;simp[execOp,ho,hx',h1,AV.den]
  ·cases h
 split at h
 ·rename_i b hb;have hb':a.eval x=.bool b:=aM hM hb;have hrun:(execOp a.eval o).run E.P w=.ok (.value (.bool (!b))) w:=by simp[execOp,ho,hb',Op.unary]
  split at h
  ·rename_i v hv;cases h;exact aR hd hdst (.im v) (by rw[show AV.den β (.im v)=v from rfl,←hp.1]; exact hrun) hK
  ·cases h;exact aR hd hdst (.im (.bool (!b))) hrun hK
 ·cases h
theorem aAq {op:BinOp} {t t2:TypeId} {x y:Operand} (hq:OX E.P E.q) (ho:o.op=.binOp op t x y t2) (h:cD E M d (.binOp op t x y t2)=some (pre,out,kill)) (hp:aZ pre):o.wp E.P a w K Q:=by
 obtain⟨hM,hB,hd,hdst⟩:=hC;replace hq:OX E.P E.q:=hq;simp only[cD]at h;split at h
 ·rename_i r hr;split at h
  ·rename_i v u hx hy;cases h;have hx':a.eval x=v:=aM hM hx;have hy':a.eval y=u:=aM hM hy;have h1:=hp.1 w;refine aR hd hdst (.im r) ?_ hK;simp only[execOp,ho,hx',hy',AV.den];rw[Sem.run_bind,h1];rfl
  ·cases h
 split at h
 ·rename_i v u hx hy;have hx':=aM hM hx;have hy':=aM hM hy;unfold aWY at h;split at h
  ·rename_i k p k' q;split at h
   ·rename_i hk;subst hk;have hfin:∀r,aH op k p q=some r→(execOp a.eval o).run E.P w=.ok (.value r) w:=fun r hr=>by
     simp only[AV.den]at hx' hy';cases op<;>simp only[aH]at hr<;>first|(cases hr; done)|skip
     all_goals first
      | (cases hr; simp[execOp,ho,hx',hy',eqGuard,binOp,Op.intArith,Op.intCmp]; done)
      | (by_cases hz:q=0; (rw[if_pos hz]at hr; cases hr); rw[if_neg hz]at hr; cases hr; simp[execOp,ho,hx',hy',eqGuard,binOp,Op.intDiv,hz])
    split at h
    ·rename_i r hr;cases h;exact aR hd hdst (.im r) (hfin r hp.1) hK
    ·split at h
     ·rename_i r hr;cases h;exact aR hd hdst (.im r) (hfin r hr) hK
     ·cases h
   ·cases h
  ·rename_i p q;simp only[AV.den]at hx' hy';split at h
   ·rename_i hu;cases op<;>simp only at h<;>first|(cases h; done)|skip
    all_goals cases h
    ·refine aR hd hdst (.im (.bool (p==q))) ?_ hK;simp[execOp,ho,hx',hy',eqGuard,binOp,run_equal_bool w t p q hu,AV.den]
    ·refine aR hd hdst (.im (.bool (p != q))) ?_ hK;simp[execOp,ho,hx',hy',eqGuard,binOp,run_equal_bool w t p q hu,AV.den];cases p<;>cases q<;>rfl
   ·cases h
  ·rename_i l m;simp only[AV.den]at hx' hy';cases hN:(E.q.fit t l&&E.q.fit t m)<;>rw[hN]at h
   ·cases h
   ·simp only[cond_true]at h;rw[Bool.and_eq_true]at hN;cases hh:E.hint d<;>rw[hh]at h<;>simp only[cond_true,cond_false]at h
    ·split at h
     ·rename_i n hn;cases hb:(Nat.beq (cF l) n&&Nat.beq (cF m) n)<;>rw[hb]at h
      ·cases h
      ·simp only[cond_true]at h;rw[Bool.and_eq_true]at hb;obtain⟨hg,he⟩:=hq.2 t n hn;have he':=he l m w (Nat.eq_of_beq_eq_true hb.1) (Nat.eq_of_beq_eq_true hb.2) hN.1 hN.2;cases op<;>simp only at h<;>first|(cases h; done)|skip
       all_goals cases h
       all_goals refine aR hd hdst _ ?_ hK
       all_goals simp only[execOp,ho,hx',hy',Sem.run_bind,run_eqGuard_agg w _ t x y _ _ hg,run_eql_struct,run_neq_struct,Result.andThen_ok,Sem.run_pure,AV.den]
       ·rw[he' hp.1]; rfl
       ·rw[he' hp.1]; rfl
     ·cases h
    ·split at h
     ·rename_i n hn;cases hb:(Nat.beq (cF l) n&&Nat.beq (cF m) n)<;>rw[hb]at h
      ·cases h
      ·simp only[cond_true]at h;rw[Bool.and_eq_true]at hb;obtain⟨hg,he⟩:=hq.1 t n hn;have he':=he l w (Nat.eq_of_beq_eq_true hb.1) hN.1;cases op<;>simp only at h<;>first|(cases h; done)|skip
       all_goals cases h
       all_goals refine aR hd hdst _ ?_ hK
       all_goals have hp1:=hp.1
       all_goals simp only[execOp,ho,hx',hy',←hp1,Sem.run_bind,run_eqGuard_agg w _ t x y _ _ hg,run_eql_struct,run_neq_struct,Result.andThen_ok,Sem.run_pure,AV.den]
       ·rw[he']; rfl
       ·rw[he']; rfl
     ·cases h
  ·cases h
 ·cases h
theorem aHp {c:Call} (hT:∀d,Sh E.P (E.T d) w) (hX:OV E.P E.q.x w) (ho:o.op=.call c) (h:cD E M d (.call c)=some (pre,out,kill)) (hp:aZ pre):o.wp E.P a w K Q:=by
 obtain⟨hM,hB,hd,hdst⟩:=hC;simp only[cD]at h;split at h
 ·rename_i hc;split at h
  ·rename_i x t hx ht;split at h
   ·rename_i k j n m e hx1 hu;cases h;have hx':a.eval x=.slice (some ⟨(β k).1,(β k).2.1+j,none⟩) n m:=aM hM hx1;have e1:c.args = #[x]:=by rw[←Array.toArray_toList (xs:=c.args),hx]
    have e2:c.argTypes = #[t]:=by rw[←Array.toArray_toList (xs:=c.argTypes),ht]
    refine aR hd hdst _ ?_ hK;simp[execOp,ho,resolve,hc,e1,e2,invoke,builtin,hx',Builtin.len_,run_underlying hu,AV.den]
   ·rename_i p n m e hx1 hu;cases h;have hx':a.eval x=.slice p n m:=aM hM hx1;have e1:c.args = #[x]:=by rw[←Array.toArray_toList (xs:=c.args),hx]
    have e2:c.argTypes = #[t]:=by rw[←Array.toArray_toList (xs:=c.argTypes),ht]
    refine aR hd hdst _ ?_ hK;simp[execOp,ho,resolve,hc,e1,e2,invoke,builtin,hx',Builtin.len_,run_underlying hu,AV.den]
   ·rename_i k n e hx1 hu;cases h;have hx':a.eval x=.slice (some ⟨(β k).1,(β k).2.1,none⟩) n (β k).2.2:=aM hM hx1;have e1:c.args = #[x]:=by rw[←Array.toArray_toList (xs:=c.args),hx]
    have e2:c.argTypes = #[t]:=by rw[←Array.toArray_toList (xs:=c.argTypes),ht]
    refine aR hd hdst _ ?_ hK;simp[execOp,ho,resolve,hc,e1,e2,invoke,builtin,hx',Builtin.len_,run_underlying hu,AV.den]
   ·cases h
  ·cases h
 ·rename_i hc;split at h
  ·rename_i x y t t' hx ht;cases htt:Nat.beq t t'<;>rw[htt]at h
   ·cases h
   ·simp only[cond_true]at h;cases Nat.eq_of_beq_eq_true htt;split at h
    ·rename_i u v e sz by8 hx1 hy1 hT1;split at h
     ·rename_i N' L' hmk;split at h
      ·rename_i m news p1 n l kl p2 hS hD;cases h;rw[dQ,dQ]at hp;obtain⟨hp1,hp2,hone',h0,hby,hmx,hN',hL'⟩:=hp;have hL':=hL'.1;subst hN';have hx':=aM hM hx1;have hy':=aM hM hy1;obtain⟨bs,os',cs',hden,hrng,hsz⟩:=aFS hM hX hS hp1;rw[hden]at hy';have e1:c.args = #[x,y]:=by rw[←Array.toArray_toList (xs:=c.args),hx]
       have e2:c.argTypes = #[t,t]:=by rw[←Array.toArray_toList (xs:=c.argTypes),ht]
       have hnews:∀j v,(aA news)[j]?=some v→w.cell? ((⟨bs,os',none⟩:Addr).add j)=some v:=fun j v hj=>by
        rw[Addr.add_mid]; exact hrng j v hj
       have hcase:=aFR hM hD hp2;have hu:(a.eval x=.slice none 0 0∧n=0∧aA l=[])∨∃b cap,a.eval x=.slice (some ⟨b,0,none⟩) n cap∧AppAt w b e sz n cap∧w.rangeAt b 0 (aA l)∧(aA l).length=n*sz:=by
        rcases hcase with⟨⟨h,h'⟩,_⟩|⟨k,l0,_,_,_,_,h1,h2,h3,h4⟩
        ·exact Or.inl ⟨hx'.trans h,h'⟩
        ·exact Or.inr ⟨_,_,hx'.trans h1,h2,h3,h4⟩
       obtain⟨b,cap,w',hr,a1,a2,a3,a4,a5,a6,a7⟩:=YG (P:=E.P) w (ty:=o.type) hT1 hu (by rw[aT]; exact hsz) hnews hone' h0 hby (by simp only[maxLen]; omega) (c:=cs');have hrun:(execOp a.eval o).run E.P w=.ok (.value (.slice (some ⟨b,0,none⟩) (n+m) cap)) w':=by
        unfold execOp;simp only[ho,resolve,hc,e1,e2,invoke,builtin,Sem.run_bind,Sem.run_pure,Result.andThen_ok,List.map_toArray,List.map_cons,List.map_nil,hy',hr]
       refine xG hrun ?_;rw[hdst];refine hK _ _ _ (ZP (L:=L') (row:=(a.eval x).ownBlock) hd hB a1 a2 (by rw[hL',aP]; exact a3) a4 a5 a6 ?_)
       rcases hcase with⟨⟨h1,_⟩,h2⟩|⟨k,l0,hk,hm,rfl,hb,h1,_⟩
       ·refine Or.inl ⟨h2,by rw[hx',h1]; rfl,?_⟩
        rcases a7 with h|⟨c0,h⟩
        ·exact h
        ·rw[hx',h1]at h; cases h
       ·refine Or.inr ⟨k,_,hk,by rw[hx',h1]; rfl,hb,hm,?_⟩
        rcases a7 with h|⟨c0,h⟩
        ·exact Or.inl h
        ·rw[hx',h1]at h; cases h; exact Or.inr rfl
      ·cases h
     ·split at h
      ·rename_i m news n l kl hS hD;cases hb:(news.all cOk&&(Nat.blt 0 m&&(Nat.ble ((n+m)*by8) 140737488355328&&Nat.ble (n+m) 4611686018427387904)))<;>rw[hb]at h
       ·cases h
       ·cases h;simp only[Bool.and_eq_true,Nat.blt_eq,Nat.ble_eq]at hb;obtain⟨hone,h0,hby,hmx⟩:=hb;have hx':=aM hM hx1;have hy':=aM hM hy1;obtain⟨bs,os',cs',hden,hrng,hsz⟩:=Cw hM hS;rw[hden]at hy';have e1:c.args = #[x,y]:=by rw[←Array.toArray_toList (xs:=c.args),hx]
        have e2:c.argTypes = #[t,t]:=by rw[←Array.toArray_toList (xs:=c.argTypes),ht]
        have hone':∀v∈aA news,v.oneCell'=true:=BK hone
        have hnews:∀j v,(aA news)[j]?=some v→w.cell? ((⟨bs,os',none⟩:Addr).add j)=some v:=fun j v hj=>by
         rw[Addr.add_mid]; exact hrng j v hj
        have hcase:((a.eval x=.slice none 0 0∧n=0∧aA l=[])∧kill=none)∨∃k l0,kill=some k∧u=.so k n∧Fact.row k true l0∈M∧l0=l∧base≤(β k).1∧a.eval x=.slice (some ⟨(β k).1,0,none⟩) n (β k).2.2∧AppAt w (β k).1 e sz n (β k).2.2∧w.rangeAt (β k).1 0 (aA l)∧(aA l).length=n*sz:=by
         unfold apD at hD;split at hD
         ·cases hD;exact Or.inl ⟨⟨hx',rfl,rfl⟩,rfl⟩
         ·rename_i k n';split at hD
          ·rename_i l' e' sz' n2 hr ha;cases hq:(Nat.beq e e'&&(Nat.beq sz sz'&&(Nat.beq n' n2&&Nat.beq (cF l') (n'*sz))))<;>rw[hq]at hD
           ·cases hD
           ·cases hD;simp only[Bool.and_eq_true]at hq;obtain⟨q1,q2,q3,q4⟩:=hq;cases Nat.eq_of_beq_eq_true q1;cases Nat.eq_of_beq_eq_true q2;cases Nat.eq_of_beq_eq_true q3;obtain⟨g1,g2,g3,_⟩:=hM _ (bH hr);obtain⟨g4,g5,g6⟩:=g3 rfl;have ga:=hM _ (kS ha);simp only[Fact.ok]at ga;refine Or.inr ⟨k,l,rfl,rfl,bH hr,rfl,g4,?_,ga,by rw[←g5]; exact g2,by rw[aT]; exact Nat.eq_of_beq_eq_true q4⟩;rw[hx'];simp only[AV.den,g5]
          ·cases hD
         ·cases hD
        have hu:(a.eval x=.slice none 0 0∧n=0∧aA l=[])∨∃b cap,a.eval x=.slice (some ⟨b,0,none⟩) n cap∧AppAt w b e sz n cap∧w.rangeAt b 0 (aA l)∧(aA l).length=n*sz:=by
         rcases hcase with⟨h,_⟩|⟨k,l0,_,_,_,_,_,h1,h2,h3,h4⟩
         ·exact Or.inl h
         ·exact Or.inr ⟨_,_,h1,h2,h3,h4⟩
        obtain⟨b,cap,w',hr,a1,a2,a3,a4,a5,a6,a7⟩:=YG (P:=E.P) w (ty:=o.type) hT1 hu (by rw[aT]; exact hsz) hnews hone' h0 hby (by simp only[maxLen]; omega) (c:=cs');have hrun:(execOp a.eval o).run E.P w=.ok (.value (.slice (some ⟨b,0,none⟩) (n+m) cap)) w':=by
         unfold execOp;simp only[ho,resolve,hc,e1,e2,invoke,builtin,Sem.run_bind,Sem.run_pure,Result.andThen_ok,List.map_toArray,List.map_cons,List.map_nil,hy',hr]
        refine xG hrun ?_;rw[hdst];refine hK _ _ _ (ZP (L:=l++news) (row:=(a.eval x).ownBlock) hd hB a1 a2 (by rw[aP]; exact a3) a4 a5 a6 ?_)
        rcases hcase with⟨⟨h1,_⟩,h2⟩|⟨k,l0,hk,_,hm,rfl,hb,h1,_⟩
        ·refine Or.inl ⟨h2,by rw[h1]; rfl,?_⟩
         rcases a7 with h|⟨c0,h⟩
         ·exact h
         ·rw[h1]at h; cases h
        ·refine Or.inr ⟨k,_,hk,by rw[h1]; rfl,hb,hm,?_⟩
         rcases a7 with h|⟨c0,h⟩
         ·exact Or.inl h
         ·rw[h1]at h; cases h; exact Or.inr rfl
      ·cases h
    ·cases h
  ·cases h
 ·rename_i hc;split at h
  ·rename_i x y hx;split at h
   ·rename_i k p k' q hx1 hy1;have hx':a.eval x=.int k p:=aM hM hx1;have hy':a.eval y=.int k' q:=aM hM hy1;have e1:c.args = #[x,y]:=by rw[←Array.toArray_toList (xs:=c.args),hx]
    have hrun:(execOp a.eval o).run E.P w=.ok (.value (.int k (if q>p then q else p))) w:=by
     simp[execOp,ho,resolve,hc,e1,invoke,builtin,hx',hy',Builtin.max_,Builtin.max2]
    split at h
    ·rename_i v hv;cases h;exact aR hd hdst (.im v) (by rw[show AV.den β (.im v)=v from rfl,←hp.1]; exact hrun) hK
    ·cases h;exact aR hd hdst (.im (.int k (if q>p then q else p))) hrun hK
   ·cases h
  ·cases h
 ·rename_i hc;split at h
  ·rename_i x y z hx;split at h
   ·rename_i k p k' q k'' r v hx1 hy1 hz1 hv;cases h;have hx':a.eval x=.int k p:=aM hM hx1;have hy':a.eval y=.int k' q:=aM hM hy1;have hz':a.eval z=.int k'' r:=aM hM hz1;have e1:c.args = #[x,y,z]:=by rw[←Array.toArray_toList (xs:=c.args),hx]
    have hrun:(execOp a.eval o).run E.P w=.ok (.value (.int k (if r<(if q<p then q else p)then r else (if q<p then q else p)))) w:=by
     simp[execOp,ho,resolve,hc,e1,invoke,builtin,hx',hy',hz',Builtin.min_,Builtin.min2]
    exact aR hd hdst (.im v) (by rw[show AV.den β (.im v)=v from rfl,←hp.1]; exact hrun) hK
   ·cases h
  ·rename_i x y hx;split at h
   ·rename_i k p k' q v hx1 hy1 hv;cases h;have hx':a.eval x=.int k p:=aM hM hx1;have hy':a.eval y=.int k' q:=aM hM hy1;have e1:c.args = #[x,y]:=by rw[←Array.toArray_toList (xs:=c.args),hx]
    have hrun:(execOp a.eval o).run E.P w=.ok (.value (.int k (if q<p then q else p))) w:=by
     simp[execOp,ho,resolve,hc,e1,invoke,builtin,hx',hy',Builtin.min_,Builtin.min2]
    exact aR hd hdst (.im v) (by rw[show AV.den β (.im v)=v from rfl,←hp.1]; exact hrun) hK
   ·cases h
  ·cases h
 ·rename_i hc;split at h
  ·rename_i r x y hr hx;split at h
   ·rename_i v u hx1 hy1;cases h;have hx':a.eval x=v:=aM hM hx1;have hy':a.eval y=u:=aM hM hy1;have e1:c.args = #[x,y]:=by rw[←Array.toArray_toList (xs:=c.args),hx]
    have hp1:∀ts t,(Builtin.complex_ ts t #[v,u]).run E.P w=.ok r w:=fun _ _=>hp.1 w
    refine aR hd hdst (.im r) ?_ hK;simp[execOp,ho,resolve,hc,e1,invoke,builtin,hx',hy',hp1,AV.den]
   ·cases h
  ·cases h
 ·rename_i hc;split at h
  ·rename_i r x hr hx;split at h
   ·rename_i v hx1;cases h;have hx':a.eval x=v:=aM hM hx1;have e1:c.args = #[x]:=by rw[←Array.toArray_toList (xs:=c.args),hx]
    have hp1:∀ts t,(Builtin.real_ ts t #[v]).run E.P w=.ok r w:=fun _ _=>hp.1 w
    refine aR hd hdst (.im r) ?_ hK;simp[execOp,ho,resolve,hc,e1,invoke,builtin,hx',hp1,AV.den]
   ·cases h
  ·cases h
 ·rename_i hc;split at h
  ·rename_i r x hr hx;split at h
   ·rename_i v hx1;cases h;have hx':a.eval x=v:=aM hM hx1;have e1:c.args = #[x]:=by rw[←Array.toArray_toList (xs:=c.args),hx]
    have hp1:∀ts t,(Builtin.imag_ ts t #[v]).run E.P w=.ok r w:=fun _ _=>hp.1 w
    refine aR hd hdst (.im r) ?_ hK;simp[execOp,ho,resolve,hc,e1,invoke,builtin,hx',hp1,AV.den]
   ·cases h
  ·cases h
 ·rename_i f hc;split at h
  ·rename_i id first captured hf;cases hb:Nat.beq first.size 0<;>rw[hb]at h
   ·cases h
   ·simp only[cond_true]at h;have z1:first = #[]:=Array.size_eq_zero_iff.1 (Nat.eq_of_beq_eq_true hb);subst z1;split at h
    ·rename_i l hl;have hf':a.eval f=.func (.func id) #[] captured:=aM hM hf;have hargs:=yU hM hl;have ea:c.args.map a.eval=(l.map (AV.den β)).toArray:=by rw[←Array.toArray_toList (xs:=c.args.map a.eval),Array.toList_map,hargs]
     have hrun:(∀args w,(callFunc id args).run E.P w=.ok (.enter id args) w)→(execOp a.eval o).run E.P w=.ok (.enter id (l.map (AV.den β)++captured.toList).toArray) w:=fun h1=>by
      have e3:(l.map (AV.den β)).toArray++captured=(l.map (AV.den β)++captured.toList).toArray:=by simp
      simp[execOp,ho,resolve,hc,Deferred.ofValue,hf',invoke,ea,h1]
     split at h
     ·rename_i k hky;split at h
      ·rename_i row b hrow hatm;split at h
       ·rename_i p1 cbs p2 cps hcb hcap;split at h
        ·rename_i pre' r row' hr;cases hb : !(Nat.beq k d)<;>rw[hb]at h
         ·cases h
         ·cases h;rw[dQ,dQ]at hp;have hkd:k≠d:=fun e=>by rw[e]at hb; simp at hb
          obtain⟨r1,r2,r3,r4⟩:=hM _ (bH hrow);obtain⟨r5,r6,r7⟩:=r3 rfl;have hat:=hM _ (gK hatm);simp only[Fact.ok]at hat;obtain⟨e1,e2⟩:=hat;subst e1;have hargs6:=CBs.app (OO hM ⟨rfl,e2⟩ hcb hp.1) (uL (w:=w) hcap hp.2.1);obtain⟨h1,h2⟩:=hX.2.2.2.2.2 _ _ _ _ _ _ _ hr hp.2.2;rw[r6]at r2;have hcall:=h2 _ r1 r2 r7 hargs6;unfold Oper.wp;rw[hrun h1];refine Calls.mono hcall ?_
          rintro e w' ⟨rfl,hwr,hrg⟩
          show K _ _;rw[hdst,←RV.av_den β r];refine hK β _ _ ⟨kQ _ _ _,fP _ _ _,fun s hs=>lZ _ _ _ _ hs,fun _ _=>rfl,hwr.below.size,fun p hp hne=>hwr.mem p hp (hne k rfl),hwr.shape,fun w0 h0=>h0.trans (hwr.below.mono r5),fun φ hφ => ?_,fun k' l1 hk => ?_,fun k1 k2 l1 l2 hk hk' => ?_,fun k' hk => ?_,fun k' l1 hk => ?_⟩
          ·simp only[List.mem_cons,List.not_mem_nil,or_false]at hφ
           rcases hφ with rfl|rfl
           ·show (a.put (some d) _).tmps[d]?=_;rw[iQ _ _ _ hd]
           ·exact⟨Nat.lt_of_lt_of_le r1 hwr.below.size,by rw[r6]; exact hrg,fun _=>⟨r5,r6,hwr.free⟩,fun h=>by cases h⟩
          ·simp only[List.mem_cons,List.not_mem_nil,or_false,reduceCtorEq,false_or]at hk;cases hk;exact Or.inr (Or.inl ⟨fun e=>hkd (by injection e with e; exact e.symm),row,bH hrow⟩)
          ·simp only[List.mem_cons,List.not_mem_nil,or_false,reduceCtorEq,false_or]at hk hk';cases hk; cases hk'; rfl
          ·cases hk;exact⟨row,bH hrow⟩
          ·simp only[List.mem_cons,List.not_mem_nil,or_false,reduceCtorEq,false_or]at hk;cases hk
        ·cases h
       ·cases h
      ·cases h
     split at h
     ·rename_i cs hcs;have hcas:=wV hM hcs;have hcap:∀(cs:List CA) (vs:List Value) (us:List Value),bU w cs vs→bU w (cs++us.map fun v=>.v (.im v)) (vs++us):=fun cs=>by
       induction cs with
       | nil =>
        intro vs us h;cases vs with
        | cons _ _=>exact h.elim
        | nil =>
         induction us with
         | nil=>trivial
         | cons u us ih=>exact⟨rfl,ih⟩
       | cons c cs ih =>
        intro vs us h;cases vs with
        | nil=>cases c<;>exact h.elim
        | cons v vs=>cases c<;>exact⟨h.1,ih vs us h.2⟩
      have hcas':=hcap cs _ captured.toList hcas;split at h
      ·rename_i pre' r hr;cases h;obtain⟨h1,h2⟩:=hT _ _ _ _ _ hr hp;have hcall:=h2 _ hcas';unfold Oper.wp;rw[hrun h1];refine Calls.mono hcall ?_
       rintro e w' ⟨rfl,hbl⟩
       show K _ _;rw[hdst,←RV.av_den β r];exact hK _ _ _ (AM r.av hd hB hbl)
      ·split at h
       ·rename_i pre' r hr;cases h;obtain⟨h1,h2⟩:=hX.2.1 _ _ _ _ hr hp;have hcall:=h2 _ hcas';unfold Oper.wp;rw[hrun h1];refine Calls.mono hcall ?_
        rintro e w' ⟨b,rfl,hbl,hb1,hb2,hb3,hb4⟩
        show K _ _;rw[hdst];exact hK _ _ _ (Ia r b hd hB hbl hb1 hb2 hb3 hb4)
       ·split at h
        ·rename_i pre' r hr;cases h;obtain⟨h1,h2⟩:=hX.2.2.1 _ _ _ _ hr hp;have hcall:=h2 _ hcas';unfold Oper.wp;rw[hrun h1];refine Calls.mono hcall ?_
         rintro e w' ⟨b,cap,rfl,hbl,hb1,hb2,hb3,hb4,hb5⟩
         show K _ _;rw[hdst];exact hK _ _ _ (ZO r b cap hd hB hbl hb1 hb2 hb3 hb4 hb5)
        ·split at h
         ·rename_i pre' j l' hr;have hw4:∀(k n m:Nat) (l0:List At) (v:AV),l[j]?=some v→v.den β=.slice (some ⟨(β k).1,(β k).2.1,none⟩) n m→(v=.so k n∨v=.sl k 0 n m)→fB M k=some (true,l0)→k≠d→aZ pre' →
            (∀β' a' w',PostB base β β' a w (some d) M [.slot d v,.row k true l'] (some k) a' w'→K a' w')→o.wp E.P a w K Q:=by
           intro k n m l0 v hv hden hvv hrow hkd hp' hK';obtain⟨h1,h2⟩:=hX.2.2.2.1 _ _ _ _ _ hr hp';obtain⟨r1,r2,r3,r4⟩:=hM _ (bH hrow);obtain⟨r5,r6,r7⟩:=r3 rfl;have hargj:(l.map (AV.den β)++captured.toList)[j]?=some (.slice (some ⟨(β k).1,(β k).2.1,none⟩) n m):=by
            have hlt:j<(l.map (AV.den β)).length:=by rw[List.length_map]; exact (List.getElem?_eq_some_iff.1 hv).1
            rw[List.getElem?_append_left hlt,List.getElem?_map,hv,←hden]; rfl
           have hcall:=h2 _ hcas' _ _ _ _ hargj r7;unfold Oper.wp;rw[hrun h1];refine Calls.mono hcall ?_
           rintro e w' ⟨rfl,hwr,hrg⟩
           show K _ _;rw[hdst];refine hK' β _ _ ⟨kQ _ _ _,fP _ _ _,fun s hs=>lZ _ _ _ _ hs,fun _ _=>rfl,hwr.size,fun p hp hne => ?_,hwr.shape,fun w0 h0 => ?_,fun φ hφ => ?_,fun k' l1 hk => ?_,fun k1 k2 l1 l2 hk hk' => ?_,fun k' hk => ?_,fun k' l1 hk=>by simp at hk⟩
           ·have:=hwr.block p.block hp (hne k rfl);exact⟨World.cell?_of_block this,World.frozen?_of_block this⟩
           ·exact h0.trans ⟨hwr.os,hwr.tape,hwr.output,hwr.size,fun q hq=>hwr.block q (by omega) (by omega)⟩
           ·simp only[List.mem_cons,List.not_mem_nil,or_false]at hφ
            rcases hφ with rfl|rfl
            ·show (a.put (some d) _).tmps[d]?=_;rw[iQ _ _ _ hd,hden]
            ·exact⟨Nat.lt_of_lt_of_le r1 hwr.size,hrg,fun _=>⟨r5,r6,fun q=>by rw[hwr.frozen]; exact r7 q⟩,fun h=>by cases h⟩
           ·simp only[List.mem_cons,List.not_mem_nil,or_false,reduceCtorEq,false_or]at hk;cases hk;exact Or.inr (Or.inl ⟨fun e=>hkd (by injection e with e; exact e.symm),l0,bH hrow⟩)
           ·simp only[List.mem_cons,List.not_mem_nil,or_false,reduceCtorEq,false_or]at hk hk';cases hk; cases hk'; rfl
           ·cases hk;exact⟨l0,bH hrow⟩
          unfold wrA at h;split at h
          ·rename_i k n hv;split at h
           ·rename_i l0 hrow;cases hb : !(Nat.beq k d)<;>rw[hb]at h
            ·cases h
            ·cases h;have hkd:k≠d:=fun e=>by rw[e]at hb; simp at hb
             exact hw4 k n (β k).2.2 l0 _ hv rfl (Or.inl rfl) hrow hkd hp hK
           ·cases h
          ·rename_i k n m hv;split at h
           ·rename_i l0 hrow;cases hb : !(Nat.beq k d)<;>rw[hb]at h
            ·cases h
            ·cases h;have hkd:k≠d:=fun e=>by rw[e]at hb; simp at hb
             exact hw4 k n m l0 _ hv rfl (Or.inr rfl) hrow hkd hp hK
           ·cases h
          ·cases h
         ·split at h
          ·rename_i pre' j r l' hr;unfold wrP at h;split at h
           ·rename_i k i hv;split at h
            ·rename_i l0 hrow;cases hb : !(Nat.beq k d)<;>rw[hb]at h
             ·cases h
             ·cases h;have hkd:k≠d:=fun e=>by rw[e]at hb; simp at hb
              obtain⟨h1,h2⟩:=hX.2.2.2.2.1 _ _ _ _ _ _ hr hp;obtain⟨r1,r2,r3,r4⟩:=hM _ (bH hrow);obtain⟨r5,r6,r7⟩:=r3 rfl;have hargj:(l.map (AV.den β)++captured.toList)[j]?=some (.pointer (some ⟨(β k).1,i,none⟩)):=by
               have hlt:j<(l.map (AV.den β)).length:=by rw[List.length_map]; exact (List.getElem?_eq_some_iff.1 hv).1
               rw[List.getElem?_append_left hlt,List.getElem?_map,hv];simp[AV.den,r6]
              have hcall:=h2 _ hcas' _ _ hargj r7;unfold Oper.wp;rw[hrun h1];refine Calls.mono hcall ?_
              rintro e w' ⟨rfl,hwr,hrg⟩
              show K _ _;rw[hdst,←RV.av_den β r];refine hK β _ _ ⟨kQ _ _ _,fP _ _ _,fun s hs=>lZ _ _ _ _ hs,fun _ _=>rfl,hwr.below.size,fun p hp hne=>hwr.mem p hp (hne k rfl),hwr.shape,fun w0 h0=>h0.trans (hwr.below.mono r5),fun φ hφ => ?_,fun k' l1 hk => ?_,fun k1 k2 l1 l2 hk hk' => ?_,fun k' hk => ?_,fun k' l1 hk=>by simp at hk⟩
              ·simp only[List.mem_cons,List.not_mem_nil,or_false]at hφ
               rcases hφ with rfl|rfl
               ·show (a.put (some d) _).tmps[d]?=_;rw[iQ _ _ _ hd]
               ·exact⟨Nat.lt_of_lt_of_le r1 hwr.below.size,by rw[r6]; exact hrg,fun _=>⟨r5,r6,hwr.free⟩,fun h=>by cases h⟩
              ·simp only[List.mem_cons,List.not_mem_nil,or_false,reduceCtorEq,false_or]at hk;cases hk;exact Or.inr (Or.inl ⟨fun e=>hkd (by injection e with e; exact e.symm),l0,bH hrow⟩)
              ·simp only[List.mem_cons,List.not_mem_nil,or_false,reduceCtorEq,false_or]at hk hk';cases hk; cases hk'; rfl
              ·cases hk;exact⟨l0,bH hrow⟩
            ·cases h
           ·cases h
          ·cases h
     ·cases h
    ·cases h
  ·cases h
 ·rename_i x name hc;split at h
  ·rename_i t l0 hx;split at h
   ·rename_i id hid;split at h
    ·rename_i l hl;split at h
     ·rename_i cs hcs;split at h
      ·rename_i pre' r hr;cases h;obtain⟨h1,h2⟩:=hT _ _ _ _ _ hr hp;have hx':a.eval x=.iface t (.agg (aA l0).toArray):=aM hM hx;have hargs:=yU hM hl;have hcas:=wV hM hcs;have hcall:=h2 (.agg (aA l0).toArray::l.map (AV.den β)) ⟨rfl,hcas⟩;have ea:c.args.map a.eval=(l.map (AV.den β)).toArray:=by rw[←Array.toArray_toList (xs:=c.args.map a.eval),Array.toList_map,hargs]
       unfold Oper.wp;have hen:∀xs,(callFunc id xs).run E.P w=.ok (.enter id xs) w:=fun xs=>h1 xs w
       have hmt:=Gh w hid (.agg (aA l0).toArray) (l.map (AV.den β)).toArray hen;have hrun:(execOp a.eval o).run E.P w=.ok (.enter id (#[.agg (aA l0).toArray]++(l.map (AV.den β)).toArray)) w:=by
        have hex:(#[Value.iface t (.agg (aA l0).toArray)]++(l.map (AV.den β)).toArray).extract 1 (#[Value.iface t (.agg (aA l0).toArray)]++(l.map (AV.den β)).toArray).size=(l.map (AV.den β)).toArray:=by simp[List.take_of_length_le]
        have hg0:(#[Value.iface t (.agg (aA l0).toArray)]++(l.map (AV.den β)).toArray)[0]?=some (Value.iface t (.agg (aA l0).toArray)):=by simp
        simp only[execOp,ho,resolve,hc,ea,hx',Sem.run_bind,Sem.run_pure,Result.andThen_ok,invoke,hg0,hex];exact hmt
       rw[hrun];have e2:(#[Value.agg (aA l0).toArray]++(l.map (AV.den β)).toArray)=(Value.agg (aA l0).toArray::l.map (AV.den β)).toArray:=by simp
       rw[e2];refine Calls.mono hcall ?_
       rintro e w' ⟨rfl,hbl⟩
       show K _ _;rw[hdst,←RV.av_den β r];exact hK _ _ _ (AM r.av hd hB hbl)
      ·cases h
     ·cases h
    ·cases h
   ·cases h
  ·cases h
 ·cases h
end
section
variable {E:Env} {base:Nat} {β:Nat→Bk} {a:Act} {w:World} {M:List Fact} {d:Nat} {o:Oper} {pre:List Prop} {out:List Fact} {kill:Option Nat} {K:Act→World→Prop} {Q:Exit→Act→World→Prop}
theorem Dz (hT:∀d,Sh E.P (E.T d) w) (hX:OV E.P E.q.x w) (hq:OX E.P E.q) (hM:∀φ∈M,φ.ok base β a w) (hB:base≤w.heap.size) (hd:d<a.tmps.size) (hdst:o.dst=some d)
  (hK:∀β' a' w',PostB base β β' a w (some d) M out kill a' w'→K a' w') (h:cD E M d o.op=some (pre,out,kill)) (hp:aZ pre):o.wp E.P a w K Q:=by
 generalize ho:o.op=op at h;cases op with
 | move x=>exact aHn ⟨hM,hB,hd,hdst⟩ hK ho h
 | assign x=>exact Tj ⟨hM,hB,hd,hdst⟩ hK ho h
 | pick c x y=>exact aHm ⟨hM,hB,hd,hdst⟩ hK ho h
 | alloc t=>exact aAr ⟨hM,hB,hd,hdst⟩ hK ho h
 | box t x=>exact aOc ⟨hM,hB,hd,hdst⟩ hK ho h
 | build t ps=>exact aAp ⟨hM,hB,hd,hdst⟩ hK ho h
 | buildSlice t n ps=>exact KZ ⟨hM,hB,hd,hdst⟩ hK ho h
 | makeInterface t x=>exact aAn ⟨hM,hB,hd,hdst⟩ hK ho h
 | nilCheck x=>exact VQ ⟨hM,hB,hd,hdst⟩ hK ho h
 | load t x=>exact aHo ⟨hM,hB,hd,hdst⟩ hK hX ho h hp
 | convert src dst x=>exact Ee ⟨hM,hB,hd,hdst⟩ hK ho h hp
 | makeFunc fn f c=>exact VR ⟨hM,hB,hd,hdst⟩ hK ho h
 | makeSlice t x y=>exact PR ⟨hM,hB,hd,hdst⟩ hK ho h hp
 | fieldAddr s x i=>exact aAo ⟨hM,hB,hd,hdst⟩ hK ho h
 | indexAddr t x y=>exact PS ⟨hM,hB,hd,hdst⟩ hK ho h hp
 | index t x y=>exact aAm ⟨hM,hB,hd,hdst⟩ hK ho h hp
 | extract x i=>exact Ed ⟨hM,hB,hd,hdst⟩ hK ho h
 | field t x i=>exact Ec ⟨hM,hB,hd,hdst⟩ hK ho h
 | slice t x lo hi mx=>exact aAl ⟨hM,hB,hd,hdst⟩ hK ho h hp
 | binOp op t x y t2=>exact aAq ⟨hM,hB,hd,hdst⟩ hK hq ho h hp
 | unOp op t x=>exact aHl ⟨hM,hB,hd,hdst⟩ hK ho h hp
 | call c=>exact aHp ⟨hM,hB,hd,hdst⟩ hK hT hX ho h hp
 | _=>simp only[cD]at h; cases h
theorem Bw:∀{p:List At},p.all cOk=true→∀v∈aA p,v.oneCell'=true
 | [],_,v,hv=>by cases hv
 | x::r,h,v,hv=>by
  rw[List.all_cons,Bool.and_eq_true]at h
  rcases List.mem_append.1 hv with hv|hv
  ·cases x with
   | f x=>simp only[At.cells,w4,List.mem_cons,List.not_mem_nil,or_false]at hv; rcases hv with rfl|rfl|rfl|rfl<;>rfl
   | q x=>simp only[At.cells,w4,List.mem_cons,List.not_mem_nil,or_false]at hv; rcases hv with rfl|rfl|rfl|rfl<;>rfl
   | c u=>cases List.mem_singleton.1 hv; exact VV h.1
  ·exact Bw h.2 v hv
theorem fH (b:Nat):∀(vs:List Value) (o:Nat) (w:World),(w.setCells b o vs).heap.size=w.heap.size
 | [],_,_=>rfl
 | v::r,o,w=>by rw[World.setCells,fH b r]; simp[World.setCell]
theorem sL {B b:Nat} (hb:B≤b):∀(vs:List Value) (o:Nat) (w0 w:World),Below B w0 w→Below B w0 (w.setCells b o vs)
 | [],_,_,_,h=>h
 | v::r,o,w0,w,h=>sL hb r (o+1) w0 _ (h.setCell hb v)
theorem VP (hM:∀φ∈M,φ.ok base β a w) (hB:base≤w.heap.size) (hdst:o.dst=none)
  (hK:∀β' a' w',PostB base β β' a w none M out kill a' w'→K a' w') (h:PQ E M o.op=some (pre,out,kill)) (hp:aZ pre):o.wp E.P a w K Q:=by
 generalize ho:o.op=op at h;cases op with
 | store t x y =>
  simp only[PQ]at h;split at h
  ·rename_i k i v hx hy;split at h
   ·rename_i p l n hv hr hs;cases hb:(Nat.beq n (cF p)&&p.all cOk)<;>rw[hb]at h
    ·cases h
    ·simp only[cond_true]at h;simp only[Bool.and_eq_true]at hb;have hl':∃l',put l i p=some l'∧out=[.row k true l']∧kill=some k:=by
      split at h
      ·rename_i l' hs';cases h;exact⟨l',hp.1,rfl,rfl⟩
      ·split at h
       ·rename_i l' hl; cases h; exact⟨l',hl,rfl,rfl⟩
       ·cases h
     obtain⟨l',hl,rfl,rfl⟩:=hl'
     ·have hn:=Nat.eq_of_beq_eq_true hb.1;obtain⟨ii,hi,hin⟩:=kO hs;obtain⟨h1,h2,h3,_⟩:=hM _ (bH hr);obtain⟨h4,h5,h6⟩:=h3 rfl;obtain⟨A,m,s,e1,e2,e3,e4⟩:=YZ hl;have hx':a.eval x=.pointer (some ⟨(β k).1,(β k).2.1+i,none⟩):=aM hM hx;rw[h5,Nat.zero_add]at hx';rw[h5]at h2;have hsz:(aA p).length=n:=by rw[aT,hn]
      have hth:w.there (β k).1 i (aA p).toArray.size:=fun j hj=>by
       have hj':j<cF m:=by rw[e4,←aT]; simpa using hj
       refine⟨?_,h6 _⟩;have:=h2 (i+j) ((aA m)[j]'(by rw[aT]; exact hj')) (by
        rw[e1,aP,aP,List.getElem?_append_right (by rw[aT,e3]; omega),aT,e3,show i+j-i=j by omega,List.getElem?_append_left (by rw[aT]; exact hj')];exact List.getElem?_eq_getElem _)
       rw[Nat.zero_add]at this;rw[this]; rfl
      have hst:=run_storeVar_mid (P:=E.P) w (β k).1 i t (aA p).toArray hth (by rw[hi]; simp[hin,hsz]) (all_oneCell_toArray (Bw hb.2));have hst2:(storeVar t ⟨(β k).1,i,none⟩ (v.den β)).run E.P w=.ok () (w.setCells (β k).1 i (aA p)):=by
       have hc:=wC hv β;unfold storeVar at hst ⊢;rw[hc];exact hst
      have hrun:(execOp a.eval o).run E.P w=.ok .skip (w.setCells (β k).1 i (aA p)):=by
       simp[execOp,ho,Instr.storeAt,hx',Instr.sureAddr,aM hM hy,hst2]
      unfold Oper.wp;rw[hrun];show K (a.put o.dst undef) _;rw[hdst];refine hK β a _ ⟨rfl,rfl,fun _ _=>rfl,fun _ _=>rfl,by rw[fH]; exact Nat.le_refl _,fun q hq hk=>⟨?_,World.frozen?_setCells _ _ _ _ _⟩,nB _ _ _ _,fun w0 h=>sL h4 _ _ _ _ h,fun φ hφ => ?_,fun k' l1 hk => ?_,fun k1 k2 l1 l2 hk hk' => ?_,fun k' hk => ?_,fun k' l1 hk=>by simp at hk⟩
      ·exact World.cell?_setCells_out _ _ _ _ _ fun e _=>absurd e (hk k rfl)
      ·cases List.mem_singleton.1 hφ;refine⟨by rw[fH]; exact h1,?_,fun _=>⟨h4,h5,fun j=>by rw[World.frozen?_setCells]; exact h6 j⟩,fun h=>by cases h⟩;rw[h5,e2];intro j u hj;rw[Nat.zero_add]
       by_cases c1:j<i
       ·rw[World.cell?_setCells_out _ _ _ _ _ (fun _ _=>Or.inl c1)];have:=h2 j u (by
         rw[e1,aP,aP];rw[List.getElem?_append_left (by rw[aT,e3]; exact c1)]at hj ⊢;exact hj)
        rwa [Nat.zero_add]at this
       ·rw[List.getElem?_append_right (by rw[aT,e3]; omega),aT,e3]at hj
        by_cases c2:j<i+n
        ·rw[List.getElem?_append_left (by omega)]at hj;have:=World.cell?_setCells_in (β k).1 (aA p) i w (fun q hq=>(hth q (by simpa using hq)).1) (j-i) (by omega);rw[show i+(j-i)=j by omega]at this;rw[this,←hj,List.getElem?_eq_getElem]
        ·rw[List.getElem?_append_right (by omega),hsz]at hj;rw[World.cell?_setCells_out _ _ _ _ _ (fun _ _=>Or.inr (by simp only[]; omega))];have:=h2 j u (by
          rw[e1,aP,aP,List.getElem?_append_right (by rw[aT,e3]; omega),aT,e3,List.getElem?_append_right (by rw[aT,e4]; omega),aT,e4,←hn];exact hj)
         rwa [Nat.zero_add]at this
      ·cases List.mem_singleton.1 hk;exact Or.inr (Or.inl ⟨by simp,l,bH hr⟩)
      ·cases List.mem_singleton.1 hk; cases List.mem_singleton.1 hk'; rfl
      ·cases hk;exact⟨l,bH hr⟩
   ·cases h
  ·cases h
 | _=>simp only[PQ]at h; cases h
theorem aCj {ops:Array Oper} (hT:∀d,Sh E.P (E.T d) w) (hX:OV E.P E.q.x w) (hq:OX E.P E.q) (hM:∀φ∈M,φ.ok base β a w) (hB:base≤w.heap.size) (hn:a.tmps.size=E.nt)
  (hK:∀β' a' w',PostB base β β' a w o.dst M out kill a' w'→K a' w') (h:opA E ops M o=some (pre,out,kill)) (hp:aZ pre) :
  if Region.wanted o (yielded ops a.tmps)=true then o.wp E.P a w K Q else K (a.put o.dst undef) w:=by
 unfold opA at h;split at h
 ·rename_i hg;rw[if_pos (yS hM hg)];cases hd:o.dst with
  | none =>
   rw[hd]at h;rw[hd]at hK;exact VP hM hB hd hK h hp
  | some d =>
   rw[hd]at h;rw[hd]at hK;simp only at h;cases hb:Nat.blt d E.nt<;>rw[hb]at h
   ·cases h
   ·exact Dz hT hX hq hM hB (by rw[hn]; simpa using hb) hd hK h hp
 ·rename_i hg;rw[if_neg (by rw[yS hM hg]; simp)];cases hd:o.dst with
  | none=>rw[hd]at h; cases h
  | some d =>
   rw[hd]at h;rw[hd]at hK;simp only at h;cases hb:Nat.blt d E.nt<;>rw[hb]at h
   ·cases h
   ·cases h;exact hK _ _ _ (ML (.im undef) (by rw[hn]; simpa using hb))
 ·cases h
theorem aPx {E:Env} {ops:Array Oper} {M:List Fact} {o:Oper} {r:List Prop×List Fact×Option Nat} (h:opA E ops M o=some r) {d:Nat} (hd:o.dst=some d):d<E.nt:=by
 unfold opA at h;rw[hd]at h;split at h
 ·simp only at h;cases hb:Nat.blt d E.nt<;>rw[hb]at h
  ·cases h
  ·simpa using hb
 ·simp only at h;cases hb:Nat.blt d E.nt<;>rw[hb]at h
  ·cases h
  ·simpa using hb
 ·cases h
end
def mI (dst kill:Option Nat):Fact→Bool
 | .slot s v=>nH dst s||(match v.key with|some k=>nH dst k|none=>false)
 | .row k _ _=>nH dst k||nH kill k
 | .at k _=>nH dst k
 | .app k _ _ _=>nH dst k
structure Rec where
 M:List (Option Nat×Fact)
 dst:Option Nat
 kill:Option Nat
def dep (draw:Bool) (ops:Array Oper) (i j:Nat):Bool :=
 bif draw then (match ops[i]? with|some o=>o.after.toList.any (fun e=>Region.binds .any e&&Nat.beq e.on j)|none=>false)else Nat.blt j i
def aMZ (φ:Fact):List Rec→Nat→Option Nat→Bool
 | [],_,_=>true
 | r::rs,j,b=>(bif (match b with|none=>true|some b'=>Nat.blt b' j)then !(mI r.dst r.kill φ)else true)&&aMZ φ rs (j+1) b
def Zq (draw:Bool) (ops:Array Oper) (i:Nat) (rs:List Rec) (x:Option Nat×Fact):Bool :=
 (match x.1 with|none=>true|some b=>dep draw ops i b)&&aMZ x.2 rs 0 x.1
def tmps:List Operand→List Nat
 | []=>[]
 | .tmp s::r=>s::tmps r
 | _::r=>tmps r
def aHx (ops:Array Oper) (o:Oper):List Nat :=
 match o.guard with
 | some (g,_)=>(match (ops[g]?).bind (·.dst)with|some s=>s::tmps o.op.operands.toList|none=>tmps o.op.operands.toList)
 | none=>tmps o.op.operands.toList
def aTX:Op→Bool
 | .load _ _=>true
 | .store _ _ _=>true
 | .call _=>true
 | _=>false
def BD (l:List Nat):List (Option Nat×Fact)→List Nat
 | []=>[]
 | (_,.slot s v)::r=>bif l.any (Nat.beq s)then (match v.key with|some k=>k::BD l r|none=>BD l r)else BD l r
 | _::r=>BD l r
def aYi (l ks:List Nat) (x:Option Nat×Fact):Bool :=
 match x.2 with
 | .slot s _=>l.any (Nat.beq s)
 | .row k _ _=>ks.any (Nat.beq k)
 | .at _ _=>true
 | .app k _ _ _=>ks.any (Nat.beq k)
def aVM:Op→Bool
 | .call c=>(match c.callee with | .value (.tmp _)=>true|_=>false)
 | _=>false
def sel (ops:Array Oper) (o:Oper) (M:List (Option Nat×Fact)):List (Option Nat×Fact) :=
 match aHx ops o with
 | l=>match (bif aTX o.op then (bif aVM o.op then 0::BD l M else BD l M)else [])with
  | ks=>M.filter (aYi l ks)
theorem aHA {ops:Array Oper} {o:Oper} {M:List (Option Nat×Fact)} {x:Option Nat×Fact} (h:x∈sel ops o M):x∈M:=(List.mem_filter.1 h).1
def LH (E:Env) (draw:Bool) (ops:Array Oper):List Oper→Nat→List (Option Nat×Fact)→List Rec→List Prop→Option (List Prop×List (Option Nat×Fact)×List Rec)
 | [],_,TF,rs,ps=>some (ps,TF,rs)
 | o::rest,i,TF,rs,ps =>
  match sel ops o (TF.filter (Zq draw ops i rs))with
  | M=>match opA E ops (M.map (·.2)) o with
   | some (pre,out,kill)=>LH E draw ops rest (i+1) (out.map (fun φ=>(some i,φ))++TF) (rs++[⟨M,o.dst,kill⟩]) (ps++pre)
   | none=>none
def wW {α:Type} (p:Nat→α→Bool):Nat→List α→Bool
 | _,[]=>true
 | k,x::r=>p k x&&wW p (k+1) r
theorem lU {α:Type} {p:Nat→α→Bool}:∀{l:List α} {k:Nat},wW p k l=true→∀i x,l[i]?=some x→p (k+i) x=true
 | [],k,_,i,x,hx=>by simp at hx
 | y::r,k,h,i,x,hx=>by
  unfold wW at h;rw[Bool.and_eq_true]at h;cases i with
  | zero=>cases hx; exact h.1
  | succ i =>
   have:=lU h.2 i x (by simpa using hx)
   rwa [show k+1+i=k+(i+1) by omega]at this
def Sd (draw:Bool) (ops:Array Oper) (x:Option Nat×Fact) (j:Nat) (r:Rec):Bool :=
 nH x.1 j||(!(mI r.dst r.kill x.2)||(match x.1 with|some b=>dep draw ops b j|none=>false))
def chk (draw:Bool) (ops:Array Oper) (rs:List Rec):Bool :=
 wW (fun i r=>r.M.all fun x=>wW (fun j r'=>Nat.beq j i||(dep draw ops j i||Sd draw ops x j r')) 0 rs) 0 rs
def low (draw:Bool) (ops:Array Oper):Bool :=
 bif draw then wW (fun i (o:Oper)=>o.after.toList.all fun e => !(Region.binds .any e)||Nat.blt e.on i) 0 ops.toList else true
def aDC (draw:Bool) (ops:Array Oper) (rs:List Rec) (x:Option Nat×Fact):Bool:=wW (fun j r=>Sd draw ops x j r) 0 rs
def Wb (E:Env) (draw:Bool) (ops:Array Oper) (A:List Fact):Option (List Prop×List Fact) :=
 match LH E draw ops ops.toList 0 (A.map fun φ=>(none,φ)) [] []with
 | some (ps,TF,rs)=>bif chk draw ops rs&&low draw ops then some (ps,(TF.filter (aDC draw ops rs)).map (·.2))else none
 | none=>none
section
variable {E:Env} {draw:Bool} {ops:Array Oper}
theorem tY:∀{rem:List Oper} {i:Nat} {TF TF':List (Option Nat×Fact)} {rs rs':List Rec} {ps ps':List Prop},LH E draw ops rem i TF rs ps=some (ps',TF',rs')→rs.length=i →
  (∀x∈TF,x∈TF')∧(∀x∈TF',x∈TF∨∃b,x.1=some b∧i≤b∧b<i+rem.length)∧(aZ ps'→aZ ps)∧(∀j,j<i→rs'[j]?=rs[j]?)∧rs'.length=i+rem.length ∧
  ∀j o,rem[j]?=some o→∃r pre out,rs'[i+j]?=some r∧r.dst=o.dst∧opA E ops (r.M.map (·.2)) o=some (pre,out,r.kill)∧(aZ ps'→aZ pre) ∧
   (∀x∈r.M,x∈TF'∧∀b,x.1=some b→dep draw ops (i+j) b=true)∧∀φ,(some (i+j),φ)∈TF'→(some (i+j),φ)∈TF∨φ∈out
 | [],i,TF,TF',rs,rs',ps,ps',h,hl=>by
  cases h;exact⟨fun _ h=>h,fun _ h=>Or.inl h,fun h=>h,fun _ _=>rfl,by simp[hl],fun j o ho=>by simp at ho⟩
 | o::rest,i,TF,TF',rs,rs',ps,ps',h,hl=>by
  unfold LH at h;simp only at h;split at h
  ·rename_i pre out kill ho;obtain⟨h1,h2,h3,h4,h5,h6⟩:=tY h (by simp[hl]);have hps:aZ ps'→aZ ps∧aZ pre:=fun h=>dQ.1 (h3 h)
   refine⟨fun x hx=>h1 x (List.mem_append_right _ hx),fun x hx => ?_,fun h=>(hps h).1,fun j hj => ?_,by rw[h5]; simp; omega,?_⟩
   ·rcases h2 x hx with hx|⟨b,hb,hi,hlt⟩
    ·rcases List.mem_append.1 hx with hx|hx
     ·obtain⟨φ,_,rfl⟩:=List.mem_map.1 hx;exact Or.inr ⟨i,rfl,Nat.le_refl _,by simp⟩
     ·exact Or.inl hx
    ·exact Or.inr ⟨b,hb,by omega,by simp; omega⟩
   ·rw[h4 j (by omega),List.getElem?_append_left (by omega)]
   ·intro j o' hj;cases j with
    | zero =>
     cases hj;refine⟨_,pre,out,by rw[Nat.add_zero,h4 i (by omega),List.getElem?_append_right (by omega),hl,Nat.sub_self]; rfl,rfl,ho,fun h=>(hps h).2,fun x hx => ?_,fun φ hφ => ?_⟩
     ·obtain⟨hx1,hx2⟩:=List.mem_filter.1 (aHA hx);refine⟨h1 x (List.mem_append_right _ hx1),fun b hb => ?_⟩;unfold Zq at hx2;rw[hb]at hx2;simp only[Bool.and_eq_true]at hx2;exact hx2.1
     ·rcases h2 _ hφ with hx|⟨b,hb,hi,hlt⟩
      ·rcases List.mem_append.1 hx with hx|hx
       ·obtain⟨ψ,hψ,e⟩:=List.mem_map.1 hx;cases e;exact Or.inr hψ
       ·exact Or.inl hx
      ·simp only[Nat.add_zero,Option.some.injEq]at hb;omega
    | succ j =>
     obtain⟨r,pre',out',e1,e2,e3,e4,e5,e6⟩:=h6 j o' (by simpa using hj);rw[show i+1+j=i+(j+1) by omega]at e1 e5 e6;refine⟨r,pre',out',e1,e2,e3,e4,e5,fun φ hφ => ?_⟩
     rcases e6 φ hφ with hx|hx
     ·rcases List.mem_append.1 hx with hx|hx
      ·obtain⟨ψ,hψ,e⟩:=List.mem_map.1 hx;simp only[Prod.mk.injEq,Option.some.injEq]at e;omega
      ·exact Or.inl hx
     ·exact Or.inr hx
  ·cases h
def pF (draw:Bool) (ops:Array Oper) (rs:List Rec) (G:Nat→Prop) (x:Option Nat×Fact):Prop :=
 (∀b,x.1=some b→G b)∧∀j r,rs[j]?=some r→G j→x.1≠some j→mI r.dst r.kill x.2=true→∃b,x.1=some b∧dep draw ops b j=true
structure Tail (nt base:Nat) (w0:World) (β:Nat→Bk) (w:World):Prop where
 size:(β nt).1≤w.heap.size
 mem:∀p:Addr,base<p.block→p.block<(β nt).1→w.cell? p=w0.cell? p∧w.frozen? p=w0.frozen? p
 shape:Shape w0 w
structure Inv (E:Env) (draw:Bool) (ops:Array Oper) (base:Nat) (w0:World) (TF:List (Option Nat×Fact)) (rs:List Rec) (G:Nat→Prop) (a:Act) (w:World):Prop where
 defers:a.defers=[]
 size:a.tmps.size=E.nt
 below:Below base w0 w
 heap:base≤w.heap.size
 closed:∀i j,G i→dep draw ops i j=true→G j
 facts:∃β:Nat→Bk,(∀x∈TF,pF draw ops rs G x→x.2.ok base β a w) ∧
  (∀x∈TF,∀y∈TF,pF draw ops rs G x→pF draw ops rs G y→∀k k' o' l l',x.2=.row k true l→y.2=.row k' o' l'→k≠k'→(β k).1≠(β k').1) ∧
  (∀x∈TF,pF draw ops rs G x→∀k l,x.2=.row k true l→(β k).1=base∨(β E.nt).1≤(β k).1)∧Tail E.nt base w0 β w
theorem aQe {base:Nat} {β β':Nat→Bk} {a a':Act} {w w':World} {dst kill:Option Nat} {M out:List Fact} (hP:PostB base β β' a w dst M out kill a' w') {φ:Fact} (h:φ.ok base β a w) (hc:mI dst kill φ=false)
  (hk:∀kk k ED l,kill=some kk→φ=.row k ED l→(β kk).1≠(β k).1):φ.ok base β' a' w':=by
 cases φ with
 | slot s v =>
  simp only[mI,Bool.or_eq_false_iff]at hc;have h1:dst≠some s:=fun e=>by have:=dR.2 e; rw[hc.1]at this; cases this
  have h2:∀k,v.key=some k→β' k=β k:=fun k hv=>hP.beta k fun e=>by
   have h3:=hc.2;rw[hv]at h3;have:=dR.2 e;simp only at h3;rw[h3]at this; cases this
  show a'.tmps[s]?=_;rw[hP.tmps s h1,AV.den_eq v h2];exact h
 | row k ED l =>
  simp only[mI,Bool.or_eq_false_iff]at hc;have h1:dst≠some k:=fun e=>by have:=dR.2 e; rw[hc.1]at this; cases this
  obtain⟨g1,g2,g3,g4⟩:=h;have hm:∀j,w'.cell? ⟨(β k).1,j,none⟩=w.cell? ⟨(β k).1,j,none⟩∧w'.frozen? ⟨(β k).1,j,none⟩=w.frozen? ⟨(β k).1,j,none⟩:=fun j=>hP.mem ⟨(β k).1,j,none⟩ g1 fun kk hkk e=>hk kk k ED l hkk rfl e.symm
  refine⟨?_,?_,?_,g4⟩<;>rw[hP.beta k h1]
  ·exact Nat.lt_of_lt_of_le g1 hP.heap
  ·intro j v hj;rw[(hm _).1];exact g2 j v hj
  ·exact fun ho=>⟨(g3 ho).1,(g3 ho).2.1,fun j=>by rw[(hm _).2]; exact (g3 ho).2.2 j⟩
 | «at» k b =>
  have h1:dst≠some k:=fun e=>by have:=dR.2 e; rw[show nH dst k=false from hc]at this; cases this
  show (β' k).1=b∧(β' k).2.1=0;rw[hP.beta k h1];exact h
 | app k e sz n =>
  have h1:dst≠some k:=fun e=>by have:=dR.2 e; rw[show nH dst k=false from hc]at this; cases this
  show AppAt w' (β' k).1 e sz n (β' k).2.2;rw[hP.beta k h1];exact AppAt.shape hP.shape h
theorem FM {base:Nat} {w0:World} {A:List Fact} {TF:List (Option Nat×Fact)} {rs:List Rec} {ps:List Prop} (hT:∀d,TabOkW E.P (E.T d) base w0) (hq:dC E.P E.q base w0)
  (hrun:LH E draw ops ops.toList 0 (A.map fun φ=>(none,φ)) [] []=some (ps,TF,rs)) (hps:aZ ps) (hchk:chk draw ops rs=true) {Q:Exit→Act→World→Prop}
  {G:Nat→Prop} {a:Act} {w:World} (hI:Inv E draw ops base w0 TF rs G a w) {i:Nat} {o:Oper} (ho:ops[i]?=some o) (hi:¬G i) (hdeps:∀j,dep draw ops i j=true→G j) :
  if Region.wanted o (yielded ops a.tmps)=true then o.wp E.P a w (Inv E draw ops base w0 TF rs (fun j=>j=i∨G j)) Q else Inv E draw ops base w0 TF rs (fun j=>j=i∨G j) (a.put o.dst undef) w:=by
 obtain⟨_,_,_,_,_,hops⟩:=tY hrun rfl;obtain⟨r,pre,out,hr,hdst,hop,hpre,hM,hborn⟩:=hops i o (by simpa using ho);rw[Nat.zero_add]at hr hM hborn;obtain⟨β,hok,hinj,hown,htl⟩:=hI.facts;have hMv:∀x∈r.M,pF draw ops rs G x:=fun x hx=>by
  refine⟨fun b hb=>hdeps b ((hM x hx).2 b hb),fun j r' hj hG hne hcl => ?_⟩;have h1:=lU hchk i r hr;rw[List.all_eq_true]at h1;have h2:=lU (h1 x hx) j r' hj;rw[Nat.zero_add,Nat.zero_add]at h2;rw[Bool.or_eq_true,Bool.or_eq_true]at h2
  rcases h2 with h2|h2|h2
  ·exact absurd (Nat.eq_of_beq_eq_true h2▸hG) hi
  ·exact absurd (hI.closed j i hG h2) hi
  ·unfold Sd at h2;rw[Bool.or_eq_true,Bool.or_eq_true,hcl]at h2
   rcases h2 with h2|h2|h2
   ·exact absurd (dR.1 h2) hne
   ·cases h2
   ·split at h2
    ·rename_i b hb; exact⟨b,hb,h2⟩
    ·cases h2
 refine aCj (ops:=ops) (fun d=>hT d w hI.below) (hq.2 w hI.below) hq.1 (M:=r.M.map (·.2)) (out:=out) (kill:=r.kill) (β:=β) (base:=base) (fun φ hφ => ?_) hI.heap hI.size (fun β' a' w' hP => ?_) hop (hpre hps)
 ·obtain⟨x,hx,rfl⟩:=List.mem_map.1 hφ;exact hok x (hM x hx).1 (hMv x hx)
 have hnt:β' E.nt=β E.nt:=hP.beta E.nt fun e=>Nat.lt_irrefl _ (aPx hop e)
 have hrowM:∀k l0,Fact.row k true l0∈r.M.map (·.2)→∃x∈TF,pF draw ops rs G x∧x.2=.row k true l0:=fun k l0 h=>by
  obtain⟨x,hx,e⟩:=List.mem_map.1 h;exact⟨x,(hM x hx).1,hMv x hx,e⟩
 have hkill:∀x∈TF,pF draw ops rs G x→mI o.dst r.kill x.2=false→∀kk k ED l,r.kill=some kk→x.2=.row k ED l→(β kk).1≠(β k).1:=fun x hx hv hc kk k ED l hkk hφ=>by
  obtain⟨l0,hl0⟩:=hP.kills kk hkk;obtain⟨y,hy,hyv,hye⟩:=hrowM kk l0 hl0;have hne:kk≠k:=fun e=>by
   rw[hφ]at hc;simp only[mI,Bool.or_eq_false_iff]at hc;have:=dR.2 (e▸hkk:r.kill=some k);rw[hc.2]at this; cases this
  exact hinj y hy x hx hyv hv kk k ED l0 l hye hφ hne
 have hold:∀x∈TF,pF draw ops rs (fun j=>j=i∨G j) x→x.1≠some i→pF draw ops rs G x∧mI o.dst r.kill x.2=false:=fun x hx hv hne=>by
  refine⟨⟨fun b hb=>(hv.1 b hb).resolve_left fun e=>hne (by rw[hb,e]),fun j r' hj hG=>hv.2 j r' hj (Or.inr hG)⟩,?_⟩;cases hc:mI o.dst r.kill x.2 with
  | false=>rfl
  | true =>
   obtain⟨b,hb,hd⟩:=hv.2 i r hr (Or.inl rfl) hne (by rw[hdst]; exact hc);exact absurd (hI.closed b i ((hv.1 b hb).resolve_left fun e=>hne (by rw[hb,e])) hd) hi
 have hnew:∀x∈TF,x.1=some i→x.2∈out:=fun x hx e=>by
  obtain⟨b,φ⟩:=x;simp only at e;subst e
  rcases hborn φ hx with h|h
  ·obtain⟨ψ,_,e⟩:=List.mem_map.1 h;cases e
  ·exact h
 have hβ:∀x∈TF,pF draw ops rs (fun j=>j=i∨G j) x→x.1≠some i→∀k ED l,x.2=.row k ED l→β' k=β k:=fun x hx hv hne k ED l hφ=>by
  obtain⟨_,hc⟩:=hold x hx hv hne;rw[hφ]at hc;simp only[mI,Bool.or_eq_false_iff]at hc;exact hP.beta k fun e=>by have:=dR.2 e; rw[hc.1]at this; cases this
 have hno:∀x∈TF,∀y∈TF,x.1=some i→pF draw ops rs (fun j=>j=i∨G j) y→y.1≠some i→∀k k' o' l l',x.2=.row k true l→y.2=.row k' o' l'→k≠k'→(β' k).1≠(β' k').1:=fun x hx y hy hxi hyv hyi k k' o' l l' hxe hye hkk=>by
  obtain⟨hyo,_⟩:=hold y hy hyv hyi;rw[hβ y hy hyv hyi k' o' l' hye];have h1:=hnew x hx hxi;rw[hxe]at h1
  rcases hP.rows k l h1 with⟨h2,_⟩|⟨h2,l0,h3⟩|⟨h2,k0,l0,hk0,he,h3⟩
  ·have h4:=hok y hy hyo;rw[hye]at h4;have:=h4.1;omega
  ·obtain⟨z,hz,hzv,hze⟩:=hrowM k l0 h3;rw[hP.beta k h2];exact hinj z hz y hy hzv hyo k k' o' l0 l' hze hye hkk
  ·obtain⟨z,hz,hzv,hze⟩:=hrowM k0 l0 h3;rw[he];refine hinj z hz y hy hzv hyo k0 k' o' l0 l' hze hye fun e => ?_
   subst e;have hc:=(hold y hy hyv hyi).2;rw[hye]at hc;simp only[mI,Bool.or_eq_false_iff]at hc;have:=dR.2 hk0;rw[hc.2]at this; cases this
 refine⟨by rw[hP.defers]; exact hI.defers,by rw[hP.size]; exact hI.size,hP.below w0 hI.below,Nat.le_trans hI.heap hP.heap,?_,β',?_,?_,?_,?_⟩
 ·intro p q hp hpq
  rcases hp with rfl|hp
  ·exact Or.inr (hdeps q hpq)
  ·exact Or.inr (hI.closed p q hp hpq)
 ·intro x hx hv
  by_cases e:x.1=some i
  ·exact hP.ok _ (hnew x hx e)
  ·obtain⟨h1,h2⟩:=hold x hx hv e;exact aQe hP (hok x hx h1) h2 (hkill x hx h1 h2)
 ·intro x hx y hy hxv hyv k k' o' l l' hxe hye hkk
  by_cases e1:x.1=some i
  ·by_cases e2:y.1=some i
   ·have h1:=hnew x hx e1;have h2:=hnew y hy e2;rw[hxe]at h1;rw[hye]at h2;cases o' with
    | true=>exact absurd (hP.one k k' l l' h1 h2) hkk
    | false=>exact (hP.onlyOwn k' l' h2).elim
   ·exact hno x hx y hy e1 hyv e2 k k' o' l l' hxe hye hkk
  ·by_cases e2:y.1=some i
   ·cases o' with
    | true=>exact fun e=>hno y hy x hx e2 hxv e1 k' k true l' l hye hxe (Ne.symm hkk) e.symm
    | false=>exact (hP.onlyOwn k' l' (hye▸hnew y hy e2)).elim
   ·rw[hβ x hx hxv e1 k true l hxe,hβ y hy hyv e2 k' o' l' hye];exact hinj x hx y hy (hold x hx hxv e1).1 (hold y hy hyv e2).1 k k' o' l l' hxe hye hkk
 ·intro x hx hv k l hxe;rw[hnt]
  by_cases e:x.1=some i
  ·have h1:=hnew x hx e;rw[hxe]at h1
   rcases hP.rows k l h1 with⟨h2,_⟩|⟨h2,l0,h3⟩|⟨h2,k0,l0,hk0,he,h3⟩
   ·exact Or.inr (Nat.le_trans htl.size h2)
   ·obtain⟨z,hz,hzv,hze⟩:=hrowM k l0 h3;rw[hP.beta k h2];exact hown z hz hzv k l0 hze
   ·obtain⟨z,hz,hzv,hze⟩:=hrowM k0 l0 h3;rw[he];exact hown z hz hzv k0 l0 hze
  ·rw[hβ x hx hv e k true l hxe];exact hown x hx (hold x hx hv e).1 k l hxe
 ·refine⟨by rw[hnt]; exact Nat.le_trans htl.size hP.heap,fun p h1 h2 => ?_,htl.shape.trans hP.shape⟩;rw[hnt]at h2;have h3:=hP.mem p (Nat.lt_of_lt_of_le h2 htl.size) fun kk hkk e=>by
   obtain⟨l0,hl0⟩:=hP.kills kk hkk;obtain⟨z,hz,hzv,hze⟩:=hrowM kk l0 hl0
   rcases hown z hz hzv kk l0 hze with h4|h4<;>omega
  have h4:=htl.mem p h1 h2;exact⟨h3.1.trans h4.1,h3.2.trans h4.2⟩
end
end Go.Proofs.YtjkpglhlmknciaaGreat.Ex
