/- Eb01 -/
import Derived.Laws.AppendOwn
import Derived.Laws.OwnMore
import Derived.Laws.StructEq
import Derived.Orders
import Derived.Test.YtpjlhhpjpnacmaaGreatEb00
import Derived.Test.YtpjlhhpjpnacmaaGreatProg
set_option maxRecDepth 100000
set_option linter.unusedVariables false
set_option linter.unusedSimpArgs false
set_option linter.unnecessarySimpa false
namespace Go.Proofs.YtpjlhhpjpnacmaaGreat.Ex
open Go.Proofs.Tryz
open Go.RowKit
theorem iD {P:Program} {t n:Nat} (h:dU P t=some n):∃i,P.info? t=some i∧i.size=n:=by
 unfold dU at h;split at h
 ·rename_i i hi; cases h; exact⟨i,hi,rfl⟩
 ·cases h
theorem gQ {P:Program} {t:Nat} (h:nO P t=true):∃d,P.underlying t=some d∧d.isRow=true:=by
 unfold nO at h;split at h
 ·rename_i d hd; exact⟨d,hd,h⟩
 ·cases h
theorem bG {P:Program} {t n:Nat} (h:dU P t=some n) (w:World):(sizeOf t).run P w=.ok n w:=by
 obtain⟨i,hi,rfl⟩:=iD h;simp[sizeOf,typeInfo,hi]
theorem mM {w:World} {b o:Nat} {l:List At} {i n:Nat} {s:List At} (h:w.rangeAt b o (aB l)) (hs:CM l i n=some s):w.rangeAt b (o+i) (aB s):=by
 obtain⟨p,r,e,hp,ht⟩:=jI hs;intro j v hj;have hlt:j<(aB s).length:=(List.getElem?_eq_some_iff.1 hj).1;have:=h (i+j) v (by
  rw[e,aL,aL,List.getElem?_append_right (by rw[aJ,hp]; omega),aJ,hp,show i+j-i=j by omega,List.getElem?_append_left hlt];exact hj)
 rwa [←Nat.add_assoc]at this
theorem jU {P:Program} (w:World) {t:Nat} (hs:iS P t=true):(isAgg t).run P w=.ok false w:=by
 unfold iS at hs;unfold isAgg;split at hs
 ·cases hs
 ·cases hs
 ·rename_i d hu h1 h2;rw[Sem.run_bind,run_underlying h2 w];cases d<;>first|rfl|exact absurd rfl (hu _)|exact absurd rfl (h1 _ _)
 ·cases hs
theorem lE {P:Program} (w:World) (p:Addr) {t:Nat} {v:Value} (hs:iS P t=true) (hc:w.cell? p=some v):(loadVar t p).run P w=.ok v w:=by
 have hagg:(isAgg t).run P w=.ok false w:=by
  unfold iS at hs;unfold isAgg;split at hs
  ·cases hs
  ·cases hs
  ·rename_i d hu h1 h2;rw[Sem.run_bind,run_underlying h2 w];cases d<;>first|rfl|exact absurd rfl (hu _)|exact absurd rfl (h1 _ _)
  ·cases hs
 simp[loadVar,Sem.run_bind,hagg,hc]
theorem DE {P:Program} (w:World) {t f:Nat} {name:String} (h:ET P t name=some f) (v:Value) (args:Array Value) (he:∀xs,(callFunc f xs).run P w=.ok (.enter f xs) w) :
  (callMethod (.iface t v) name args).run P w=.ok (.enter f (#[v]++args)) w:=by
 have hmeth:∀k,(method (k+1) t v name).run P w=.ok (f,v) w:=fun k=>by
  unfold ET at h;split at h
  ·rename_i i d hi hu;have hfin:(∀e,d ≠ .pointer e)→(match i.methods.find? (·.name==name)with
     | some m=>(match m.path.toList,m.func with
      | [],some (f,false)=>some f
      | _,_=>none)
     | none=>none)=some f→(method (k+1) t v name).run P w=.ok (f,v) w:=fun hd h=>by
    split at h
    ·rename_i m hm;split at h
     ·rename_i f' hp hf;cases h;unfold method;have hrec:∀o,(receiverAt t (.val v) false o).run P w=.ok v w:=fun o=>by
       unfold receiverAt;rw[Sem.run_bind,run_underlying hu w];cases d<;>first|exact absurd rfl (hd _)|rfl
      simp[typeInfo,hi,hm,hp,follow,hf,hrec]
     ·cases h
    ·cases h
   cases d<;>first|(cases h; done)|exact hfin (fun e q=>by cases q) h
  ·cases h
 unfold callMethod;have hk:∃k,P.types.size+Made.depth=k+1:=⟨P.types.size+99,rfl⟩
 obtain⟨k,hk⟩:=hk;simp[Sem.run_bind,run_program,hk,hmeth,he]
theorem zF {l:List At} {i n:Nat} {s:List At} (hs:CM l i n=some s):eS s=n:=by
 obtain⟨p,r,e,hp,ht⟩:=jI hs;exact ht
theorem tI {M:List Fact} {base:Nat} {β:Nat→Bk} {a:Act} {w:World} (hM:∀φ∈M,φ.ok base β a w) {ky:Option Nat} {v:Value} {p:List Prop} {u:AV} (h:JI M ky v=some (p,u)) (hp:aS p):u.den β=v:=by
 unfold JI at h;split at h
 ·cases h; rfl
 ·rename_i k;split at h
  ·rename_i b n m b' hb;cases h;have:=hM _ (fS hb);simp only[Fact.ok]at this;obtain⟨rfl,_⟩:=hp;simp[AV.den,this]
  ·rename_i b b' hb;cases h;have:=hM _ (fS hb);simp only[Fact.ok]at this;obtain⟨rfl,_⟩:=hp;simp[AV.den,this]
  ·cases h
theorem qE {M:List Fact} {base:Nat} {β:Nat→Bk} {a:Act} {w:World} (hM:∀φ∈M,φ.ok base β a w):∀{l:List AV} {vs:List Value},MX M l=some vs→l.map (AV.den β)=vs
 | [],vs,h=>by cases h; rfl
 | .im v::r,vs,h=>by
  unfold MX at h;split at h
  ·rename_i l hl;cases h;show v::r.map (AV.den β)=_;rw[qE hM hl]
  ·cases h
 | .pt k o::r,vs,h=>by
  unfold MX at h;split at h
  ·rename_i b l hb hl;cases h;have:=hM _ (fS hb);simp only[Fact.ok]at this;show (AV.pt k o).den β::r.map (AV.den β)=_;rw[qE hM hl];simp[AV.den,this]
  ·cases h
 | .fl _::_,vs,h=>by cases h
 | .sl _ _ _ _::_,vs,h=>by cases h
 | .tu _::_,vs,h=>by cases h
 | .ic _ _::_,vs,h=>by cases h
 | .tf _ _ _ _::_,vs,h=>by cases h
 | .so _ _::_,vs,h=>by cases h
 | .tg _ _ _ _::_,vs,h=>by cases h
theorem EB {base:Nat} {β:Nat→Bk} {a:Act} {w w':World} {d:Nat} {M:List Fact} (r:FR) (b:Nat) (h:d<a.tmps.size) (hB:base≤w.heap.size) (hb:Below w.heap.size w w')
  (h1:w.heap.size≤b) (h2:b<w'.heap.size) (h3:w'.rangeAt b 0 (aB r.l)) (h4:∀j,w'.frozen? ⟨b,j,none⟩=false) :
  PostB base β (WN β d b) a w (some d) M [.slot d (bif r.post.isEmpty then .sl d 0 r.n r.m else .tf d r.n r.m r.post),.row d true r.l] none (a.put (some d) (r.val b)) w' where
 defers:=rfl
 size:=cJ _ _ _
 tmps s hs:=iE _ _ _ _ hs
 beta k hk:=OU _ _ _ _ hk
 heap:=hb.size
 mem p hp _:=⟨hb.cell hp,hb.frozen hp⟩
 shape:=Shape.below hb
 below _ h:=h.trans (hb.mono hB)
 ok φ hφ:=by
  rcases List.mem_cons.1 hφ with rfl|hφ
  ·show (a.put (some d) (r.val b)).tmps[d]?=_;rw[dD _ _ _ h];unfold FR.val;cases r.post.isEmpty<;>simp[AV.den,dB]
  ·cases List.mem_singleton.1 hφ;refine⟨by rw[dB]; exact h2,by rw[dB]; exact h3,fun _=>⟨by rw[dB]; exact Nat.le_trans hB h1,by rw[dB],fun j=>by rw[dB]; exact h4 j⟩,fun h=>by cases h⟩
 rows k l hk:=by
  rcases List.mem_cons.1 hk with hk|hk
  ·cases hk
  ·cases List.mem_singleton.1 hk;exact Or.inl ⟨by rw[dB]; exact h1,rfl⟩
 one k k' l l' hk hk':=by
  rcases List.mem_cons.1 hk with hk|hk
  ·cases hk
  ·rcases List.mem_cons.1 hk' with hk'|hk'
   ·cases hk'
   ·cases List.mem_singleton.1 hk; cases List.mem_singleton.1 hk'; rfl
 kills k hk:=by cases hk
theorem zG {v:Value} (h:tM v=true):v.oneCell'=true:=by cases v<;>first|rfl|cases h
theorem vV:∀{p:List At},p.all Mm=true→∀v∈aB p,v.oneCell'=true
 | [],_,v,hv=>by cases hv
 | x::r,h,v,hv=>by
  rw[List.all_cons,Bool.and_eq_true]at h
  rcases List.mem_append.1 hv with hv|hv
  ·cases x with
   | f x=>simp only[At.cells,w4,List.mem_cons,List.not_mem_nil,or_false]at hv; rcases hv with rfl|rfl|rfl|rfl<;>rfl
   | q x=>simp only[At.cells,w4,List.mem_cons,List.not_mem_nil,or_false]at hv; rcases hv with rfl|rfl|rfl|rfl<;>rfl
   | c u=>cases List.mem_singleton.1 hv; exact zG h.1
  ·exact vV h.2 v hv
theorem AC {base:Nat} {β:Nat→Bk} {a:Act} {w w':World} {d:Nat} {M:List Fact} (r:FS) (b cap:Nat) (h:d<a.tmps.size) (hB:base≤w.heap.size) (hb:Below w.heap.size w w')
  (h1:w.heap.size≤b) (h2:b<w'.heap.size) (h3:w'.rangeAt b 0 (aB r.l)) (h4:∀j,w'.frozen? ⟨b,j,none⟩=false) (h5:r.ap=true→AppAt w' b r.e r.sz r.n cap) :
  PostB base β (WE β d b cap) a w (some d) M (.slot d (bif r.lone then .so d r.n else .tg d r.n r.ante r.post) :: .row d true r.l::(bif r.ap then [.app d r.e r.sz r.n]else [])) none (a.put (some d) (r.val b cap)) w' where
 defers:=rfl
 size:=cJ _ _ _
 tmps s hs:=iE _ _ _ _ hs
 beta k hk:=OT _ _ _ _ _ hk
 heap:=hb.size
 mem p hp _:=⟨hb.cell hp,hb.frozen hp⟩
 shape:=Shape.below hb
 below _ h:=h.trans (hb.mono hB)
 ok φ hφ:=by
  rcases List.mem_cons.1 hφ with rfl|hφ
  ·show (a.put (some d) (r.val b cap)).tmps[d]?=_;rw[dD _ _ _ h];unfold FS.val;cases r.lone<;>simp[AV.den,cU]
  rcases List.mem_cons.1 hφ with rfl|hφ
  ·refine⟨by rw[cU]; exact h2,by rw[cU]; exact h3,fun _=>⟨by rw[cU]; exact Nat.le_trans hB h1,by rw[cU],fun j=>by rw[cU]; exact h4 j⟩,fun h=>by cases h⟩
  ·cases hap:r.ap<;>rw[hap]at hφ
   ·cases hφ
   ·cases List.mem_singleton.1 hφ;show AppAt w' (WE β d b cap d).1 _ _ _ (WE β d b cap d).2.2;rw[cU]; exact h5 hap
 rows k l hk:=by
  rcases List.mem_cons.1 hk with hk|hk
  ·cases hk
  rcases List.mem_cons.1 hk with hk|hk
  ·cases hk;exact Or.inl ⟨by rw[cU]; exact h1,rfl⟩
  ·cases hap:r.ap<;>rw[hap]at hk
   ·cases hk
   ·cases List.mem_singleton.1 hk
 one k k' l l' hk hk':=by
  have key:∀k l,Fact.row k true l∈(Fact.slot d (bif r.lone then AV.so d r.n else .tg d r.n r.ante r.post) :: .row d true r.l::(bif r.ap then [.app d r.e r.sz r.n]else []))→k=d:=fun k l hk=>by
   rcases List.mem_cons.1 hk with hk|hk
   ·cases hk
   rcases List.mem_cons.1 hk with hk|hk
   ·cases hk; rfl
   ·cases hap:r.ap<;>rw[hap]at hk
    ·cases hk
    ·cases List.mem_singleton.1 hk
  rw[key k l hk,key k' l' hk']
 onlyOwn k l h:=by
  simp only[List.mem_cons,reduceCtorEq,false_or,Fact.row.injEq,Bool.false_eq_true,false_and,and_false]at h;cases hq:r.ap<;>rw[hq]at h
  ·cases h
  ·simp at h
 kills k hk:=by cases hk
theorem mW (w:World) (p:Addr) (v:Value):Shape w (w.setCell p v):=⟨fun b cur e hb=>by
 by_cases h:b=p.block
 ·subst h;refine⟨if p.spot.isSome then cur else cur.setIfInBounds p.off v,?_,?_⟩
  ·simp[World.setCell,Array.getElem?_modify,hb]
  ·split<;>simp
 ·exact⟨cur,(Below.heap_setCell w p v b h).trans hb,rfl⟩,KeepsOthers.setCell w p v⟩
theorem eG (b:Nat):∀(vs:List Value) (o:Nat) (w:World),Shape w (w.setCells b o vs)
 | [],_,w=>Shape.refl w
 | v::r,o,w=>(mW w _ v).trans (eG b r (o+1) _)
theorem Hs {w:World} {b e sz n cap:Nat} {xs:List Value} (h:AppAt w b e sz n cap) (hr:w.rangeAt b 0 xs) (hl:xs.length=n*sz):w.ownsRow 0 e sz (.slice (some ⟨b,0,none⟩) n cap) n xs:=by
 obtain⟨cur,h1,h2,h3,h4⟩:=h;refine⟨hl,.inr ⟨b,cap,cur,rfl,Nat.zero_le _,h1,h2,h3,h4,?_⟩⟩;have hle:n*sz≤cur.size:=by rw[h4]; exact Nat.mul_le_mul_right _ h2
 apply List.ext_getElem?;intro j
 by_cases hj:j<n*sz
 ·have h5:=hr j (xs[j]'(by omega)) (List.getElem?_eq_getElem _);rw[Nat.zero_add,cell_of_row w b j cur e (0,0) h1]at h5;rw[List.getElem?_take,if_pos hj,Array.getElem?_toList,h5,List.getElem?_eq_getElem]
 ·rw[List.getElem?_eq_none (by simp; omega),List.getElem?_eq_none (by omega)]
theorem sB {w:World} {base b e sz n cap:Nat} {xs:List Value} (h:w.ownsRow base e sz (.slice (some ⟨b,0,none⟩) n cap) n xs):AppAt w b e sz n cap∧base≤b∧b<w.heap.size∧w.rangeAt b 0 xs∧∀j,w.frozen? ⟨b,j,none⟩=false:=by
 have h0:=h;obtain⟨hl,⟨e0,_⟩|⟨g,c,cur,e1,hb,hg,h2,h3,h4,h5⟩⟩:=h
 ·cases e0
 ·cases e1;refine⟨⟨cur,hg,h2,h3,h4⟩,hb,(Array.getElem?_eq_some_iff.1 hg).1,fun j v hj => ?_,h0.frozenAt⟩;rw[Nat.zero_add,h0.cellAt j (by rw[←hl]; exact (List.getElem?_eq_some_iff.1 hj).1)];exact hj
theorem uD {P:Program} {t e sz by8:Nat} (h:Tk P t=some (e,sz,by8)):P.underlying t=some (.slice e)∧∃i z,P.info? e=some i∧i.zero=some z∧i.size=sz∧i.bytes=by8∧z.cells.size=sz∧0<sz:=by
 unfold Tk at h;split at h
 ·rename_i e' hu;split at h
  ·rename_i i hi;split at h
   ·rename_i z hz;cases hb:(Nat.beq z.cells.size i.size&&Nat.blt 0 i.size)<;>rw[hb]at h
    ·cases h
    ·cases h;rw[Bool.and_eq_true]at hb;exact⟨hu,i,z,hi,hz,rfl,rfl,Nat.eq_of_beq_eq_true hb.1,by simpa using hb.2⟩
   ·cases h
  ·cases h
 ·cases h
theorem oL {P:Program} (w:World) {t ty e sz by8:Nat} (hT:Tk P t=some (e,sz,by8)) {u:Value} {n:Nat} {xs:List Value}
  (hu:(u=.slice none 0 0∧n=0∧xs=[])∨∃b cap,u=.slice (some ⟨b,0,none⟩) n cap∧AppAt w b e sz n cap∧w.rangeAt b 0 xs∧xs.length=n*sz)
  {ad:Addr} {m c:Nat} {news:List Value} (hl:news.length=m*sz) (hnews:∀j v,news[j]?=some v→w.cell? (ad.add j)=some v) (h1:∀v∈news,v.oneCell'=true)
  (h0:0<m) (hbytes:(n+m)*by8≤140737488355328) (hmax:n+m≤maxLen) :
  ∃b cap w',(Builtin.append_ #[t,t] ty #[u,.slice (some ad) m c]).run P w=.ok (.slice (some ⟨b,0,none⟩) (n+m) cap) w'∧AppAt w' b e sz (n+m) cap∧b<w'.heap.size∧w'.rangeAt b 0 (xs++news)∧(∀j,w'.frozen? ⟨b,j,none⟩=false) ∧
   w.grownBy w' u.ownBlock∧Shape w w'∧(w.heap.size≤b∨∃cap0,u=.slice (some ⟨b,0,none⟩) n cap0):=by
 obtain⟨ht,i,z,hi,hz,hsize,hby,hzs,hsz⟩:=uD hT
 rcases hu with⟨rfl,rfl,rfl⟩|⟨b,cap,rfl,ha,hr,hx⟩
 ·obtain⟨v',w',hr,hown,hg,hne⟩:=run_append_own (P:=P) w w.heap.size t ty e i z sz by8 ht hi hz hsize hby hzs hsz _ 0 [] (World.ownsRow_nil w w.heap.size e sz) ad m c news hl hnews h1 hmax hbytes (Nat.le_refl _);have hv:∃b cap,v'=.slice (some ⟨b,0,none⟩) (0+m) cap:=by
   obtain⟨_,⟨rfl,h2⟩|⟨g,c',cur,rfl,_⟩⟩:=hown
   ·omega
   ·exact⟨g,c',rfl⟩
  obtain⟨b,cap,rfl⟩:=hv;obtain⟨a1,a2,a3,a4,a5⟩:=sB hown;exact⟨b,cap,w',hr,a1,a3,a4,a5,hg,⟨fun q cur e' hq=>⟨cur,(hg.block q (Array.getElem?_eq_some_iff.1 hq).1 (by simp[Value.ownBlock])).trans hq,rfl⟩,KeepsOthers.of_grownBy hg fun j o e=>by simp[Value.ownBlock]at e⟩,Or.inl a2⟩
 ·have hown:=Hs ha hr hx
  by_cases hroom:n+m≤cap
  ·obtain⟨w',hr',hown',hg⟩:=run_append_fits (P:=P) w 0 t ty e i sz ht hi hsize b n cap xs hown ad m c news hl hnews h1 hroom;obtain⟨a1,a2,a3,a4,a5⟩:=sB hown';refine⟨b,cap,w',hr',a1,a3,a4,a5,hg,⟨fun q cur e' hq => ?_,KeepsOthers.of_grownBy hg fun j o e ho=>by
    obtain⟨c0,k1,_⟩:=ha;have e':j=b:=by simpa[Value.ownBlock,eq_comm]using e
    rw[e',k1]at ho;cases ho;rfl⟩,Or.inr ⟨cap,rfl⟩⟩
   by_cases hqb:q=b
   ·subst hqb;obtain⟨c0,k1,k2,k3,k4⟩:=ha;rw[k1]at hq;cases hq;obtain⟨c1,m1,m2,m3,m4⟩:=a1;exact⟨c1,m1,by rw[m4,k4]⟩
   ·exact⟨cur,(hg.block q (Array.getElem?_eq_some_iff.1 hq).1 (by simpa using hqb)).trans hq,rfl⟩
  ·obtain⟨v',w',hr',hown',hg,_⟩:=run_append_own (P:=P) w 0 t ty e i z sz by8 ht hi hz hsize hby hzs hsz _ n xs hown ad m c news hl hnews h1 hmax hbytes (Nat.zero_le _);have holds:∀j v,xs[j]?=some v→w.cell? ((⟨b,0,none⟩:Addr).add j)=some v:=hown.cells (g:=b) rfl
   have hr2:=run_append_grow (P:=P) w t ty e i z ht hi hz ⟨b,0,none⟩ n cap xs (by rw[hsize]; exact hx) holds ad m c news (by rw[hsize]; exact hl) hnews (by omega) (by simp only[maxLen]at hmax; omega) (growslice_fits (by omega) (by rw[hby]; exact hbytes));rw[hr']at hr2;injection hr2 with hv hw;subst hv;obtain⟨a1,a2,a3,a4,a5⟩:=sB hown';exact⟨_,_,w',hr',a1,a3,a4,a5,hg,by rw[hw]; exact Shape.trans (b:=w.drew) ⟨fun q cur e' hq=>⟨cur,hq,rfl⟩,Nat.le_refl _,fun k o h _=>h⟩ (Shape.alloc _ _),Or.inl (Nat.le_refl _)⟩
theorem AD {base:Nat} {β:Nat→Bk} {a:Act} {w w':World} {d:Nat} {M:List Fact} {kl:Option Nat} {L:List At} {e sz N b cap:Nat} {row:Option Nat} (h:d<a.tmps.size) (hB:base≤w.heap.size)
  (h1:AppAt w' b e sz N cap) (h2:b<w'.heap.size) (h3:w'.rangeAt b 0 (aB L)) (h4:∀j,w'.frozen? ⟨b,j,none⟩=false) (hg:w.grownBy w' row) (hs:Shape w w')
  (hk:(kl=none∧row=none∧w.heap.size≤b)∨∃k l0,kl=some k∧row=some (β k).1∧base≤(β k).1∧Fact.row k true l0∈M∧(w.heap.size≤b∨b=(β k).1)) :
  PostB base β (WE β d b cap) a w (some d) M [.slot d (.so d N),.row d true L,.app d e sz N] kl (a.put (some d) (.slice (some ⟨b,0,none⟩) N cap)) w':=by
 have hbb:base≤b:=by
  rcases hk with⟨_,_,h⟩|⟨k,l0,_,_,hb,_,h|h⟩<;>omega
 have hmem:∀q,q<w.heap.size→(∀k,kl=some k→q≠(β k).1)→w'.heap[q]?=w.heap[q]?:=fun q hq hne=>by
  refine hg.block q hq fun e => ?_
  rcases hk with⟨_,h,_⟩|⟨k,l0,hkl,h,_⟩
  ·rw[h]at e; cases e
  ·rw[h]at e;exact hne k hkl (by injection e)
 exact {
  defers:=rfl
  size:=cJ _ _ _
  tmps:=fun s hs=>iE _ _ _ _ hs
  beta:=fun k hk=>OT _ _ _ _ _ hk
  heap:=hg.size
  mem:=fun p hp hne=>⟨World.cell?_of_block (hmem p.block hp hne),World.frozen?_of_block (hmem p.block hp hne)⟩
  shape:=hs
  below:=fun w0 hw0=>hw0.grown hg hB fun k hk'=>by
   rcases hk with⟨_,h,_⟩|⟨k0,l0,_,h,hb,_⟩
   ·rw[h]at hk'; cases hk'
   ·rw[h]at hk'; cases hk'; exact hb
  ok:=fun φ hφ=>by
   simp only[List.mem_cons,List.not_mem_nil,or_false]at hφ
   rcases hφ with rfl|rfl|rfl
   ·show (a.put (some d) _).tmps[d]?=_;rw[dD _ _ _ h];simp[AV.den,cU]
   ·refine⟨by rw[cU]; exact h2,by rw[cU]; exact h3,fun _=>⟨by rw[cU]; exact hbb,by rw[cU],fun j=>by rw[cU]; exact h4 j⟩,fun h=>by cases h⟩
   ·show AppAt w' (WE β d b cap d).1 _ _ _ (WE β d b cap d).2.2;rw[cU]; exact h1
  rows:=fun k l hk'=>by
   simp only[List.mem_cons,List.not_mem_nil,or_false,reduceCtorEq,false_or]at hk';cases hk'
   rcases hk with⟨_,_,h⟩|⟨k0,l0,hkl,_,_,hm,h|h⟩
   ·exact Or.inl ⟨by rw[cU]; exact h,rfl⟩
   ·exact Or.inl ⟨by rw[cU]; exact h,rfl⟩
   ·exact Or.inr (Or.inr ⟨rfl,k0,l0,hkl,by rw[cU]; exact h,hm⟩)
  one:=fun k k' l l' hk hk'=>by
   simp only[List.mem_cons,List.not_mem_nil,or_false,reduceCtorEq,false_or]at hk hk';cases hk; cases hk'; rfl
  kills:=fun k hk'=>by
   rcases hk with⟨h,_⟩|⟨k0,l0,hkl,_,_,hm,_⟩
   ·rw[h]at hk'; cases hk'
   ·rw[hkl]at hk'; cases hk'; exact⟨l0,hm⟩ }
theorem CH {M:List Fact} {base:Nat} {β:Nat→Bk} {a:Act} {w:World} (hM:∀φ∈M,φ.ok base β a w) {sz:Nat} {v:AV} {m:Nat} {news:List At} (h:Uv M sz v=some (m,news)) :
  ∃b o c,v.den β=.slice (some ⟨b,o,none⟩) m c∧w.rangeAt b o (aB news)∧eS news=m*sz:=by
 unfold Uv at h;split at h
 ·rename_i k o n c;split at h
  ·rename_i ow l hr;split at h
   ·rename_i r hd;split at h
    ·rename_i t ht;cases h;obtain⟨h1,h2,_⟩:=hM _ (aX hr);obtain⟨p,e,hp⟩:=tV hd;obtain⟨q,e2,hq⟩:=oF _ _ _ ht;refine⟨_,_,_,rfl,fun j u hj => ?_,hq⟩;have hlt:=(List.getElem?_eq_some_iff.1 hj).1;have:=h2 (o+j) u (by rw[e,e2,aL,aL,List.getElem?_append_right (by rw[aJ,hp]; omega),aJ,hp,Nat.add_sub_cancel_left,List.getElem?_append_left hlt]; exact hj)
     rwa [←Nat.add_assoc]at this
    ·cases h
   ·cases h
  ·cases h
 ·rename_i k n;split at h
  ·rename_i ow l hr;split at h
   ·rename_i t ht;cases h;obtain⟨h1,h2,_⟩:=hM _ (aX hr);obtain⟨q,e2,hq⟩:=oF _ _ _ ht;refine⟨_,_,_,rfl,fun j u hj => ?_,hq⟩;have hlt:=(List.getElem?_eq_some_iff.1 hj).1;exact h2 j u (by rw[e2,aL,List.getElem?_append_left hlt]; exact hj)
   ·cases h
  ·cases h
 ·cases h
theorem VU {E:Env} {M:List Fact} {base:Nat} {β:Nat→Bk} {a:Act} {w:World} (hM:∀φ∈M,φ.ok base β a w) (hX:uF E.P E.q.x base w) {sz d:Nat} {v:AV} {m:Nat} {news:List At} {ps:List Prop} (h:Xp E M sz d v=some (m,news,ps)) (hp:aS ps) :
  ∃b o c,v.den β=.slice (some ⟨b,o,none⟩) m c∧w.rangeAt b o (aB news)∧eS news=m*sz:=by
 unfold Xp at h;split at h
 ·split at h
  ·rename_i k o n c;split at h
   ·rename_i ow l hr;cases h;obtain⟨h1,h2,_⟩:=hM _ (aX hr);obtain⟨p,s,e,hq,hs⟩:=jI hp.1;refine⟨_,_,_,rfl,fun j u hj => ?_,hs⟩;have hlt:=(List.getElem?_eq_some_iff.1 hj).1;have:=h2 (o+j) u (by rw[e,aL,aL,List.getElem?_append_right (by rw[aJ,hq]; omega),aJ,hq,Nat.add_sub_cancel_left,List.getElem?_append_left hlt]; exact hj)
    rwa [←Nat.add_assoc]at this
   ·cases h
  ·rename_i k n;split at h
   ·rename_i ow l hr;cases h;obtain⟨h1,h2,_⟩:=hM _ (aX hr);obtain⟨p,s,e,hq,hs⟩:=jI hp.1;refine⟨_,_,_,rfl,fun j u hj => ?_,hs⟩;have hlt:=(List.getElem?_eq_some_iff.1 hj).1;have:=h2 (0+j) u (by rw[e,aL,aL,List.getElem?_append_right (by rw[aJ,hq]; omega),aJ,hq,Nat.add_sub_cancel_left,List.getElem?_append_left hlt]; exact hj)
    rwa [Nat.zero_add]at this
   ·cases h
  ·rename_i b o n c;cases h;exact⟨b,o,c,rfl,hX.1 _ _ _ hp.1,hp.2.1⟩
  ·cases h
 ·split at h
  ·rename_i m' t hS;cases h;exact CH hM hS
  ·cases h
theorem VT {M:List Fact} {base:Nat} {β:Nat→Bk} {a:Act} {w:World} (hM:∀φ∈M,φ.ok base β a w) {e sz:Nat} {u:AV} {n:Nat} {l:List At} {kl:Option Nat} {ps:List Prop} (h:Xo M e sz u=some (n,l,kl,ps)) (hp:aS ps) :
  ((u.den β=.slice none 0 0∧n=0∧aB l=[])∧kl=none)∨∃k l0,kl=some k∧Fact.row k true l0∈M∧l0=l∧base≤(β k).1∧u.den β=.slice (some ⟨(β k).1,0,none⟩) n (β k).2.2∧AppAt w (β k).1 e sz n (β k).2.2∧w.rangeAt (β k).1 0 (aB l)∧(aB l).length=n*sz:=by
 unfold Xo at h;split at h
 ·cases h;exact Or.inl ⟨⟨rfl,rfl,rfl⟩,rfl⟩
 ·rename_i k n';split at h
  ·rename_i l' e' sz' n2 hr ha;cases hq:(Nat.beq e e'&&Nat.beq sz sz')<;>rw[hq]at h
   ·cases h
   ·cases h;simp only[Bool.and_eq_true]at hq;obtain⟨q1,q2⟩:=hq;cases Nat.eq_of_beq_eq_true q1;cases Nat.eq_of_beq_eq_true q2;obtain⟨p1,p2,_⟩:=hp;obtain⟨g1,g2,g3,_⟩:=hM _ (aX hr);obtain⟨g4,g5,g6⟩:=g3 rfl;have ga:=hM _ (fW ha);simp only[Fact.ok]at ga;rw[←p1]at ga;refine Or.inr ⟨k,l,rfl,aX hr,rfl,g4,?_,ga,by rw[←g5]; exact g2,by rw[aJ]; exact p2⟩;simp only[AV.den,g5]
  ·cases h
 ·cases h
section
variable {E:Env} {base:Nat} {β:Nat→Bk} {a:Act} {w:World} {M:List Fact} {d:Nat} {o:Oper} {pre:List Prop} {out:List Fact} {kill:Option Nat} {K:Act→World→Prop} {Q:Exit→Act→World→Prop}
theorem aK (hd:d<a.tmps.size) (hdst:o.dst=some d) (v:AV) (hr:(execOp a.eval o).run E.P w=.ok (.value (v.den β)) w)
  (hK:∀β' a' w',PostB base β β' a w (some d) M [.slot d v] none a' w'→K a' w'):o.wp E.P a w K Q :=
 fP hr (by rw[hdst]; exact hK _ _ _ (vG v hd))
theorem xN (hB:base≤w.heap.size) (hd:d<a.tmps.size) (hdst:o.dst=some d) (v:AV) (l:List At) (t:TypeId)
  (hr:(execOp a.eval o).run E.P w=.ok (.value (v.den (WN β d w.heap.size))) (w.alloc (.cells (aB l).toArray t)))
  (hK:∀β' a' w',PostB base β β' a w (some d) M [.slot d v,.row d true l] none a' w'→K a' w'):o.wp E.P a w K Q :=
 fP hr (by rw[hdst]; exact hK _ _ _ (RK v l t hd hB))
variable (hC:(∀φ∈M,φ.ok base β a w)∧base≤w.heap.size∧d<a.tmps.size∧o.dst=some d)
variable (hK:∀β' a' w',PostB base β β' a w (some d) M out kill a' w'→K a' w')
include hC hK
theorem XB {x:Operand} (ho:o.op=.move x) (h:bL E M d (.move x)=some (pre,out,kill)):o.wp E.P a w K Q:=by
 obtain⟨hM,hB,hd,hdst⟩:=hC;simp only[bL]at h;split at h
 ·rename_i v hv;cases h;exact aK hd hdst v (by simp[execOp,ho,aH hM hv]) hK
 ·cases h
theorem LB {x:Operand} (ho:o.op=.assign x) (h:bL E M d (.assign x)=some (pre,out,kill)):o.wp E.P a w K Q:=by
 obtain⟨hM,hB,hd,hdst⟩:=hC;simp only[bL]at h;split at h
 ·rename_i v hv;cases h;exact aK hd hdst v (by simp[execOp,ho,aH hM hv]) hK
 ·cases h
theorem XA {c x y:Operand} (ho:o.op=.pick c x y) (h:bL E M d (.pick c x y)=some (pre,out,kill)):o.wp E.P a w K Q:=by
 obtain⟨hM,hB,hd,hdst⟩:=hC;simp only[bL]at h;split at h
 ·rename_i b v u hc hx hy;cases h;refine aK hd hdst _ ?_ hK;have hc':a.eval c=.bool b:=aH hM hc;cases b
  ·simp[execOp,ho,hc',aH hM hy,asBool]
  ·simp[execOp,ho,hc',aH hM hx,asBool]
 ·cases h
theorem QA {t:TypeId} (ho:o.op=.alloc t) (h:bL E M d (.alloc t)=some (pre,out,kill)):o.wp E.P a w K Q:=by
 obtain⟨hM,hB,hd,hdst⟩:=hC;simp only[bL]at h;split at h
 ·rename_i l hl;cases h;unfold Cs at hl;split at hl
  ·rename_i i hi;split at hl
   ·rename_i z hz;cases hl;refine xN hB hd hdst _ _ t ?_ hK;simp[execOp,ho,Instr.alloc,zeroValue,typeInfo,hi,hz,newVar,newRow,AV.den,dB,IZ]
   ·cases hl
  ·cases hl
 ·cases h
theorem Fr {t:TypeId} {x:Operand} (ho:o.op=.box t x) (h:bL E M d (.box t x)=some (pre,out,kill)):o.wp E.P a w K Q:=by
 obtain⟨hM,hB,hd,hdst⟩:=hC;simp only[bL]at h;split at h
 ·rename_i v hv;split at h
  ·rename_i p hp;cases h;refine xN hB hd hdst _ _ t ?_ hK;have hc:=nL hp β;have he:=aH hM hv;rw[show AV.den (WN β d w.heap.size) (.pt d 0)=.pointer (some ⟨w.heap.size,0,none⟩) by simp[AV.den,dB]];simp[execOp,ho,Instr.box,newVar,newRow,he,hc]
  ·cases h
 ·cases h
theorem PY {t:TypeId} {ps:Array (Nat×Operand)} (ho:o.op=.build t ps) (h:bL E M d (.build t ps)=some (pre,out,kill)) (hp:aS pre):o.wp E.P a w K Q:=by
 obtain⟨hM,hB,hd,hdst⟩:=hC;simp only[bL]at h;split at h
 ·rename_i qs hq;split at h
  ·rename_i l hl;have:=BZ hM hq hl;have hb:=run_build w t (ps.map fun (i,x)=>(i,a.eval x)) _ (by rw[Array.toList_map]; exact this);split at h
   ·rename_i l' hl';cases h;refine aK hd hdst (.fl l') ?_ hK;simp[execOp,ho,hb,AV.den,hp.1]
   ·cases h;refine aK hd hdst _ ?_ hK;simp[execOp,ho,hb,AV.den,YZ]
  ·cases h
 ·cases h
theorem uI {t:TypeId} {n:Nat} {ps:Array (Nat×Operand)} (ho:o.op=.buildSlice t n ps) (h:bL E M d (.buildSlice t n ps)=some (pre,out,kill)):o.wp E.P a w K Q:=by
 obtain⟨hM,hB,hd,hdst⟩:=hC;simp only[bL]at h;split at h
 ·rename_i qs hq;split at h
  ·rename_i l hl;cases h;unfold KG at hl;split at hl
   ·rename_i e hu;split at hl
    ·rename_i ie hie;split at hl
     ·rename_i z hz;cases hc:(Nat.ble (n*ie.size) 4096 && !(Nat.beq (n*ie.size) 0))<;>rw[hc]at hl
      ·cases hl
      ·simp only[cond_true]at hl;simp only[Bool.and_eq_true,Bool.not_eq_true',Nat.ble_eq]at hc;have hpos:¬n*ie.size=0:=fun e=>by rw[e]at hc; exact absurd hc.2 (by decide)
       have hs:=kG hM _ ps.toList qs _ _ hq hl;rw[sE,Array.toArray_toList]at hs;refine xN hB hd hdst _ _ e ?_ hK;have hb:=run_buildSlice (P:=E.P) w t e n (ps.map fun (i,x)=>(i,a.eval x)) _ ie z hu hie hz (by omega) hpos (by rw[Array.toList_map]; exact hs);simp[execOp,ho,hb,AV.den,dB]
     ·cases hl
    ·cases hl
   ·cases hl
  ·cases h
 ·cases h
theorem XC {t:TypeId} {x:Operand} (hX:uF E.P E.q.x base w) (ho:o.op=.load t x) (h:bL E M d (.load t x)=some (pre,out,kill)) (hp:aS pre):o.wp E.P a w K Q:=by
 obtain⟨hM,hB,hd,hdst⟩:=hC;simp only[bL]at h;split at h
 ·rename_i k i hx;split at h
  ·rename_i ow l n hr hs ht;have hg':∃s,CM l i n=some s∧out=[.slot d (.fl s)]∧kill=none:=by
    split at h
    ·rename_i s hs';cases h;exact⟨s,hp.1,rfl,rfl⟩
    ·split at h
     ·rename_i s hg; cases h; exact⟨s,hg,rfl,rfl⟩
     ·cases h
   obtain⟨s,hg,rfl,rfl⟩:=hg'
   ·obtain⟨i',hi,hn⟩:=iD hs;obtain⟨ds,hu,hd'⟩:=gQ ht;obtain⟨h1,h2,_⟩:=hM _ (aX hr);refine aK hd hdst _ ?_ hK;have:=run_loadAt_mid (P:=E.P) w _ _ t (aB s) ds (mM h2 hg) hu hd' (by rw[hi]; simp[aJ,zF hg,hn]);have hx':a.eval x=.pointer (some ⟨(β k).1,(β k).2.1+i,none⟩):=aH hM hx;simp[execOp,ho,hx',this,AV.den]
  ·rename_i ow l hr hs ht;cases hsc:iS E.P t<;>rw[hsc]at h
   ·cases h
   ·simp only[cond_true]at h;have hg':∃v u,cellAt l i=some v∧u.den β=v∧out=[.slot d u]∧kill=none:=by
     split at h
     ·rename_i s hs';split at h
      ·rename_i p u hk;cases h;exact⟨s,u,hp.1,tI hM hk hp.2,rfl,rfl⟩
      ·cases h
     ·split at h
      ·rename_i s hg;split at h
       ·rename_i p u hk;cases h;exact⟨s,u,hg,tI hM hk hp,rfl,rfl⟩
       ·cases h
      ·cases h
    obtain⟨v,u,hg,hu,rfl,rfl⟩:=hg';obtain⟨h1,h2,_⟩:=hM _ (aX hr);refine aK hd hdst _ ?_ hK;have hc:w.cell? ⟨(β k).1,(β k).2.1+i,none⟩=some v:=h2 i v (gR hg);have hx':a.eval x=.pointer (some ⟨(β k).1,(β k).2.1+i,none⟩):=aH hM hx;have hl:=lE w ⟨(β k).1,(β k).2.1+i,none⟩ hsc hc;simp[execOp,ho,Instr.loadAt,Instr.sureAddr,hx',hl,hu]
  ·cases h
 ·rename_i b i hx;have hx':a.eval x=.pointer (some ⟨b,i,none⟩):=aH hM hx;split at h
  ·rename_i n hs ht;split at h
   ·rename_i s hl;cases h;obtain⟨i',hi,hn⟩:=iD hs;obtain⟨ds,hu,hd'⟩:=gQ ht;have h2:=hX.1 _ _ _ hp.1;refine aK hd hdst _ ?_ hK;have:=run_loadAt_mid (P:=E.P) w _ _ t (aB s) ds h2 hu hd' (by rw[hi]; simp[aJ,hp.2.1,hn]);simp[execOp,ho,hx',this,AV.den]
   ·cases h
  ·rename_i hs ht;cases hsc:iS E.P t<;>rw[hsc]at h
   ·cases h
   ·simp only[cond_true]at h;split at h
    ·rename_i v hv;cases h;have h2:=hX.1 _ _ _ hp.1;refine aK hd hdst _ ?_ hK;have hc:w.cell? ⟨b,i,none⟩=some v:=h2 0 v rfl;have hl:=lE w ⟨b,i,none⟩ hsc hc;simp[execOp,ho,Instr.loadAt,Instr.sureAddr,hx',hl,AV.den]
    ·cases h
  ·cases h
 ·cases h
theorem PW {t:TypeId} {x:Operand} (ho:o.op=.makeInterface t x) (h:bL E M d (.makeInterface t x)=some (pre,out,kill)):o.wp E.P a w K Q:=by
 obtain⟨hM,hB,hd,hdst⟩:=hC;simp only[bL]at h;split at h
 ·rename_i l hx;cases hi:TC E.P t<;>rw[hi]at h
  ·cases h;have hx':a.eval x=.agg (aB l).toArray:=aH hM hx;refine aK hd hdst _ ?_ hK;have hm:(Instr.makeInterface t (.agg (aB l).toArray)).run E.P w=.ok (.iface t (.agg (aB l).toArray)) w:=by
    unfold TC at hi;unfold Instr.makeInterface;split at hi
    ·cases hi
    ·rename_i dd hne hu;rw[Sem.run_bind,run_underlying hu w];cases dd<;>first|rfl|exact absurd rfl (hne _)
    ·cases hi
   simp[execOp,ho,hx',hm,AV.den]
  ·cases h
 ·cases h
theorem zA {x:Operand} (ho:o.op=.nilCheck x) (h:bL E M d (.nilCheck x)=some (pre,out,kill)):o.wp E.P a w K Q:=by
 obtain⟨hM,hB,hd,hdst⟩:=hC;simp only[bL]at h;split at h
 ·rename_i k j hx;cases h;have hx':a.eval x=.pointer (some ⟨(β k).1,(β k).2.1+j,none⟩):=aH hM hx;exact aK hd hdst _ (by simp[execOp,ho,hx',AV.den]) hK
 ·rename_i p hx;cases h;have hx':a.eval x=.pointer (some p):=aH hM hx;exact aK hd hdst _ (by simp[execOp,ho,hx',AV.den]) hK
 ·cases h
theorem DB {src dst:TypeId} {x:Operand} (hX:uF E.P E.q.x base w) (ho:o.op=.convert src dst x) (h:bL E M d (.convert src dst x)=some (pre,out,kill)) (hp:aS pre):o.wp E.P a w K Q:=by
 obtain⟨hM,hB,hd,hdst⟩:=hC;simp only[bL]at h;split at h
 ·rename_i r hr;split at h
  ·rename_i l b' o' n m hl hx;cases h;have hx':a.eval x=.slice (some ⟨b',o',none⟩) n m:=aH hM hx;have h1:=hp.2.1 w b' o' m (hX.1 _ _ _ hp.1);refine aK hd hdst (.im r) ?_ hK;simp[execOp,ho,hx',h1,AV.den]
  ·rename_i l0 k n hl hx;split at h
   ·rename_i ow l hrw;cases h;obtain⟨h1,h2,_⟩:=hM _ (aX hrw);have hx':a.eval x=.slice (some ⟨(β k).1,(β k).2.1,none⟩) n (β k).2.2:=aH hM hx;have h3:=hp.1 w _ _ (β k).2.2 h2;refine aK hd hdst (.im r) ?_ hK;simp[execOp,ho,hx',h3,AV.den]
   ·cases h
  ·rename_i v hl hx;cases h;have hx':a.eval x=v:=aH hM hx;have h1:=hp.1 w;refine aK hd hdst (.im r) ?_ hK;simp[execOp,ho,hx',h1,AV.den]
  ·cases h
 ·cases h
theorem zB {fn:Fn} {first captured:Array Operand} (ho:o.op=.makeFunc fn first captured) (h:bL E M d (.makeFunc fn first captured)=some (pre,out,kill)):o.wp E.P a w K Q:=by
 obtain⟨hM,hB,hd,hdst⟩:=hC;simp only[bL]at h;split at h
 ·rename_i id;cases hb:Nat.beq first.size 0<;>rw[hb]at h
  ·cases h
  ·simp only[cond_true]at h;have z1:first = #[]:=Array.size_eq_zero_iff.1 (Nat.eq_of_beq_eq_true hb);subst z1;split at h
   ·rename_i l hl;split at h
    ·rename_i vs hv;cases h;have hargs:=pF hM hl;rw[qE hM hv]at hargs;have ea:captured.map a.eval=vs.toArray:=by rw[←Array.toArray_toList (xs:=captured.map a.eval),Array.toList_map,hargs]
     refine aK hd hdst (.im (.func (.func id) #[] vs.toArray)) ?_ hK;simp[execOp,ho,Instr.makeFunc,ea,AV.den]
    ·cases h
   ·cases h
 ·cases h
theorem wT {t:TypeId} {x y:Operand} (ho:o.op=.makeSlice t x y) (h:bL E M d (.makeSlice t x y)=some (pre,out,kill)) (hp:aS pre):o.wp E.P a w K Q:=by
 obtain⟨hM,hB,hd,hdst⟩:=hC;simp only[bL]at h;split at h
 ·rename_i n L v u hm hx hy;cases h;have hx':a.eval x=v:=aH hM hx;have hy':a.eval y=u:=aH hM hy;obtain⟨e,he⟩:=hp.1;have h1:=he w;refine xN hB hd hdst _ _ e ?_ hK;simp[execOp,ho,hx',hy',h1,AV.den,dB]
 ·cases h
theorem PX {s:TypeId} {x:Operand} {i:Nat} (ho:o.op=.fieldAddr s x i) (h:bL E M d (.fieldAddr s x i)=some (pre,out,kill)):o.wp E.P a w K Q:=by
 obtain⟨hM,hB,hd,hdst⟩:=hC;simp only[bL]at h;split at h
 ·rename_i k j fs hx hu;split at h
  ·rename_i f hf;split at h
   ·rename_i n hn;cases hb:Nat.beq n 0<;>rw[hb]at h
    ·cases h;refine aK hd hdst _ ?_ hK;have hx':a.eval x=.pointer (some ⟨(β k).1,(β k).2.1+j,none⟩):=aH hM hx;have hz:n≠0:=fun e=>by rw[e]at hb; cases hb
     simp[execOp,ho,hx',Instr.fieldAt,run_underlying hu,hf,Instr.sureAddr,fieldPlace,bG hn,hz,AV.den,Addr.add_mid,Nat.add_assoc]
    ·cases h
   ·cases h
  ·cases h
 ·rename_i b j fs hx hu;split at h
  ·rename_i f hf;split at h
   ·rename_i n hn;cases hb:Nat.beq n 0<;>rw[hb]at h
    ·cases h;refine aK hd hdst _ ?_ hK;have hx':a.eval x=.pointer (some ⟨b,j,none⟩):=aH hM hx;have hz:n≠0:=fun e=>by rw[e]at hb; cases hb
     simp[execOp,ho,hx',Instr.fieldAt,run_underlying hu,hf,Instr.sureAddr,fieldPlace,bG hn,hz,AV.den,Addr.add_mid,Nat.add_assoc]
    ·cases h
   ·cases h
  ·cases h
 ·cases h
theorem wU {t:TypeId} {x y:Operand} (ho:o.op=.indexAddr t x y) (h:bL E M d (.indexAddr t x y)=some (pre,out,kill)) (hp:aS pre):o.wp E.P a w K Q:=by
 obtain⟨hM,hB,hd,hdst⟩:=hC;simp only[bL]at h;split at h
 ·rename_i i hidx;split at h
  ·rename_i k j kd q n e hx hy hu;have hx':a.eval x=.pointer (some ⟨(β k).1,(β k).2.1+j,none⟩):=aH hM hx;have hy':a.eval y=.int kd q:=aH hM hy;split at h
   ·rename_i s hs;cases h;obtain⟨rfl,hi,_⟩:=hp;refine aK hd hdst _ ?_ hK;simp[execOp,ho,hx',hy',Instr.indexAt,asIntOf,run_underlying hu,Instr.sureAddr,bG hs,hi,AV.den,Addr.add_mid,Nat.add_assoc]
   ·cases h
  ·rename_i k j n m kd q e hx hy hu;have hx':a.eval x=.slice (some ⟨(β k).1,(β k).2.1+j,none⟩) n m:=aH hM hx;have hy':a.eval y=.int kd q:=aH hM hy;split at h
   ·rename_i s hs;cases h;obtain⟨rfl,hi,_⟩:=hp;refine aK hd hdst _ ?_ hK;simp[execOp,ho,hx',hy',Instr.indexAt,asIntOf,run_underlying hu,Instr.sureAddr,bG hs,hi,AV.den,Addr.add_mid,Nat.add_assoc]
   ·cases h
  ·rename_i b j kd q n e hx hy hu;have hx':a.eval x=.pointer (some ⟨b,j,none⟩):=aH hM hx;have hy':a.eval y=.int kd q:=aH hM hy;split at h
   ·rename_i s hs;cases h;obtain⟨rfl,hi,_⟩:=hp;refine aK hd hdst _ ?_ hK;simp[execOp,ho,hx',hy',Instr.indexAt,asIntOf,run_underlying hu,Instr.sureAddr,bG hs,hi,AV.den,Addr.add_mid,Nat.add_assoc]
   ·cases h
  ·rename_i b j n m kd q e hx hy hu;have hx':a.eval x=.slice (some ⟨b,j,none⟩) n m:=aH hM hx;have hy':a.eval y=.int kd q:=aH hM hy;split at h
   ·rename_i s hs;cases h;obtain⟨rfl,hi,_⟩:=hp;refine aK hd hdst _ ?_ hK;simp[execOp,ho,hx',hy',Instr.indexAt,asIntOf,run_underlying hu,Instr.sureAddr,bG hs,hi,AV.den,Addr.add_mid,Nat.add_assoc]
   ·cases h
  ·cases h
 split at h
 ·rename_i k j kd i hx hy;have hx':a.eval x=.pointer (some ⟨(β k).1,(β k).2.1+j,none⟩):=aH hM hx;have hy':a.eval y=.int kd (Int.ofNat i):=aH hM hy;split at h
  ·rename_i n e hu;split at h
   ·rename_i s hs;cases hb:Nat.blt i n<;>rw[hb]at h
    ·cases h
    ·cases h;have hi:i<n:=by simpa using hb
     refine aK hd hdst _ ?_ hK;simp[execOp,ho,hx',hy',Instr.indexAt,asIntOf,run_underlying hu,Instr.sureAddr,bG hs,hi,AV.den,Addr.add_mid,Nat.add_assoc]
   ·cases h
  ·cases h
 ·rename_i k j n m kd i hx hy;have hx':a.eval x=.slice (some ⟨(β k).1,(β k).2.1+j,none⟩) n m:=aH hM hx;have hy':a.eval y=.int kd (Int.ofNat i):=aH hM hy;split at h
  ·rename_i e hu;split at h
   ·rename_i s hs;cases hb:Nat.blt i n<;>rw[hb]at h
    ·cases h
    ·cases h;have hi:i<n:=by simpa using hb
     refine aK hd hdst _ ?_ hK;simp[execOp,ho,hx',hy',Instr.indexAt,asIntOf,run_underlying hu,Instr.sureAddr,bG hs,hi,AV.den,Addr.add_mid,Nat.add_assoc]
   ·cases h
  ·cases h
 ·rename_i k n kd i hx hy;have hx':a.eval x=.slice (some ⟨(β k).1,(β k).2.1,none⟩) n (β k).2.2:=aH hM hx;have hy':a.eval y=.int kd (Int.ofNat i):=aH hM hy;split at h
  ·rename_i e hu;split at h
   ·rename_i s hs;cases hb:Nat.blt i n<;>rw[hb]at h
    ·cases h
    ·cases h;have hi:i<n:=by simpa using hb
     refine aK hd hdst _ ?_ hK;simp[execOp,ho,hx',hy',Instr.indexAt,asIntOf,run_underlying hu,Instr.sureAddr,bG hs,hi,AV.den,Addr.add_mid,Nat.add_assoc]
   ·cases h
  ·cases h
 ·cases h
theorem PV {t:TypeId} {x y:Operand} (ho:o.op=.index t x y) (h:bL E M d (.index t x y)=some (pre,out,kill)) (hp:aS pre):o.wp E.P a w K Q:=by
 obtain⟨hM,hB,hd,hdst⟩:=hC;simp only[bL]at h;split at h
 ·rename_i v hg;split at h
  ·rename_i l kd i n e hx hy hu;have hx':a.eval x=.agg (aB l).toArray:=aH hM hx;have hy':a.eval y=.int kd (Int.ofNat i):=aH hM hy;split at h
   ·rename_i hs;cases hb:iS E.P e<;>rw[hb]at h
    ·cases h
    ·cases h;obtain⟨hi,hv,_⟩:=hp;have hagg:(isAgg e).run E.P w=.ok false w:=jU w hb;have hc:=gR hv;refine aK hd hdst (.im v) ?_ hK;simp[execOp,ho,hx',hy',Instr.index,asIntOf,run_underlying hu,bG hs,hi,part,hagg,AV.den,hc]
   ·cases h
  ·cases h
 split at h
 ·rename_i l kd i hx hy;have hx':a.eval x=.agg (aB l).toArray:=aH hM hx;have hy':a.eval y=.int kd (Int.ofNat i):=aH hM hy;split at h
  ·rename_i n e hu;split at h
   ·rename_i s hs ht;cases hb:Nat.blt i n<;>rw[hb]at h
    ·cases h
    ·simp only[cond_true]at h;split at h
     ·rename_i r hr;cases h;have hi:i<n:=by simpa using hb
      obtain⟨ds,hu2,hd'⟩:=gQ ht;have hagg:(isAgg e).run E.P w=.ok true w:=by
       unfold isAgg;rw[Sem.run_bind,run_underlying hu2 w];cases ds<;>simp_all
      obtain⟨p,r',e1,hp,hr'⟩:=jI hr;have hex:List.take s (List.drop (i*s) (aB l))=aB r:=by
       rw[e1,aL,aL];rw[List.drop_append,aJ,hp];simp only[Nat.sub_self,List.drop_zero];rw[List.drop_of_length_le (by rw[aJ,hp]; omega),List.nil_append,List.take_append_of_le_length (by rw[aJ,hr']; omega),List.take_of_length_le (by rw[aJ,hr']; omega)]
      refine aK hd hdst _ ?_ hK;simp[execOp,ho,hx',hy',Instr.index,asIntOf,run_underlying hu,bG hs,hi,part,hagg,AV.den,hex]
     ·cases h
   ·rename_i hs ht;cases hb:(iS E.P e&&Nat.blt i n)<;>rw[hb]at h
    ·cases h
    ·simp only[cond_true]at h;rw[Bool.and_eq_true]at hb;split at h
     ·rename_i v hv;cases h;have hi:i<n:=by simpa using hb.2
      have hagg:(isAgg e).run E.P w=.ok false w:=jU w hb.1;have hc:=gR hv;refine aK hd hdst _ ?_ hK;simp[execOp,ho,hx',hy',Instr.index,asIntOf,run_underlying hu,bG hs,hi,part,hagg,AV.den,hc]
     ·cases h
   ·cases h
  ·cases h
 ·cases h
theorem CZ {t:TypeId} {x:Operand} {i:Nat} (ho:o.op=.field t x i) (h:bL E M d (.field t x i)=some (pre,out,kill)):o.wp E.P a w K Q:=by
 obtain⟨hM,hB,hd,hdst⟩:=hC;simp only[bL]at h;split at h
 ·rename_i l fs hx hu;have hx':a.eval x=.agg (aB l).toArray:=aH hM hx;split at h
  ·rename_i f hf;split at h
   ·rename_i s hs ht;split at h
    ·rename_i r hr;cases h;obtain⟨ds,hu2,hd'⟩:=gQ ht;have hagg:(isAgg f.type).run E.P w=.ok true w:=by
      unfold isAgg;rw[Sem.run_bind,run_underlying hu2 w];cases ds<;>simp_all
     obtain⟨p,r',e1,hp,hr'⟩:=jI hr;have hex:List.take s (List.drop f.offset (aB l))=aB r:=by
      rw[e1,aL,aL];rw[List.drop_append,aJ,hp];simp only[Nat.sub_self,List.drop_zero];rw[List.drop_of_length_le (by rw[aJ,hp]; omega),List.nil_append,List.take_append_of_le_length (by rw[aJ,hr']; omega),List.take_of_length_le (by rw[aJ,hr']; omega)]
     refine aK hd hdst _ ?_ hK;simp[execOp,ho,hx',Instr.field,asAgg,run_underlying hu,hf,bG hs,part,hagg,AV.den,hex]
    ·cases h
   ·rename_i hs ht;cases hb:iS E.P f.type<;>rw[hb]at h
    ·cases h
    ·simp only[cond_true]at h;split at h
     ·rename_i v hv;cases h;have hagg:(isAgg f.type).run E.P w=.ok false w:=jU w hb;have hc:=gR hv;refine aK hd hdst _ ?_ hK;simp[execOp,ho,hx',Instr.field,asAgg,run_underlying hu,hf,bG hs,part,hagg,AV.den,hc]
     ·cases h
   ·cases h
  ·cases h
 ·cases h
theorem DA {x:Operand} {i:Nat} (ho:o.op=.extract x i) (h:bL E M d (.extract x i)=some (pre,out,kill)):o.wp E.P a w K Q:=by
 obtain⟨hM,hB,hd,hdst⟩:=hC;simp only[bL]at h;split at h
 ·rename_i l hx;split at h
  ·rename_i t ht;cases h;have hx':a.eval x=.tuple (l.map TV.den).toArray:=aH hM hx;refine aK hd hdst _ ?_ hK;simp[execOp,ho,hx',Instr.extract,ht,TV.av_den]
  ·cases h
 ·rename_i k n m post hx;have hx':a.eval x=.tuple (.slice (some ⟨(β k).1,(β k).2.1,none⟩) n m::post.map TV.den).toArray:=aH hM hx;cases i with
  | zero =>
   cases h;refine aK hd hdst _ ?_ hK;simp[execOp,ho,hx',Instr.extract,AV.den]
  | succ i =>
   simp only at h;split at h
   ·rename_i t ht;cases h;refine aK hd hdst _ ?_ hK;simp[execOp,ho,hx',Instr.extract,ht,TV.av_den]
   ·cases h
 ·rename_i k n ante post hx;have hx':a.eval x=.tuple (ante.map TV.den ++ .slice (some ⟨(β k).1,(β k).2.1,none⟩) n (β k).2.2::post.map TV.den).toArray:=aH hM hx;cases hb:Nat.blt i ante.length<;>rw[hb]at h
  ·simp only[cond_false]at h;have hge:ante.length≤i:=by
    rcases Nat.lt_or_ge i ante.length with q|q
    ·have:Nat.blt i ante.length=true:=by simpa using q
     rw[hb]at this; cases this
    ·exact q
   cases hb2:Nat.beq i ante.length<;>rw[hb2]at h
   ·simp only[cond_false]at h;split at h
    ·rename_i t ht;cases h;have hne:i≠ante.length:=fun e=>by rw[e]at hb2; simp at hb2
     refine aK hd hdst _ ?_ hK;have hget:(ante.map TV.den ++ .slice (some ⟨(β k).1,(β k).2.1,none⟩) n (β k).2.2::post.map TV.den)[i]?=some t.den:=by
      rw[List.getElem?_append_right (by rw[List.length_map]; exact hge),List.length_map];obtain⟨m,hm⟩:∃m,i-ante.length=m+1:=⟨i-ante.length-1,by omega⟩
      rw[hm]at ht ⊢;rw[List.getElem?_cons_succ,List.getElem?_map];rw[Nat.add_sub_cancel]at ht;rw[ht]; rfl
     simp only[execOp,ho,hx',Instr.extract];simp only[List.getElem?_toArray,hget];simp[TV.av_den]
    ·cases h
   ·cases h;have he:=Nat.eq_of_beq_eq_true hb2;refine aK hd hdst _ ?_ hK;have hget:(ante.map TV.den ++ .slice (some ⟨(β k).1,(β k).2.1,none⟩) n (β k).2.2::post.map TV.den)[i]?=some (.slice (some ⟨(β k).1,(β k).2.1,none⟩) n (β k).2.2):=by
     rw[List.getElem?_append_right (by rw[List.length_map]; exact hge),List.length_map,he,Nat.sub_self];rfl
    simp only[execOp,ho,hx',Instr.extract];simp only[List.getElem?_toArray,hget];simp[AV.den]
  ·simp only[cond_true]at h;split at h
   ·rename_i t ht;cases h;have hlt:i<ante.length:=by simpa using hb
    refine aK hd hdst _ ?_ hK;have hget:(ante.map TV.den ++ .slice (some ⟨(β k).1,(β k).2.1,none⟩) n (β k).2.2::post.map TV.den)[i]?=some t.den:=by
     rw[List.getElem?_append_left (by rw[List.length_map]; exact hlt),List.getElem?_map,ht]; rfl
    simp only[execOp,ho,hx',Instr.extract];simp only[List.getElem?_toArray,hget];simp[TV.av_den]
   ·cases h
 ·cases h
theorem PU {t:TypeId} {x:Operand} {lo hi mx:Option Operand} (ho:o.op=.slice t x lo hi mx) (h:bL E M d (.slice t x lo hi mx)=some (pre,out,kill)) (hp:aS pre):o.wp E.P a w K Q:=by
 obtain⟨hM,hB,hd,hdst⟩:=hC;cases lo with
 | some y =>
  cases hi with
  | none =>
   cases mx with
   | some _=>simp only[bL]at h; cases h
   | none =>
   simp only[bL]at h;split at h
   ·rename_i r hr;split at h
    ·rename_i v u hx hlo;cases h;have hx':a.eval x=v:=aH hM hx;have hl':a.eval y=u:=aH hM hlo;refine aK hd hdst (.im r) ?_ hK;simp[execOp,ho,hx',hl',hp.1 w,AV.den]
    ·cases h
   split at h
   ·rename_i k q n m kd1 i e hx hlo hu;split at h
    ·rename_i sz hs;cases h;obtain⟨g1,g2,g3,_⟩:=hp;have hx':a.eval x=.slice (some ⟨(β k).1,(β k).2.1+q,none⟩) n m:=aH hM hx;have hl':a.eval y=.int kd1 (Int.ofNat i):=aH hM hlo;have hmi:¬m=i:=by omega
     have g12:i≤m:=Nat.le_of_lt g3;refine aK hd hdst _ ?_ hK;simp[execOp,ho,hx',hl',Instr.sliceAt,Instr.slice,run_underlying hu,Instr.sliceBounds,Instr.sliceBound,asIntOf,bG hs,AV.den,Addr.add_mid,Nat.add_assoc,g1,g2,g12,hmi]
    ·cases h
   ·cases h
  | some y2 =>
  cases mx with
  | some _=>simp only[bL]at h; cases h
  | none =>
  simp only[bL]at h;split at h
  ·rename_i r hr;split at h
   ·rename_i v u u' hx hlo hhi;cases h;have hx':a.eval x=v:=aH hM hx;have hl':a.eval y=u:=aH hM hlo;have hh':a.eval y2=u':=aH hM hhi;refine aK hd hdst (.im r) ?_ hK;simp[execOp,ho,hx',hl',hh',hp.1 w,AV.den]
   ·cases h
  split at h
  ·rename_i k q n m kd1 i kd2 j e hx hlo hhi hu;split at h
   ·rename_i sz hs;cases h;obtain⟨g1,g2,g3,_⟩:=hp;have hx':a.eval x=.slice (some ⟨(β k).1,(β k).2.1+q,none⟩) n m:=aH hM hx;have hl':a.eval y=.int kd1 (Int.ofNat i):=aH hM hlo;have hh':a.eval y2=.int kd2 (Int.ofNat j):=aH hM hhi;have hmi:¬m=i:=by omega
    refine aK hd hdst _ ?_ hK;simp[execOp,ho,hx',hl',hh',Instr.sliceAt,Instr.slice,run_underlying hu,Instr.sliceBounds,Instr.sliceBound,asIntOf,bG hs,AV.den,Addr.add_mid,Nat.add_assoc,g1,g2,hmi]
   ·cases h
  ·cases h
 | none =>
 cases mx with
 | some _=>simp only[bL]at h; cases h
 | none =>
 simp only[bL]at h;split at h
 ·rename_i k j n e hx hu;have hx':a.eval x=.pointer (some ⟨(β k).1,(β k).2.1+j,none⟩):=aH hM hx;split at h
  ·rename_i s hs;cases hi with
   | none =>
    cases h;refine aK hd hdst _ ?_ hK
    by_cases hn:n=0<;>simp[execOp,ho,hx',Instr.sliceAt,Instr.sureAddr,run_underlying hu,Instr.sliceBounds,bG hs,AV.den,Addr.add_mid,hn]
   | some y =>
    simp only at h;split at h
    ·rename_i kd i hy;have hy':a.eval y=.int kd (Int.ofNat i):=aH hM hy;cases hb:Nat.ble i n<;>rw[hb]at h
     ·cases h
     ·cases h;have hi:i≤n:=by simpa using hb
      refine aK hd hdst _ ?_ hK
      by_cases hn:n=0
      ·subst hn;have hi0:i=0:=Nat.le_zero.1 hi;subst hi0;simp[execOp,ho,hx',hy',Instr.sliceAt,Instr.sureAddr,run_underlying hu,Instr.sliceBounds,Instr.sliceBound,asIntOf,bG hs,AV.den,Addr.add_mid,hi]
      ·simp[execOp,ho,hx',hy',Instr.sliceAt,Instr.sureAddr,run_underlying hu,Instr.sliceBounds,Instr.sliceBound,asIntOf,bG hs,AV.den,Addr.add_mid,hn,hi]
    ·cases h
  ·cases h
 ·rename_i k q n m e hx hu;have hx':a.eval x=.slice (some ⟨(β k).1,(β k).2.1+q,none⟩) n m:=aH hM hx;cases hi with
  | none=>cases h
  | some y =>
   simp only at h;split at h
   ·rename_i kd i s hy hs;cases h;have g1:=hp.1;have hy':a.eval y=.int kd (Int.ofNat i):=aH hM hy;refine aK hd hdst _ ?_ hK
    by_cases hn:m=0
    ·subst hn;cases Nat.le_zero.1 g1;simp[execOp,ho,hx',hy',Instr.sliceAt,Instr.slice,run_underlying hu,Instr.sliceBounds,Instr.sliceBound,asIntOf,bG hs,AV.den,Addr.add_mid]
    ·simp[execOp,ho,hx',hy',Instr.sliceAt,Instr.slice,run_underlying hu,Instr.sliceBounds,Instr.sliceBound,asIntOf,bG hs,AV.den,Addr.add_mid,g1,hn]
   ·cases h
 ·rename_i p n m e hx hu;have hx':a.eval x=.slice p n m:=aH hM hx;cases hi with
  | none=>cases h
  | some y =>
   simp only at h;split at h
   ·rename_i kd i s hy hs;cases h;have g1:=hp.1;have hy':a.eval y=.int kd (Int.ofNat i):=aH hM hy;refine aK hd hdst _ ?_ hK;have hadd:p.map (fun x:Addr=>x.add 0)=p:=by
     cases p with
     | none=>rfl
     | some q=>show some (q.add 0)=some q; unfold Addr.add; rw[if_pos rfl]
    by_cases hn:m=0
    ·subst hn;cases Nat.le_zero.1 g1;simp[execOp,ho,hx',hy',Instr.sliceAt,Instr.slice,run_underlying hu,Instr.sliceBounds,Instr.sliceBound,asIntOf,bG hs,AV.den]
    ·simp[execOp,ho,hx',hy',Instr.sliceAt,Instr.slice,run_underlying hu,Instr.sliceBounds,Instr.sliceBound,asIntOf,bG hs,AV.den,g1,hn,hadd]
   ·cases h
 ·cases h
theorem WZ {op:UnOp} {t:TypeId} {x:Operand} (ho:o.op=.unOp op t x) (h:bL E M d (.unOp op t x)=some (pre,out,kill)) (hp:aS pre):o.wp E.P a w K Q:=by
 obtain⟨hM,hB,hd,hdst⟩:=hC;simp only[bL]at h;split at h
 ·rename_i r hr;split at h
  ·rename_i v hx;cases h;have hx':a.eval x=v:=aH hM hx;have h1:=hp.1 w;refine aK hd hdst (.im r) ?_ hK;simp[execOp,ho,hx',h1,AV.den]
  ·cases h
 split at h
 ·rename_i b hb;have hb':a.eval x=.bool b:=aH hM hb;have hrun:(execOp a.eval o).run E.P w=.ok (.value (.bool (!b))) w:=by simp[execOp,ho,hb',Op.unary]
  split at h
  ·rename_i v hv;cases h;exact aK hd hdst (.im v) (by rw[show AV.den β (.im v)=v from rfl,←hp.1]; exact hrun) hK
  ·cases h;exact aK hd hdst (.im (.bool (!b))) hrun hK
 ·cases h
theorem PZ {op:BinOp} {t t2:TypeId} {x y:Operand} (hq:wM E.P E.q) (ho:o.op=.binOp op t x y t2) (h:bL E M d (.binOp op t x y t2)=some (pre,out,kill)) (hp:aS pre):o.wp E.P a w K Q:=by
 obtain⟨hM,hB,hd,hdst⟩:=hC;replace hq:wM E.P E.q:=hq;simp only[bL]at h;split at h
 ·rename_i r hr;split at h
  ·rename_i v u hx hy;cases h;have hx':a.eval x=v:=aH hM hx;have hy':a.eval y=u:=aH hM hy;have h1:=hp.1 w;refine aK hd hdst (.im r) ?_ hK;simp only[execOp,ho,hx',hy',AV.den];rw[Sem.run_bind,h1];rfl
  ·cases h
 split at h
 ·rename_i v u hx hy;have hx':=aH hM hx;have hy':=aH hM hy;unfold Tg at h;split at h
  ·rename_i k p k' q;split at h
   ·rename_i hk;subst hk;have hfin:∀r,aW op k p q=some r→(execOp a.eval o).run E.P w=.ok (.value r) w:=fun r hr=>by
     simp only[AV.den]at hx' hy';cases op<;>simp only[aW]at hr<;>first|(cases hr; done)|skip
     all_goals first
      | (cases hr; simp[execOp,ho,hx',hy',eqGuard,binOp,Op.intArith,Op.intCmp]; done)
      | (by_cases hz:q=0; (rw[if_pos hz]at hr; cases hr); rw[if_neg hz]at hr; cases hr; simp[execOp,ho,hx',hy',eqGuard,binOp,Op.intDiv,hz])
    split at h
    ·rename_i r hr;cases h;exact aK hd hdst (.im r) (hfin r hp.1) hK
    ·split at h
     ·rename_i r hr;cases h;exact aK hd hdst (.im r) (hfin r hr) hK
     ·cases h
   ·cases h
  ·rename_i p q;simp only[AV.den]at hx' hy';split at h
   ·rename_i hu;cases op<;>simp only at h<;>first|(cases h; done)|skip
    all_goals cases h
    ·refine aK hd hdst (.im (.bool (p==q))) ?_ hK;simp[execOp,ho,hx',hy',eqGuard,binOp,run_equal_bool w t p q hu,AV.den]
    ·refine aK hd hdst (.im (.bool (p != q))) ?_ hK;simp[execOp,ho,hx',hy',eqGuard,binOp,run_equal_bool w t p q hu,AV.den];cases p<;>cases q<;>rfl
   ·cases h
  ·rename_i l m;simp only[AV.den]at hx' hy';cases hN:(E.q.fit t l&&E.q.fit t m)<;>rw[hN]at h
   ·cases h
   ·simp only[cond_true]at h;rw[Bool.and_eq_true]at hN;cases hh:E.hint d<;>rw[hh]at h<;>simp only[cond_true,cond_false]at h
    ·split at h
     ·rename_i n hn;cases hb:(Nat.beq (eS l) n&&Nat.beq (eS m) n)<;>rw[hb]at h
      ·cases h
      ·simp only[cond_true]at h;rw[Bool.and_eq_true]at hb;obtain⟨hg,he⟩:=hq.2 t n hn;have he':=he l m w (Nat.eq_of_beq_eq_true hb.1) (Nat.eq_of_beq_eq_true hb.2) hN.1 hN.2;cases op<;>simp only at h<;>first|(cases h; done)|skip
       all_goals cases h
       all_goals refine aK hd hdst _ ?_ hK
       all_goals simp only[execOp,ho,hx',hy',Sem.run_bind,run_eqGuard_agg w _ t x y _ _ hg,run_eql_struct,run_neq_struct,Result.andThen_ok,Sem.run_pure,AV.den]
       ·rw[he' hp.1]; rfl
       ·rw[he' hp.1]; rfl
     ·cases h
    ·split at h
     ·rename_i n hn;cases hb:(Nat.beq (eS l) n&&Nat.beq (eS m) n)<;>rw[hb]at h
      ·cases h
      ·simp only[cond_true]at h;rw[Bool.and_eq_true]at hb;obtain⟨hg,he⟩:=hq.1 t n hn;have he':=he l w (Nat.eq_of_beq_eq_true hb.1) hN.1;cases op<;>simp only at h<;>first|(cases h; done)|skip
       all_goals cases h
       all_goals refine aK hd hdst _ ?_ hK
       all_goals have hp1:=hp.1
       all_goals simp only[execOp,ho,hx',hy',←hp1,Sem.run_bind,run_eqGuard_agg w _ t x y _ _ hg,run_eql_struct,run_neq_struct,Result.andThen_ok,Sem.run_pure,AV.den]
       ·rw[he']; rfl
       ·rw[he']; rfl
     ·cases h
  ·cases h
 ·cases h
theorem XD {c:Call} (hT:∀d,KL E.P (E.T d) w) (hX:uF E.P E.q.x base w) (ho:o.op=.call c) (h:bL E M d (.call c)=some (pre,out,kill)) (hp:aS pre):o.wp E.P a w K Q:=by
 obtain⟨hM,hB,hd,hdst⟩:=hC;simp only[bL]at h;split at h
 ·rename_i hc;split at h
  ·rename_i x t hx ht;split at h
   ·rename_i k j n m e hx1 hu;cases h;have hx':a.eval x=.slice (some ⟨(β k).1,(β k).2.1+j,none⟩) n m:=aH hM hx1;have e1:c.args = #[x]:=by rw[←Array.toArray_toList (xs:=c.args),hx]
    have e2:c.argTypes = #[t]:=by rw[←Array.toArray_toList (xs:=c.argTypes),ht]
    refine aK hd hdst _ ?_ hK;simp[execOp,ho,resolve,hc,e1,e2,invoke,builtin,hx',Builtin.len_,run_underlying hu,AV.den]
   ·rename_i p n m e hx1 hu;cases h;have hx':a.eval x=.slice p n m:=aH hM hx1;have e1:c.args = #[x]:=by rw[←Array.toArray_toList (xs:=c.args),hx]
    have e2:c.argTypes = #[t]:=by rw[←Array.toArray_toList (xs:=c.argTypes),ht]
    refine aK hd hdst _ ?_ hK;simp[execOp,ho,resolve,hc,e1,e2,invoke,builtin,hx',Builtin.len_,run_underlying hu,AV.den]
   ·rename_i k n e hx1 hu;cases h;have hx':a.eval x=.slice (some ⟨(β k).1,(β k).2.1,none⟩) n (β k).2.2:=aH hM hx1;have e1:c.args = #[x]:=by rw[←Array.toArray_toList (xs:=c.args),hx]
    have e2:c.argTypes = #[t]:=by rw[←Array.toArray_toList (xs:=c.argTypes),ht]
    refine aK hd hdst _ ?_ hK;simp[execOp,ho,resolve,hc,e1,e2,invoke,builtin,hx',Builtin.len_,run_underlying hu,AV.den]
   ·cases h
  ·cases h
 ·rename_i hc;split at h
  ·rename_i x y t t' hx ht;cases htt:Nat.beq t t'<;>rw[htt]at h
   ·cases h
   ·simp only[cond_true]at h;cases Nat.eq_of_beq_eq_true htt;split at h
    ·rename_i u v e sz by8 hx1 hy1 hT1;split at h
     ·rename_i N' L' hmk;split at h
      ·rename_i m news p1 n l kl p2 hS hD;cases h;rw[dK,dK]at hp;obtain⟨hp1,hp2,hone',h0,hby,hmx,hN',hL'⟩:=hp;have hL':=hL'.1;subst hN';have hx':=aH hM hx1;have hy':=aH hM hy1;obtain⟨bs,os',cs',hden,hrng,hsz⟩:=VU hM hX hS hp1;rw[hden]at hy';have e1:c.args = #[x,y]:=by rw[←Array.toArray_toList (xs:=c.args),hx]
       have e2:c.argTypes = #[t,t]:=by rw[←Array.toArray_toList (xs:=c.argTypes),ht]
       have hnews:∀j v,(aB news)[j]?=some v→w.cell? ((⟨bs,os',none⟩:Addr).add j)=some v:=fun j v hj=>by
        rw[Addr.add_mid]; exact hrng j v hj
       have hcase:=VT hM hD hp2;have hu:(a.eval x=.slice none 0 0∧n=0∧aB l=[])∨∃b cap,a.eval x=.slice (some ⟨b,0,none⟩) n cap∧AppAt w b e sz n cap∧w.rangeAt b 0 (aB l)∧(aB l).length=n*sz:=by
        rcases hcase with⟨⟨h,h'⟩,_⟩|⟨k,l0,_,_,_,_,h1,h2,h3,h4⟩
        ·exact Or.inl ⟨hx'.trans h,h'⟩
        ·exact Or.inr ⟨_,_,hx'.trans h1,h2,h3,h4⟩
       obtain⟨b,cap,w',hr,a1,a2,a3,a4,a5,a6,a7⟩:=oL (P:=E.P) w (ty:=o.type) hT1 hu (by rw[aJ]; exact hsz) hnews hone' h0 hby (by simp only[maxLen]; omega) (c:=cs');have hrun:(execOp a.eval o).run E.P w=.ok (.value (.slice (some ⟨b,0,none⟩) (n+m) cap)) w':=by
        unfold execOp;simp only[ho,resolve,hc,e1,e2,invoke,builtin,Sem.run_bind,Sem.run_pure,Result.andThen_ok,List.map_toArray,List.map_cons,List.map_nil,hy',hr]
       refine fP hrun ?_;rw[hdst];refine hK _ _ _ (AD (L:=L') (row:=(a.eval x).ownBlock) hd hB a1 a2 (by rw[hL',aL]; exact a3) a4 a5 a6 ?_)
       rcases hcase with⟨⟨h1,_⟩,h2⟩|⟨k,l0,hk,hm,rfl,hb,h1,_⟩
       ·refine Or.inl ⟨h2,by rw[hx',h1]; rfl,?_⟩
        rcases a7 with h|⟨c0,h⟩
        ·exact h
        ·rw[hx',h1]at h; cases h
       ·refine Or.inr ⟨k,_,hk,by rw[hx',h1]; rfl,hb,hm,?_⟩
        rcases a7 with h|⟨c0,h⟩
        ·exact Or.inl h
        ·rw[hx',h1]at h; cases h; exact Or.inr rfl
      ·cases h
     ·split at h
      ·rename_i m news n l kl hS hD;cases hb:(news.all Mm&&(Nat.blt 0 m&&(Nat.ble ((n+m)*by8) 140737488355328&&Nat.ble (n+m) 4611686018427387904)))<;>rw[hb]at h
       ·cases h
       ·cases h;simp only[Bool.and_eq_true,Nat.blt_eq,Nat.ble_eq]at hb;obtain⟨hone,h0,hby,hmx⟩:=hb;have hx':=aH hM hx1;have hy':=aH hM hy1;obtain⟨bs,os',cs',hden,hrng,hsz⟩:=CH hM hS;rw[hden]at hy';have e1:c.args = #[x,y]:=by rw[←Array.toArray_toList (xs:=c.args),hx]
        have e2:c.argTypes = #[t,t]:=by rw[←Array.toArray_toList (xs:=c.argTypes),ht]
        have hone':∀v∈aB news,v.oneCell'=true:=vV hone
        have hnews:∀j v,(aB news)[j]?=some v→w.cell? ((⟨bs,os',none⟩:Addr).add j)=some v:=fun j v hj=>by
         rw[Addr.add_mid]; exact hrng j v hj
        have hcase:((a.eval x=.slice none 0 0∧n=0∧aB l=[])∧kill=none)∨∃k l0,kill=some k∧u=.so k n∧Fact.row k true l0∈M∧l0=l∧base≤(β k).1∧a.eval x=.slice (some ⟨(β k).1,0,none⟩) n (β k).2.2∧AppAt w (β k).1 e sz n (β k).2.2∧w.rangeAt (β k).1 0 (aB l)∧(aB l).length=n*sz:=by
         unfold Yu at hD;split at hD
         ·cases hD;exact Or.inl ⟨⟨hx',rfl,rfl⟩,rfl⟩
         ·rename_i k n';split at hD
          ·rename_i l' e' sz' n2 hr ha;cases hq:(Nat.beq e e'&&(Nat.beq sz sz'&&(Nat.beq n' n2&&Nat.beq (eS l') (n'*sz))))<;>rw[hq]at hD
           ·cases hD
           ·cases hD;simp only[Bool.and_eq_true]at hq;obtain⟨q1,q2,q3,q4⟩:=hq;cases Nat.eq_of_beq_eq_true q1;cases Nat.eq_of_beq_eq_true q2;cases Nat.eq_of_beq_eq_true q3;obtain⟨g1,g2,g3,_⟩:=hM _ (aX hr);obtain⟨g4,g5,g6⟩:=g3 rfl;have ga:=hM _ (fW ha);simp only[Fact.ok]at ga;refine Or.inr ⟨k,l,rfl,rfl,aX hr,rfl,g4,?_,ga,by rw[←g5]; exact g2,by rw[aJ]; exact Nat.eq_of_beq_eq_true q4⟩;rw[hx'];simp only[AV.den,g5]
          ·cases hD
         ·cases hD
        have hu:(a.eval x=.slice none 0 0∧n=0∧aB l=[])∨∃b cap,a.eval x=.slice (some ⟨b,0,none⟩) n cap∧AppAt w b e sz n cap∧w.rangeAt b 0 (aB l)∧(aB l).length=n*sz:=by
         rcases hcase with⟨h,_⟩|⟨k,l0,_,_,_,_,_,h1,h2,h3,h4⟩
         ·exact Or.inl h
         ·exact Or.inr ⟨_,_,h1,h2,h3,h4⟩
        obtain⟨b,cap,w',hr,a1,a2,a3,a4,a5,a6,a7⟩:=oL (P:=E.P) w (ty:=o.type) hT1 hu (by rw[aJ]; exact hsz) hnews hone' h0 hby (by simp only[maxLen]; omega) (c:=cs');have hrun:(execOp a.eval o).run E.P w=.ok (.value (.slice (some ⟨b,0,none⟩) (n+m) cap)) w':=by
         unfold execOp;simp only[ho,resolve,hc,e1,e2,invoke,builtin,Sem.run_bind,Sem.run_pure,Result.andThen_ok,List.map_toArray,List.map_cons,List.map_nil,hy',hr]
        refine fP hrun ?_;rw[hdst];refine hK _ _ _ (AD (L:=l++news) (row:=(a.eval x).ownBlock) hd hB a1 a2 (by rw[aL]; exact a3) a4 a5 a6 ?_)
        rcases hcase with⟨⟨h1,_⟩,h2⟩|⟨k,l0,hk,_,hm,rfl,hb,h1,_⟩
        ·refine Or.inl ⟨h2,by rw[h1]; rfl,?_⟩
         rcases a7 with h|⟨c0,h⟩
         ·exact h
         ·rw[h1]at h; cases h
        ·refine Or.inr ⟨k,_,hk,by rw[h1]; rfl,hb,hm,?_⟩
         rcases a7 with h|⟨c0,h⟩
         ·exact Or.inl h
         ·rw[h1]at h; cases h; exact Or.inr rfl
      ·cases h
    ·cases h
  ·cases h
 ·rename_i hc;split at h
  ·rename_i x y hx;split at h
   ·rename_i k p k' q hx1 hy1;have hx':a.eval x=.int k p:=aH hM hx1;have hy':a.eval y=.int k' q:=aH hM hy1;have e1:c.args = #[x,y]:=by rw[←Array.toArray_toList (xs:=c.args),hx]
    have hrun:(execOp a.eval o).run E.P w=.ok (.value (.int k (if q>p then q else p))) w:=by
     simp[execOp,ho,resolve,hc,e1,invoke,builtin,hx',hy',Builtin.max_,Builtin.max2]
    split at h
    ·rename_i v hv;cases h;exact aK hd hdst (.im v) (by rw[show AV.den β (.im v)=v from rfl,←hp.1]; exact hrun) hK
    ·cases h;exact aK hd hdst (.im (.int k (if q>p then q else p))) hrun hK
   ·cases h
  ·cases h
 ·rename_i hc;split at h
  ·rename_i x y z hx;split at h
   ·rename_i k p k' q k'' r v hx1 hy1 hz1 hv;cases h;have hx':a.eval x=.int k p:=aH hM hx1;have hy':a.eval y=.int k' q:=aH hM hy1;have hz':a.eval z=.int k'' r:=aH hM hz1;have e1:c.args = #[x,y,z]:=by rw[←Array.toArray_toList (xs:=c.args),hx]
    have hrun:(execOp a.eval o).run E.P w=.ok (.value (.int k (if r<(if q<p then q else p)then r else (if q<p then q else p)))) w:=by
     simp[execOp,ho,resolve,hc,e1,invoke,builtin,hx',hy',hz',Builtin.min_,Builtin.min2]
    exact aK hd hdst (.im v) (by rw[show AV.den β (.im v)=v from rfl,←hp.1]; exact hrun) hK
   ·cases h
  ·rename_i x y hx;split at h
   ·rename_i k p k' q v hx1 hy1 hv;cases h;have hx':a.eval x=.int k p:=aH hM hx1;have hy':a.eval y=.int k' q:=aH hM hy1;have e1:c.args = #[x,y]:=by rw[←Array.toArray_toList (xs:=c.args),hx]
    have hrun:(execOp a.eval o).run E.P w=.ok (.value (.int k (if q<p then q else p))) w:=by
     simp[execOp,ho,resolve,hc,e1,invoke,builtin,hx',hy',Builtin.min_,Builtin.min2]
    exact aK hd hdst (.im v) (by rw[show AV.den β (.im v)=v from rfl,←hp.1]; exact hrun) hK
   ·cases h
  ·cases h
 ·rename_i hc;split at h
  ·rename_i r x y hr hx;split at h
   ·rename_i v u hx1 hy1;cases h;have hx':a.eval x=v:=aH hM hx1;have hy':a.eval y=u:=aH hM hy1;have e1:c.args = #[x,y]:=by rw[←Array.toArray_toList (xs:=c.args),hx]
    have hp1:∀ts t,(Builtin.complex_ ts t #[v,u]).run E.P w=.ok r w:=fun _ _=>hp.1 w
    refine aK hd hdst (.im r) ?_ hK;simp[execOp,ho,resolve,hc,e1,invoke,builtin,hx',hy',hp1,AV.den]
   ·cases h
  ·cases h
 ·rename_i hc;split at h
  ·rename_i r x hr hx;split at h
   ·rename_i v hx1;cases h;have hx':a.eval x=v:=aH hM hx1;have e1:c.args = #[x]:=by rw[←Array.toArray_toList (xs:=c.args),hx]
    have hp1:∀ts t,(Builtin.real_ ts t #[v]).run E.P w=.ok r w:=fun _ _=>hp.1 w
    refine aK hd hdst (.im r) ?_ hK;simp[execOp,ho,resolve,hc,e1,invoke,builtin,hx',hp1,AV.den]
   ·cases h
  ·cases h
 ·rename_i hc;split at h
  ·rename_i r x hr hx;split at h
   ·rename_i v hx1;cases h;have hx':a.eval x=v:=aH hM hx1;have e1:c.args = #[x]:=by rw[←Array.toArray_toList (xs:=c.args),hx]
    have hp1:∀ts t,(Builtin.imag_ ts t #[v]).run E.P w=.ok r w:=fun _ _=>hp.1 w
    refine aK hd hdst (.im r) ?_ hK;simp[execOp,ho,resolve,hc,e1,invoke,builtin,hx',hp1,AV.den]
   ·cases h
  ·cases h
 ·rename_i f hc;split at h
  ·rename_i id first captured hf;cases hb:Nat.beq first.size 0<;>rw[hb]at h
   ·cases h
   ·simp only[cond_true]at h;have z1:first = #[]:=Array.size_eq_zero_iff.1 (Nat.eq_of_beq_eq_true hb);subst z1;split at h
    ·rename_i l hl;have hf':a.eval f=.func (.func id) #[] captured:=aH hM hf;have hargs:=pF hM hl;have ea:c.args.map a.eval=(l.map (AV.den β)).toArray:=by rw[←Array.toArray_toList (xs:=c.args.map a.eval),Array.toList_map,hargs]
     have hrun:(∀args w,(callFunc id args).run E.P w=.ok (.enter id args) w)→(execOp a.eval o).run E.P w=.ok (.enter id (l.map (AV.den β)++captured.toList).toArray) w:=fun h1=>by
      have e3:(l.map (AV.den β)).toArray++captured=(l.map (AV.den β)++captured.toList).toArray:=by simp
      simp[execOp,ho,resolve,hc,Deferred.ofValue,hf',invoke,ea,h1]
     split at h
     ·rename_i k hky;split at h
      ·rename_i row b hrow hatm;split at h
       ·rename_i p1 cbs p2 cps hcb hcap;split at h
        ·rename_i pre' r row' hr;cases hb : !(Nat.beq k d)<;>rw[hb]at h
         ·cases h
         ·cases h;rw[dK,dK]at hp;have hkd:k≠d:=fun e=>by rw[e]at hb; simp at hb
          obtain⟨r1,r2,r3,r4⟩:=hM _ (aX hrow);obtain⟨r5,r6,r7⟩:=r3 rfl;have hat:=hM _ (fS hatm);simp only[Fact.ok]at hat;obtain⟨e1,e2⟩:=hat;subst e1;have hargs6:=CBs.app (wG hM ⟨rfl,e2⟩ hcb hp.1) (mS (w:=w) hcap hp.2.1);obtain⟨h1,h2⟩:=hX.2.2.2.2.2 _ _ _ _ _ _ _ hr hp.2.2;rw[r6]at r2;have hcall:=h2 _ r1 r2 r7 hargs6;unfold Oper.wp;rw[hrun h1];refine Calls.mono hcall ?_
          rintro e w' ⟨rfl,hwr,hrg⟩
          show K _ _;rw[hdst,←RV.av_den β r];refine hK β _ _ ⟨iF _ _ _,cJ _ _ _,fun s hs=>iE _ _ _ _ hs,fun _ _=>rfl,hwr.below.size,fun p hp hne=>hwr.mem p hp (hne k rfl),hwr.shape,fun w0 h0=>h0.trans (hwr.below.mono r5),fun φ hφ => ?_,fun k' l1 hk => ?_,fun k1 k2 l1 l2 hk hk' => ?_,fun k' hk => ?_,fun k' l1 hk => ?_⟩
          ·simp only[List.mem_cons,List.not_mem_nil,or_false]at hφ
           rcases hφ with rfl|rfl
           ·show (a.put (some d) _).tmps[d]?=_;rw[dD _ _ _ hd]
           ·exact⟨Nat.lt_of_lt_of_le r1 hwr.below.size,by rw[r6]; exact hrg,fun _=>⟨r5,r6,hwr.free⟩,fun h=>by cases h⟩
          ·simp only[List.mem_cons,List.not_mem_nil,or_false,reduceCtorEq,false_or]at hk;cases hk;exact Or.inr (Or.inl ⟨fun e=>hkd (by injection e with e; exact e.symm),row,aX hrow⟩)
          ·simp only[List.mem_cons,List.not_mem_nil,or_false,reduceCtorEq,false_or]at hk hk';cases hk; cases hk'; rfl
          ·cases hk;exact⟨row,aX hrow⟩
          ·simp only[List.mem_cons,List.not_mem_nil,or_false,reduceCtorEq,false_or]at hk;cases hk
        ·cases h
       ·cases h
      ·cases h
     split at h
     ·rename_i cs hcs;have hcas:=nV hM hcs;have hcap:∀(cs:List CA) (vs:List Value) (us:List Value),cH w cs vs→cH w (cs++us.map fun v=>.v (.im v)) (vs++us):=fun cs=>by
       induction cs with
       | nil =>
        intro vs us h;cases vs with
        | cons _ _=>exact h.elim
        | nil =>
         induction us with
         | nil=>trivial
         | cons u us ih=>exact⟨rfl,ih⟩
       | cons c cs ih =>
        intro vs us h;cases vs with
        | nil=>cases c<;>exact h.elim
        | cons v vs=>cases c<;>exact⟨h.1,ih vs us h.2⟩
      have hcas':=hcap cs _ captured.toList hcas;split at h
      ·rename_i pre' r hr;cases h;obtain⟨h1,h2⟩:=hT _ _ _ _ _ hr hp;have hcall:=h2 _ hcas';unfold Oper.wp;rw[hrun h1];refine Calls.mono hcall ?_
       rintro e w' ⟨rfl,hbl⟩
       show K _ _;rw[hdst,←RV.av_den β r];exact hK _ _ _ (pY r.av hd hB hbl)
      ·split at h
       ·rename_i pre' r hr;cases h;obtain⟨h1,h2⟩:=hX.2.1 _ _ _ _ hr hp;have hcall:=h2 _ hcas';unfold Oper.wp;rw[hrun h1];refine Calls.mono hcall ?_
        rintro e w' ⟨b,rfl,hbl,hb1,hb2,hb3,hb4⟩
        show K _ _;rw[hdst];exact hK _ _ _ (EB r b hd hB hbl hb1 hb2 hb3 hb4)
       ·split at h
        ·rename_i pre' r hr;cases h;obtain⟨h1,h2⟩:=hX.2.2.1 _ _ _ _ hr hp;have hcall:=h2 _ hcas';unfold Oper.wp;rw[hrun h1];refine Calls.mono hcall ?_
         rintro e w' ⟨b,cap,rfl,hbl,hb1,hb2,hb3,hb4,hb5⟩
         show K _ _;rw[hdst];exact hK _ _ _ (AC r b cap hd hB hbl hb1 hb2 hb3 hb4 hb5)
        ·split at h
         ·rename_i pre' j l' hr;have hw4:∀(k n m:Nat) (l0:List At) (v:AV),l[j]?=some v→v.den β=.slice (some ⟨(β k).1,(β k).2.1,none⟩) n m→(v=.so k n∨v=.sl k 0 n m)→dI M k=some (true,l0)→k≠d→aS pre' →
            (∀β' a' w',PostB base β β' a w (some d) M [.slot d v,.row k true l'] (some k) a' w'→K a' w')→o.wp E.P a w K Q:=by
           intro k n m l0 v hv hden hvv hrow hkd hp' hK';obtain⟨h1,h2⟩:=hX.2.2.2.1 _ _ _ _ _ hr hp';obtain⟨r1,r2,r3,r4⟩:=hM _ (aX hrow);obtain⟨r5,r6,r7⟩:=r3 rfl;have hargj:(l.map (AV.den β)++captured.toList)[j]?=some (.slice (some ⟨(β k).1,(β k).2.1,none⟩) n m):=by
            have hlt:j<(l.map (AV.den β)).length:=by rw[List.length_map]; exact (List.getElem?_eq_some_iff.1 hv).1
            rw[List.getElem?_append_left hlt,List.getElem?_map,hv,←hden]; rfl
           have hcall:=h2 _ hcas' _ _ _ _ hargj r7;unfold Oper.wp;rw[hrun h1];refine Calls.mono hcall ?_
           rintro e w' ⟨rfl,hwr,hrg⟩
           show K _ _;rw[hdst];refine hK' β _ _ ⟨iF _ _ _,cJ _ _ _,fun s hs=>iE _ _ _ _ hs,fun _ _=>rfl,hwr.size,fun p hp hne => ?_,hwr.shape,fun w0 h0 => ?_,fun φ hφ => ?_,fun k' l1 hk => ?_,fun k1 k2 l1 l2 hk hk' => ?_,fun k' hk => ?_,fun k' l1 hk=>by simp at hk⟩
           ·have:=hwr.block p.block hp (hne k rfl);exact⟨World.cell?_of_block this,World.frozen?_of_block this⟩
           ·exact h0.trans ⟨hwr.os,hwr.tape,hwr.output,hwr.size,fun q hq=>hwr.block q (by omega) (by omega)⟩
           ·simp only[List.mem_cons,List.not_mem_nil,or_false]at hφ
            rcases hφ with rfl|rfl
            ·show (a.put (some d) _).tmps[d]?=_;rw[dD _ _ _ hd,hden]
            ·exact⟨Nat.lt_of_lt_of_le r1 hwr.size,hrg,fun _=>⟨r5,r6,fun q=>by rw[hwr.frozen]; exact r7 q⟩,fun h=>by cases h⟩
           ·simp only[List.mem_cons,List.not_mem_nil,or_false,reduceCtorEq,false_or]at hk;cases hk;exact Or.inr (Or.inl ⟨fun e=>hkd (by injection e with e; exact e.symm),l0,aX hrow⟩)
           ·simp only[List.mem_cons,List.not_mem_nil,or_false,reduceCtorEq,false_or]at hk hk';cases hk; cases hk'; rfl
           ·cases hk;exact⟨l0,aX hrow⟩
          unfold Xt at h;split at h
          ·rename_i k n hv;split at h
           ·rename_i l0 hrow;cases hb : !(Nat.beq k d)<;>rw[hb]at h
            ·cases h
            ·cases h;have hkd:k≠d:=fun e=>by rw[e]at hb; simp at hb
             exact hw4 k n (β k).2.2 l0 _ hv rfl (Or.inl rfl) hrow hkd hp hK
           ·cases h
          ·rename_i k n m hv;split at h
           ·rename_i l0 hrow;cases hb : !(Nat.beq k d)<;>rw[hb]at h
            ·cases h
            ·cases h;have hkd:k≠d:=fun e=>by rw[e]at hb; simp at hb
             exact hw4 k n m l0 _ hv rfl (Or.inr rfl) hrow hkd hp hK
           ·cases h
          ·cases h
         ·split at h
          ·rename_i pre' j r l' hr;unfold Xs at h;split at h
           ·rename_i k i hv;split at h
            ·rename_i l0 hrow;cases hb : !(Nat.beq k d)<;>rw[hb]at h
             ·cases h
             ·cases h;have hkd:k≠d:=fun e=>by rw[e]at hb; simp at hb
              obtain⟨h1,h2⟩:=hX.2.2.2.2.1 _ _ _ _ _ _ hr hp;obtain⟨r1,r2,r3,r4⟩:=hM _ (aX hrow);obtain⟨r5,r6,r7⟩:=r3 rfl;have hargj:(l.map (AV.den β)++captured.toList)[j]?=some (.pointer (some ⟨(β k).1,i,none⟩)):=by
               have hlt:j<(l.map (AV.den β)).length:=by rw[List.length_map]; exact (List.getElem?_eq_some_iff.1 hv).1
               rw[List.getElem?_append_left hlt,List.getElem?_map,hv];simp[AV.den,r6]
              have hcall:=h2 _ hcas' _ _ hargj r7 r5;unfold Oper.wp;rw[hrun h1];refine Calls.mono hcall ?_
              rintro e w' ⟨rfl,hwr,hrg⟩
              show K _ _;rw[hdst,←RV.av_den β r];refine hK β _ _ ⟨iF _ _ _,cJ _ _ _,fun s hs=>iE _ _ _ _ hs,fun _ _=>rfl,hwr.below.size,fun p hp hne=>hwr.mem p hp (hne k rfl),hwr.shape,fun w0 h0=>h0.trans (hwr.below.mono r5),fun φ hφ => ?_,fun k' l1 hk => ?_,fun k1 k2 l1 l2 hk hk' => ?_,fun k' hk => ?_,fun k' l1 hk=>by simp at hk⟩
              ·simp only[List.mem_cons,List.not_mem_nil,or_false]at hφ
               rcases hφ with rfl|rfl
               ·show (a.put (some d) _).tmps[d]?=_;rw[dD _ _ _ hd]
               ·exact⟨Nat.lt_of_lt_of_le r1 hwr.below.size,by rw[r6]; exact hrg,fun _=>⟨r5,r6,hwr.free⟩,fun h=>by cases h⟩
              ·simp only[List.mem_cons,List.not_mem_nil,or_false,reduceCtorEq,false_or]at hk;cases hk;exact Or.inr (Or.inl ⟨fun e=>hkd (by injection e with e; exact e.symm),l0,aX hrow⟩)
              ·simp only[List.mem_cons,List.not_mem_nil,or_false,reduceCtorEq,false_or]at hk hk';cases hk; cases hk'; rfl
              ·cases hk;exact⟨l0,aX hrow⟩
            ·cases h
           ·cases h
          ·cases h
     ·cases h
    ·cases h
  ·cases h
 ·rename_i x name hc;split at h
  ·rename_i t l0 hx;split at h
   ·rename_i id hid;split at h
    ·rename_i l hl;split at h
     ·rename_i cs hcs;split at h
      ·rename_i pre' r hr;cases h;obtain⟨h1,h2⟩:=hT _ _ _ _ _ hr hp;have hx':a.eval x=.iface t (.agg (aB l0).toArray):=aH hM hx;have hargs:=pF hM hl;have hcas:=nV hM hcs;have hcall:=h2 (.agg (aB l0).toArray::l.map (AV.den β)) ⟨rfl,hcas⟩;have ea:c.args.map a.eval=(l.map (AV.den β)).toArray:=by rw[←Array.toArray_toList (xs:=c.args.map a.eval),Array.toList_map,hargs]
       unfold Oper.wp;have hen:∀xs,(callFunc id xs).run E.P w=.ok (.enter id xs) w:=fun xs=>h1 xs w
       have hmt:=DE w hid (.agg (aB l0).toArray) (l.map (AV.den β)).toArray hen;have hrun:(execOp a.eval o).run E.P w=.ok (.enter id (#[.agg (aB l0).toArray]++(l.map (AV.den β)).toArray)) w:=by
        have hex:(#[Value.iface t (.agg (aB l0).toArray)]++(l.map (AV.den β)).toArray).extract 1 (#[Value.iface t (.agg (aB l0).toArray)]++(l.map (AV.den β)).toArray).size=(l.map (AV.den β)).toArray:=by simp[List.take_of_length_le]
        have hg0:(#[Value.iface t (.agg (aB l0).toArray)]++(l.map (AV.den β)).toArray)[0]?=some (Value.iface t (.agg (aB l0).toArray)):=by simp
        simp only[execOp,ho,resolve,hc,ea,hx',Sem.run_bind,Sem.run_pure,Result.andThen_ok,invoke,hg0,hex];exact hmt
       rw[hrun];have e2:(#[Value.agg (aB l0).toArray]++(l.map (AV.den β)).toArray)=(Value.agg (aB l0).toArray::l.map (AV.den β)).toArray:=by simp
       rw[e2];refine Calls.mono hcall ?_
       rintro e w' ⟨rfl,hbl⟩
       show K _ _;rw[hdst,←RV.av_den β r];exact hK _ _ _ (pY r.av hd hB hbl)
      ·cases h
     ·cases h
    ·cases h
   ·cases h
  ·cases h
 ·cases h
end
section
variable {E:Env} {base:Nat} {β:Nat→Bk} {a:Act} {w:World} {M:List Fact} {d:Nat} {o:Oper} {pre:List Prop} {out:List Fact} {kill:Option Nat} {K:Act→World→Prop} {Q:Exit→Act→World→Prop}
theorem CY (hT:∀d,KL E.P (E.T d) w) (hX:uF E.P E.q.x base w) (hq:wM E.P E.q) (hM:∀φ∈M,φ.ok base β a w) (hB:base≤w.heap.size) (hd:d<a.tmps.size) (hdst:o.dst=some d)
  (hK:∀β' a' w',PostB base β β' a w (some d) M out kill a' w'→K a' w') (h:bL E M d o.op=some (pre,out,kill)) (hp:aS pre):o.wp E.P a w K Q:=by
 generalize ho:o.op=op at h;cases op with
 | move x=>exact XB ⟨hM,hB,hd,hdst⟩ hK ho h
 | assign x=>exact LB ⟨hM,hB,hd,hdst⟩ hK ho h
 | pick c x y=>exact XA ⟨hM,hB,hd,hdst⟩ hK ho h
 | alloc t=>exact QA ⟨hM,hB,hd,hdst⟩ hK ho h
 | box t x=>exact Fr ⟨hM,hB,hd,hdst⟩ hK ho h
 | build t ps=>exact PY ⟨hM,hB,hd,hdst⟩ hK ho h hp
 | buildSlice t n ps=>exact uI ⟨hM,hB,hd,hdst⟩ hK ho h
 | makeInterface t x=>exact PW ⟨hM,hB,hd,hdst⟩ hK ho h
 | nilCheck x=>exact zA ⟨hM,hB,hd,hdst⟩ hK ho h
 | load t x=>exact XC ⟨hM,hB,hd,hdst⟩ hK hX ho h hp
 | convert src dst x=>exact DB ⟨hM,hB,hd,hdst⟩ hK hX ho h hp
 | makeFunc fn f c=>exact zB ⟨hM,hB,hd,hdst⟩ hK ho h
 | makeSlice t x y=>exact wT ⟨hM,hB,hd,hdst⟩ hK ho h hp
 | fieldAddr s x i=>exact PX ⟨hM,hB,hd,hdst⟩ hK ho h
 | indexAddr t x y=>exact wU ⟨hM,hB,hd,hdst⟩ hK ho h hp
 | index t x y=>exact PV ⟨hM,hB,hd,hdst⟩ hK ho h hp
 | extract x i=>exact DA ⟨hM,hB,hd,hdst⟩ hK ho h
 | field t x i=>exact CZ ⟨hM,hB,hd,hdst⟩ hK ho h
 | slice t x lo hi mx=>exact PU ⟨hM,hB,hd,hdst⟩ hK ho h hp
 | binOp op t x y t2=>exact PZ ⟨hM,hB,hd,hdst⟩ hK hq ho h hp
 | unOp op t x=>exact WZ ⟨hM,hB,hd,hdst⟩ hK ho h hp
 | call c=>exact XD ⟨hM,hB,hd,hdst⟩ hK hT hX ho h hp
 | _=>simp only[bL]at h; cases h
theorem BJ:∀{p:List At},p.all Mm=true→∀v∈aB p,v.oneCell'=true
 | [],_,v,hv=>by cases hv
 | x::r,h,v,hv=>by
  rw[List.all_cons,Bool.and_eq_true]at h
  rcases List.mem_append.1 hv with hv|hv
  ·cases x with
   | f x=>simp only[At.cells,w4,List.mem_cons,List.not_mem_nil,or_false]at hv; rcases hv with rfl|rfl|rfl|rfl<;>rfl
   | q x=>simp only[At.cells,w4,List.mem_cons,List.not_mem_nil,or_false]at hv; rcases hv with rfl|rfl|rfl|rfl<;>rfl
   | c u=>cases List.mem_singleton.1 hv; exact zG h.1
  ·exact BJ h.2 v hv
theorem cZ (b:Nat):∀(vs:List Value) (o:Nat) (w:World),(w.setCells b o vs).heap.size=w.heap.size
 | [],_,_=>rfl
 | v::r,o,w=>by rw[World.setCells,cZ b r]; simp[World.setCell]
theorem fZ {B b:Nat} (hb:B≤b):∀(vs:List Value) (o:Nat) (w0 w:World),Below B w0 w→Below B w0 (w.setCells b o vs)
 | [],_,_,_,h=>h
 | v::r,o,w0,w,h=>fZ hb r (o+1) w0 _ (h.setCell hb v)
theorem yZ (hM:∀φ∈M,φ.ok base β a w) (hB:base≤w.heap.size) (hdst:o.dst=none)
  (hK:∀β' a' w',PostB base β β' a w none M out kill a' w'→K a' w') (h:wS E M o.op=some (pre,out,kill)) (hp:aS pre):o.wp E.P a w K Q:=by
 generalize ho:o.op=op at h;cases op with
 | store t x y =>
  simp only[wS]at h;split at h
  ·rename_i k i v hx hy;split at h
   ·rename_i p l n hv hr hs;cases hb:(Nat.beq n (eS p)&&p.all Mm)<;>rw[hb]at h
    ·cases h
    ·simp only[cond_true]at h;simp only[Bool.and_eq_true]at hb;have hl':∃l',put l i p=some l'∧out=[.row k true l']∧kill=some k:=by
      split at h
      ·rename_i l' hs';cases h;exact⟨l',hp.1,rfl,rfl⟩
      ·split at h
       ·rename_i l' hl; cases h; exact⟨l',hl,rfl,rfl⟩
       ·cases h
     obtain⟨l',hl,rfl,rfl⟩:=hl'
     ·have hn:=Nat.eq_of_beq_eq_true hb.1;obtain⟨ii,hi,hin⟩:=iD hs;obtain⟨h1,h2,h3,_⟩:=hM _ (aX hr);obtain⟨h4,h5,h6⟩:=h3 rfl;obtain⟨A,m,s,e1,e2,e3,e4⟩:=sU hl;have hx':a.eval x=.pointer (some ⟨(β k).1,(β k).2.1+i,none⟩):=aH hM hx;rw[h5,Nat.zero_add]at hx';rw[h5]at h2;have hsz:(aB p).length=n:=by rw[aJ,hn]
      have hth:w.there (β k).1 i (aB p).toArray.size:=fun j hj=>by
       have hj':j<eS m:=by rw[e4,←aJ]; simpa using hj
       refine⟨?_,h6 _⟩;have:=h2 (i+j) ((aB m)[j]'(by rw[aJ]; exact hj')) (by
        rw[e1,aL,aL,List.getElem?_append_right (by rw[aJ,e3]; omega),aJ,e3,show i+j-i=j by omega,List.getElem?_append_left (by rw[aJ]; exact hj')];exact List.getElem?_eq_getElem _)
       rw[Nat.zero_add]at this;rw[this]; rfl
      have hst:=run_storeVar_mid (P:=E.P) w (β k).1 i t (aB p).toArray hth (by rw[hi]; simp[hin,hsz]) (all_oneCell_toArray (BJ hb.2));have hst2:(storeVar t ⟨(β k).1,i,none⟩ (v.den β)).run E.P w=.ok () (w.setCells (β k).1 i (aB p)):=by
       have hc:=nL hv β;unfold storeVar at hst ⊢;rw[hc];exact hst
      have hrun:(execOp a.eval o).run E.P w=.ok .skip (w.setCells (β k).1 i (aB p)):=by
       simp[execOp,ho,Instr.storeAt,hx',Instr.sureAddr,aH hM hy,hst2]
      unfold Oper.wp;rw[hrun];show K (a.put o.dst undef) _;rw[hdst];refine hK β a _ ⟨rfl,rfl,fun _ _=>rfl,fun _ _=>rfl,by rw[cZ]; exact Nat.le_refl _,fun q hq hk=>⟨?_,World.frozen?_setCells _ _ _ _ _⟩,eG _ _ _ _,fun w0 h=>fZ h4 _ _ _ _ h,fun φ hφ => ?_,fun k' l1 hk => ?_,fun k1 k2 l1 l2 hk hk' => ?_,fun k' hk => ?_,fun k' l1 hk=>by simp at hk⟩
      ·exact World.cell?_setCells_out _ _ _ _ _ fun e _=>absurd e (hk k rfl)
      ·cases List.mem_singleton.1 hφ;refine⟨by rw[cZ]; exact h1,?_,fun _=>⟨h4,h5,fun j=>by rw[World.frozen?_setCells]; exact h6 j⟩,fun h=>by cases h⟩;rw[h5,e2];intro j u hj;rw[Nat.zero_add]
       by_cases c1:j<i
       ·rw[World.cell?_setCells_out _ _ _ _ _ (fun _ _=>Or.inl c1)];have:=h2 j u (by
         rw[e1,aL,aL];rw[List.getElem?_append_left (by rw[aJ,e3]; exact c1)]at hj ⊢;exact hj)
        rwa [Nat.zero_add]at this
       ·rw[List.getElem?_append_right (by rw[aJ,e3]; omega),aJ,e3]at hj
        by_cases c2:j<i+n
        ·rw[List.getElem?_append_left (by omega)]at hj;have:=World.cell?_setCells_in (β k).1 (aB p) i w (fun q hq=>(hth q (by simpa using hq)).1) (j-i) (by omega);rw[show i+(j-i)=j by omega]at this;rw[this,←hj,List.getElem?_eq_getElem]
        ·rw[List.getElem?_append_right (by omega),hsz]at hj;rw[World.cell?_setCells_out _ _ _ _ _ (fun _ _=>Or.inr (by simp only[]; omega))];have:=h2 j u (by
          rw[e1,aL,aL,List.getElem?_append_right (by rw[aJ,e3]; omega),aJ,e3,List.getElem?_append_right (by rw[aJ,e4]; omega),aJ,e4,←hn];exact hj)
         rwa [Nat.zero_add]at this
      ·cases List.mem_singleton.1 hk;exact Or.inr (Or.inl ⟨by simp,l,aX hr⟩)
      ·cases List.mem_singleton.1 hk; cases List.mem_singleton.1 hk'; rfl
      ·cases hk;exact⟨l,aX hr⟩
   ·cases h
  ·cases h
 | _=>simp only[wS]at h; cases h
theorem RU {ops:Array Oper} (hT:∀d,KL E.P (E.T d) w) (hX:uF E.P E.q.x base w) (hq:wM E.P E.q) (hM:∀φ∈M,φ.ok base β a w) (hB:base≤w.heap.size) (hn:a.tmps.size=E.nt)
  (hK:∀β' a' w',PostB base β β' a w o.dst M out kill a' w'→K a' w') (h:Me E ops M o=some (pre,out,kill)) (hp:aS pre) :
  if Region.wanted o (yielded ops a.tmps)=true then o.wp E.P a w K Q else K (a.put o.dst undef) w:=by
 unfold Me at h;split at h
 ·rename_i hg;rw[if_pos (pD hM hg)];cases hd:o.dst with
  | none =>
   rw[hd]at h;rw[hd]at hK;exact yZ hM hB hd hK h hp
  | some d =>
   rw[hd]at h;rw[hd]at hK;simp only at h;cases hb:Nat.blt d E.nt<;>rw[hb]at h
   ·cases h
   ·exact CY hT hX hq hM hB (by rw[hn]; simpa using hb) hd hK h hp
 ·rename_i hg;rw[if_neg (by rw[pD hM hg]; simp)];cases hd:o.dst with
  | none=>rw[hd]at h; cases h
  | some d =>
   rw[hd]at h;rw[hd]at hK;simp only at h;cases hb:Nat.blt d E.nt<;>rw[hb]at h
   ·cases h
   ·cases h;exact hK _ _ _ (vG (.im undef) (by rw[hn]; simpa using hb))
 ·cases h
theorem Hy {E:Env} {ops:Array Oper} {M:List Fact} {o:Oper} {r:List Prop×List Fact×Option Nat} (h:Me E ops M o=some r) {d:Nat} (hd:o.dst=some d):d<E.nt:=by
 unfold Me at h;rw[hd]at h;split at h
 ·simp only at h;cases hb:Nat.blt d E.nt<;>rw[hb]at h
  ·cases h
  ·simpa using hb
 ·simp only at h;cases hb:Nat.blt d E.nt<;>rw[hb]at h
  ·cases h
  ·simpa using hb
 ·cases h
end
end Go.Proofs.YtpjlhhpjpnacmaaGreat.Ex
