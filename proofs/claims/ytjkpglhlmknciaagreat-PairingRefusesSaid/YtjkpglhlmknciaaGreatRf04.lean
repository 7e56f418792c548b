/- Rf04 -/
import Derived.KernelRfl
import Derived.Test.YtjkpglhlmknciaaGreatRf02
import Derived.Test.YtjkpglhlmknciaaGreatRf03
import Derived.Test.YtjkpglhlmknciaaGreatProg
import Derived.Test.YtjkpglhlmknciaaGreatRf00
set_option maxRecDepth 100000
set_option linter.unusedVariables false
set_option linter.unusedSimpArgs false
set_option linter.unnecessarySimpa false
noncomputable section
namespace Go.Proofs.YtjkpglhlmknciaaGreat.Ex
open Go.Proofs.Tryz
open Go.RowKit
theorem aRd:1<FP.M:=by decide
def F1:CR Fq:=aZN FP.M aRd
def fm (n:Nat):Fq:=⟨n%FP.M,Nat.mod_lt _ gF⟩
abbrev Q2:=Fq×Fq
abbrev Q6:=Q2×Q2×Q2
abbrev aV:=Q6×Q6
def F2:CR Q2:=F1.sq (F1.neg F1.one)
def dM:Q2:=(fm 9,fm 1)
def F6:CR Q6:=F2.cu dM
def vE:Q6:=(F2.zero,F2.one,F2.zero)
def aD:CR aV:=F6.sq vE
def e1 (x:Fq):List At:=[.f x]
def e2 (x:Q2):List At:=[.f x.1,.f x.2]
def e6 (x:Q6):List At:=[.f x.1.1,.f x.1.2,.f x.2.1.1,.f x.2.1.2,.f x.2.2.1,.f x.2.2.2]
def aQ (x:aV):List At:=[.f x.1.1.1,.f x.1.1.2,.f x.1.2.1.1,.f x.1.2.1.2,.f x.1.2.2.1,.f x.1.2.2.2,.f x.2.1.1,.f x.2.1.2,.f x.2.2.1.1,.f x.2.2.1.2,.f x.2.2.2.1,.f x.2.2.2.2]
def Mp:List At→Option Fq|[.f a]=>some a|_=>none
def LK:List At→Option Q2|[.f a,.f b]=>some (a,b)|_=>none
def Wc:List At→Option Q6|[.f a,.f b,.f c,.f d,.f e,.f f]=>some ((a,b),(c,d),(e,f))|_=>none
def qO:List At→Option aV|[.f a,.f b,.f c,.f d,.f e,.f f,.f g,.f h,.f i,.f j,.f k,.f l]=>some (((a,b),(c,d),(e,f)),((g,h),(i,j),(k,l)))|_=>none
abbrev N2:=Nat×Nat
abbrev N6:=N2×N2×N2
abbrev vJ:=N6×N6
def q1 (x:Nat):List At:=[.q x]
def q2 (x:N2):List At:=[.q x.1,.q x.2]
def q6 (x:N6):List At:=[.q x.1.1,.q x.1.2,.q x.2.1.1,.q x.2.1.2,.q x.2.2.1,.q x.2.2.2]
def vZ (x:vJ):List At:=[.q x.1.1.1,.q x.1.1.2,.q x.1.2.1.1,.q x.1.2.1.2,.q x.1.2.2.1,.q x.1.2.2.2,.q x.2.1.1,.q x.2.1.2,.q x.2.2.1.1,.q x.2.2.1.2,.q x.2.2.2.1,.q x.2.2.2.2]
def Az:At→Option Nat
 | .f x=>some x.1
 | .q x=>some x
 | .c _=>none
def Ip:List At→Option (List Nat)
 | []=>some []
 | a::r=>match Az a,Ip r with|some x,some l=>some (x::l)|_,_=>none
def LI (l:List At):Option Nat:=match Ip l with|some [a]=>some a|_=>none
def Yw (l:List At):Option N2:=match Ip l with|some [a,b]=>some (a,b)|_=>none
def rq6 (l:List At):Option N6:=match Ip l with|some [a,b,c,d,e,f]=>some ((a,b),(c,d),(e,f))|_=>none
def Hk (l:List At):Option vJ:=match Ip l with|some [a,b,c,d,e,f,g,h,i,j,k,l]=>some (((a,b),(c,d),(e,f)),((g,h),(i,j),(k,l)))|_=>none
def wv (x:Nat):Nat:=aC (fw x 0) (fw x 1) (fw x 2) (fw x 3)
def m1 (x:Nat):Fq:=fm (wv x)
def m2 (x:N2):Q2:=(m1 x.1,m1 x.2)
def m6 (x:N6):Q6:=(m2 x.1,m2 x.2.1,m2 x.2.2)
def hJ (x:vJ):aV:=(m6 x.1,m6 x.2)
def Rd {α:Type} (rd:List At→Option α) (en:α→List At):Prop:=∀l x,rd l=some x→aA l=aA (en x)
theorem lY:Rd Mp e1:=fun l x h=>by unfold Mp at h; split at h<;>cases h; rfl
theorem gE:Rd LK e2:=fun l x h=>by unfold LK at h; split at h<;>cases h; rfl
theorem nE:Rd Wc e6:=fun l x h=>by unfold Wc at h; split at h<;>cases h; rfl
theorem eW:Rd qO aQ:=fun l x h=>by unfold qO at h; split at h<;>cases h; rfl
theorem yK:∀{l:List At} {m:List Nat},Ip l=some m→aA l=aA (m.map .q)
 | [],m,h=>by cases h; rfl
 | a::r,m,h=>by
  unfold Ip at h;split at h
  ·rename_i x l' h1 h2;cases h;show a.cells++aA r=w4 x++aA (l'.map .q);rw[yK h2];cases a<;>cases h1<;>rfl
  ·cases h
theorem gD:Rd LI q1:=fun l x h=>by
 unfold LI at h;split at h
 ·rename_i hn; cases h; rw[yK hn]; rfl
 ·cases h
theorem oM:Rd Yw q2:=fun l x h=>by
 unfold Yw at h;split at h
 ·rename_i hn; cases h; rw[yK hn]; rfl
 ·cases h
theorem aOF:Rd rq6 q6:=fun l x h=>by
 unfold rq6 at h;split at h
 ·rename_i hn; cases h; rw[yK hn]; rfl
 ·cases h
theorem xR:Rd Hk vZ:=fun l x h=>by
 unfold Hk at h;split at h
 ·rename_i hn; cases h; rw[yK hn]; rfl
 ·cases h
abbrev kI:=List CA→Option (List Prop×RV)
def g0 (r:RV):kI
 | []=>some ([],r)
 | _=>none
def g1 {α:Type} (rd:List At→Option α) (op:α→List Prop×RV):kI
 | [.v (.fl l)]=>match rd l with|some x=>some (op x)|none=>none
 | _=>none
def g2 {α γ:Type} (rd:List At→Option α) (rd':List At→Option γ) (op:α→γ→List Prop×RV):kI
 | [.v (.fl l),.v (.fl m)]=>match rd l,rd' m with|some x,some y=>some (op x y)|_,_=>none
 | _=>none
def Good (P:Program) (f:FuncId) (r:RV) (args:List Value) (w:World):Prop:=Calls P f args.toArray w (fun e w'=>e=.returned r.den∧Below w.heap.size w w')
theorem lO {P:Program} {f:FuncId} {r:RV} (h:∀w,Good P f r [] w):∀cs pre r',g0 r cs=some (pre,r')→aZ pre→∀(args:List Value) (w:World),bU w cs args→Good P f r' args w:=by
 intro cs pre r' hg hp args w ha;unfold g0 at hg;split at hg
 ·cases hg;cases args with
  | nil=>exact h w
  | cons _ _=>exact ha.elim
 ·cases hg
theorem bJ {P:Program} {f:FuncId} {α:Type} {rd:List At→Option α} {en:α→List At} (hr:Rd rd en) {op:α→List Prop×RV} (h:∀x,aZ (op x).1→∀args w,bU w [.v (.fl (en x))] args→Good P f (op x).2 args w) :
  ∀cs pre r,g1 rd op cs=some (pre,r)→aZ pre→∀(args:List Value) (w:World),bU w cs args→Good P f r args w:=by
 intro cs pre r hg hp args w ha;unfold g1 at hg;split at hg
 ·rename_i l;split at hg
  ·rename_i x hx;have e:op x=(pre,r):=by simpa using hg
   have:=h x (by rw[e]; exact hp) args w (by
    cases args with
    | nil=>exact ha.elim
    | cons v vs =>
     refine⟨?_,ha.2⟩;show v=.agg (aA (en x)).toArray;rw[←hr l x hx];exact ha.1)
   rw[e]at this;exact this
  ·cases hg
 ·cases hg
theorem fS {P:Program} {f:FuncId} {α γ:Type} {rd:List At→Option α} {en:α→List At} {rd':List At→Option γ} {en':γ→List At} (hr:Rd rd en) (hr':Rd rd' en') {op:α→γ→List Prop×RV}
  (h:∀x y,aZ (op x y).1→∀args w,bU w [.v (.fl (en x)),.v (.fl (en' y))] args→Good P f (op x y).2 args w) :
  ∀cs pre r,g2 rd rd' op cs=some (pre,r)→aZ pre→∀(args:List Value) (w:World),bU w cs args→Good P f r args w:=by
 intro cs pre r hg hp args w ha;unfold g2 at hg;split at hg
 ·rename_i l m;split at hg
  ·rename_i x y hx hy;have e:op x y=(pre,r):=by simpa using hg
   have:=h x y (by rw[e]; exact hp) args w (by
    cases args with
    | nil=>exact ha.elim
    | cons v vs =>
     cases vs with
     | nil=>exact ha.2.elim
     | cons u us =>
      refine⟨?_,?_,ha.2.2⟩
      ·show v=.agg (aA (en x)).toArray;rw[←hr l x hx];exact ha.1
      ·show u=.agg (aA (en' y)).toArray;rw[←hr' m y hy];exact ha.2.1)
   rw[e]at this;exact this
  ·cases hg
 ·cases hg
theorem aG:prog.follows .mixedOrders=true:=by kernel_rfl
def qN:EqT:={ q:=fun _=>none,n:=fun _=>none }
theorem aO {P:Program}:EqOk P qN:=⟨⟨(fun t n h=>by cases h),(fun t n h=>by cases h)⟩,rfl⟩
def Ye:Fq→List Fq→List Fq→Fq
 | a,x::r,y::s=>Ye (F1.add a (F1.mul x y)) r s
 | a,_,_=>a
def rJ:List Fq→List Fq→Fq
 | x::r,y::s=>Ye (F1.mul x y) r s
 | _,_=>F1.zero
def ZZ:Nat→List At→Option (List Fq)
 | 0,_=>some []
 | n+1,.f a::r=>match ZZ n r with|some l=>some (a::l)|none=>none
 | _,_=>none
def aEn:kI
 | [.s l n m,.s l' n' m']=>bif Nat.beq n n'&&Nat.ble n 6 then (match ZZ n l,ZZ n' l' with
  | some x,some y=>some ([],.one (.fl (e1 (rJ x y))))
  | _,_=>none)else none
 | _=>none
def gOf:kI
 | [.v (.im (.int .u64 (.ofNat n)))]=>bif Nat.blt n 18446744073709551616 then some ([],.one (.fl (e1 (fm n))))else none
 | _=>none
theorem Qn:∃f:Fq→Fq,∀x,(f x).1=1*(x.1^(FP.M-2)%FP.M) :=
 ⟨fun x=>⟨1*(x.1^(FP.M-2)%FP.M),by rw[Nat.one_mul]; exact Nat.mod_lt _ gF⟩,fun _=>rfl⟩
def iC:Fq→Fq:=Classical.choose Qn
theorem By (x:Fq):(iC x).1=1*(x.1^(FP.M-2)%FP.M):=Classical.choose_spec Qn x
def aQP (c:Bool):kI
 | [.v (.im (.int .i64 (.ofNat 1))),.v (.fl l)]=>match Mp l with
  | some x=>bif c then some ([x≠F1.zero],.many [.fl (e1 (iC x)),.im (.int .i64 0)])else some ([x=F1.zero],.many [.fl (e1 F1.zero),.im (.int .i64 22)])
  | none=>none
 | _=>none
def pD (c:Bool):Tab:=(((((((T0.add 155 (g2 Mp Mp fun x y=>([],.one (.fl (e1 (F1.add x y)))))).add 145 (g2 Mp Mp fun x y=>([],.one (.fl (e1 (F1.sub x y)))))).add 134 (g2 Mp Mp fun x y=>([],.one (.fl (e1 (F1.mul x y)))))).add
 135 (g1 Mp fun x=>([],.one (.fl (e1 (F1.neg x)))))).add 146 (g1 LI fun x=>([],.one (.fl (e1 (m1 x)))))).add 156 aEn).add 22 gOf).add 157 (aQP c)
theorem aVd (c:Bool) (hB:TabOk prog (pD c)):TabOk prog (pD c):=hB
def aL (x:Q2):Q2:=(x.1,F1.neg x.2)
def qH (x:Q2) (k:Fq):Q2:=(F1.mul x.1 k,F1.mul x.2 k)
def sC (x:Q2):Fq:=F1.add (F1.mul x.1 x.1) (F1.mul x.2 x.2)
def dW (x:Q2):Q2:=qH (aL x) (iC (sC x))
theorem El (c:Bool) (x:Q2) (y:Q2):bP prog (pD c) qN (fun _=>true) f133 40 [.v (.fl (e2 x)),.v (.fl (e2 y))]=some ([],.one (.fl (e2 (F2.add x y)))):=by kernel_rfl
def JX (c:Bool):Tab:=(pD c).add 133 (g2 LK LK (fun x y=>([],.one (.fl (e2 (F2.add x y))))))
theorem MS (c:Bool) (hB:TabOk prog (pD c)):TabOk prog (JX c):=(aVd c hB).ad func133 (fS gE gE fun x y hp args w ha=>aI aG (aVd c hB) aO func133 (El c x y) hp ha)
theorem WF (c:Bool) (x:Q2) (y:Q2):bP prog (JX c) qN (fun _=>true) f112 40 [.v (.fl (e2 x)),.v (.fl (e2 y))]=some ([],.one (.fl (e2 (F2.sub x y)))):=by kernel_rfl
def BT (c:Bool):Tab:=(JX c).add 112 (g2 LK LK (fun x y=>([],.one (.fl (e2 (F2.sub x y))))))
theorem GX (c:Bool) (hB:TabOk prog (pD c)):TabOk prog (BT c):=(MS c hB).ad func112 (fS gE gE fun x y hp args w ha=>aI aG (MS c hB) aO func112 (WF c x y) hp ha)
theorem Ep (c:Bool) (x:Q2):bP prog (BT c) qN (fun _=>true) f98 40 [.v (.fl (e2 x))]=some ([],.one (.fl (e2 (aL x)))):=by kernel_rfl
def JY (c:Bool):Tab:=(BT c).add 98 (g1 LK (fun x=>([],.one (.fl (e2 (aL x))))))
theorem MU (c:Bool) (hB:TabOk prog (pD c)):TabOk prog (JY c):=(GX c hB).ad func98 (bJ gE fun x hp args w ha=>aI aG (GX c hB) aO func98 (Ep c x) hp ha)
theorem QB (c:Bool) (x:Q2) (y:Fq):bP prog (JY c) qN (fun _=>true) f96 40 [.v (.fl (e2 x)),.v (.fl (e1 y))]=some ([],.one (.fl (e2 (qH x y)))):=by kernel_rfl
def wY (c:Bool):Tab:=(JY c).add 96 (g2 LK Mp (fun x y=>([],.one (.fl (e2 (qH x y))))))
theorem CG (c:Bool) (hB:TabOk prog (pD c)):TabOk prog (wY c):=(MU c hB).ad func96 (fS gE lY fun x y hp args w ha=>aI aG (MU c hB) aO func96 (QB c x y) hp ha)
theorem aAG (c:Bool) (x:Q2):bP prog (wY c) qN (fun _=>true) f130 40 [.v (.fl (e2 x))]=some ([],.one (.fl (e2 ((F1.sub (F1.mul x.1 (fm 9)) x.2,F1.add (F1.mul x.2 (fm 9)) x.1))))):=by kernel_rfl
theorem aBo (x:Q2):F2.mul x dM=(F1.sub (F1.mul x.1 (fm 9)) x.2,F1.add (F1.mul x.2 (fm 9)) x.1):=by
 have h1:fm 1=F1.one:=by decide
 show (F1.add (F1.mul x.1 (fm 9)) (F1.mul (F1.neg F1.one) (F1.mul x.2 (fm 1))),F1.add (F1.mul x.1 (fm 1)) (F1.mul x.2 (fm 9)))=_;rw[h1,F1.mul_one,F1.mul_one,F1.neg_mul,F1.one_mul,F1.add_comm x.1];rfl
def Kp (c:Bool):Tab:=(wY c).add 130 (g1 LK (fun x=>([],.one (.fl (e2 (F2.mul x dM))))))
theorem Nn (c:Bool) (hB:TabOk prog (pD c)):TabOk prog (Kp c):=(CG c hB).ad func130 (bJ gE fun x hp args w ha=>by show Good _ _ (.one (.fl (e2 (F2.mul x dM)))) _ _; rw[aBo x]; exact aI aG (CG c hB) aO func130 (aAG c x) hp ha)
theorem aAW (c:Bool)  : bP prog (Kp c) qN (fun _=>true) f118 40 []=some ([],.one (.fl (e2 (F2.one)))):=by kernel_rfl
def La (c:Bool):Tab:=(Kp c).add 118 (g0 (.one (.fl (e2 (F2.one)))))
theorem Oa (c:Bool) (hB:TabOk prog (pD c)):TabOk prog (La c):=(Nn c hB).ad func118 (lO fun w=>aI aG (Nn c hB) aO func118 (aAW c ) trivial (args:=[]) trivial)
theorem En (c:Bool) (x:Q2):bP prog (La c) qN (fun _=>true) f158 40 [.v (.fl (e2 x))]=some ([],.one (.fl (e1 (sC x)))):=by kernel_rfl
def zF (c:Bool):Tab:=(La c).add 158 (g1 LK (fun x=>([],.one (.fl (e1 (sC x))))))
theorem AP (c:Bool) (hB:TabOk prog (pD c)):TabOk prog (zF c):=(Oa c hB).ad func158 (bJ gE fun x hp args w ha=>aI aG (Oa c hB) aO func158 (En c x) hp ha)
theorem Uc (x:Q2):bP prog (zF true) qN (fun _=>true) f132 40 [.v (.fl (e2 x))]=some ([sC x≠F1.zero],.many [.fl (e2 (dW x)),.im (.int .i64 0)]):=by kernel_rfl
theorem Eo (x:Q2):bP prog (zF false) qN (fun _=>true) f132 40 [.v (.fl (e2 x))]=some ([sC x=F1.zero],.many [.fl (e2 F2.zero),.im (.int .i64 22)]):=by kernel_rfl
def aCU (c:Bool) (x:Q2):List Prop×RV:=bif c then ([sC x≠F1.zero],.many [.fl (e2 (dW x)),.im (.int .i64 0)])else ([sC x=F1.zero],.many [.fl (e2 F2.zero),.im (.int .i64 22)])
theorem aKb (c:Bool) (hB:TabOk prog (pD c)) (x:Q2) (hp:aZ (aCU c x).1) (args:List Value) (w:World) (ha:bU w [.v (.fl (e2 x))] args):Good prog 132 (aCU c x).2 args w:=by
 cases c
 ·exact aI aG (AP false hB) aO func132 (Eo x) hp ha
 ·exact aI aG (AP true hB) aO func132 (Uc x) hp ha
def zG (c:Bool):Tab:=(zF c).add 132 (g1 LK (aCU c))
theorem yE (c:Bool) (hB:TabOk prog (pD c)):TabOk prog (zG c):=(AP c hB).ad func132 (bJ gE (aKb c hB))
def Sy:Nat→List At→Option (List Q2)
 | 0,[]=>some []
 | n+1,.f a :: .f b::r=>match Sy n r with|some l=>some ((a,b)::l)|none=>none
 | _,_=>none
def e2s:List Q2→List At
 | []=>[]
 | x::r=>.f x.1 :: .f x.2::e2s r
theorem PB:∀{n:Nat} {l:List At} {x:List Q2},Sy n l=some x→l=e2s x∧x.length=n
 | 0,[],x,h=>by cases h; exact⟨rfl,rfl⟩
 | n+1,.f a :: .f b::r,x,h=>by
  unfold Sy at h;split at h
  ·rename_i l hl;cases h;obtain⟨h1,h2⟩:=PB hl;exact⟨by rw[h1]; rfl,by rw[List.length_cons,h2]⟩
  ·cases h
 | 0,_::_,x,h=>by cases h
 | n+1,[],x,h=>by cases h
 | n+1,[_],x,h=>by unfold Sy at h; split at h<;>first|(cases h; done)|(rename_i heq; cases heq)
 | n+1,.q _::_::_,x,h=>by cases h
 | n+1,.c _::_::_,x,h=>by cases h
 | n+1,.f _ :: .q _::_,x,h=>by cases h
 | n+1,.f _ :: .c _::_,x,h=>by cases h
def LS:List Q2→List Q2→Q2
 | [x],[y]=>F2.mul x y
 | [x,y],[z,t]=>F2.add (F2.mul x z) (F2.mul y t)
 | [x,y,z],[s,t,u]=>F2.add (F2.add (F2.mul x s) (F2.mul y t)) (F2.mul z u)
 | _,_=>F2.zero
def aQB:kI
 | [.s l n m,.s l' n' m']=>bif Nat.beq n n'&&(Nat.ble n 3&&Nat.ble 1 n)then (match Sy n l,Sy n' l' with
  | some x,some y=>some ([],.one (.fl (e2 (LS x y))))
  | _,_=>none)else none
 | _=>none
def sl2:List Q2→List Fq
 | []=>[]
 | x::r=>x.1::F1.neg x.2::sl2 r
def cr2:List Q2→List Fq
 | []=>[]
 | x::r=>x.2::x.1::cr2 r
def Tk:List Q2→List Fq
 | []=>[]
 | x::r=>x.1::x.2::Tk r
theorem aAJ (c:Bool) (x s:Q2) (m m':Nat):bP prog (zG c) qN (fun _=>true) f131 40 [.s (e2s [x]) 1 m,.s (e2s [s]) 1 m']=some ([],.one (.fl (e2 (rJ (sl2 [x]) (Tk [s]),rJ (cr2 [x]) (Tk [s]))))):=by kernel_rfl
theorem aAI (c:Bool) (x y s t:Q2) (m m':Nat):bP prog (zG c) qN (fun _=>true) f131 40 [.s (e2s [x,y]) 2 m,.s (e2s [s,t]) 2 m']=some ([],.one (.fl (e2 (rJ (sl2 [x,y]) (Tk [s,t]),rJ (cr2 [x,y]) (Tk [s,t]))))):=by kernel_rfl
theorem aAH (c:Bool) (x y z s t u:Q2) (m m':Nat):bP prog (zG c) qN (fun _=>true) f131 40 [.s (e2s [x,y,z]) 3 m,.s (e2s [s,t,u]) 3 m']=some ([],.one (.fl (e2 (rJ (sl2 [x,y,z]) (Tk [s,t,u]),rJ (cr2 [x,y,z]) (Tk [s,t,u]))))):=by kernel_rfl
theorem AX (x s:Q2):(F2.mul x s).1=F1.add (F1.mul x.1 s.1) (F1.mul (F1.neg x.2) s.2):=by
 show F1.add (F1.mul x.1 s.1) (F1.mul (F1.neg F1.one) (F1.mul x.2 s.2))=_;rw[F1.neg_mul,F1.one_mul,F1.neg_mul]
theorem AW (x s:Q2):(F2.mul x s).2=F1.add (F1.mul x.2 s.1) (F1.mul x.1 s.2):=F1.add_comm _ _
theorem aBr (x s:Q2):LS [x] [s]=(rJ (sl2 [x]) (Tk [s]),rJ (cr2 [x]) (Tk [s])):=Prod.ext (AX x s) (AW x s)
theorem aBq (x y s t:Q2):LS [x,y] [s,t]=(rJ (sl2 [x,y]) (Tk [s,t]),rJ (cr2 [x,y]) (Tk [s,t])):=by
 refine Prod.ext ?_ ?_
 ·show F1.add (F2.mul x s).1 (F2.mul y t).1=F1.add (F1.add (F1.add (F1.mul x.1 s.1) (F1.mul (F1.neg x.2) s.2)) (F1.mul y.1 t.1)) (F1.mul (F1.neg y.2) t.2);rw[AX,AX]; simp only[F1.add_assoc]
 ·show F1.add (F2.mul x s).2 (F2.mul y t).2=F1.add (F1.add (F1.add (F1.mul x.2 s.1) (F1.mul x.1 s.2)) (F1.mul y.2 t.1)) (F1.mul y.1 t.2);rw[AW,AW]; simp only[F1.add_assoc]
theorem aBp (x y z s t u:Q2):LS [x,y,z] [s,t,u]=(rJ (sl2 [x,y,z]) (Tk [s,t,u]),rJ (cr2 [x,y,z]) (Tk [s,t,u])):=by
 refine Prod.ext ?_ ?_
 ·show F1.add (F1.add (F2.mul x s).1 (F2.mul y t).1) (F2.mul z u).1=F1.add (F1.add (F1.add (F1.add (F1.add (F1.mul x.1 s.1) (F1.mul (F1.neg x.2) s.2)) (F1.mul y.1 t.1)) (F1.mul (F1.neg y.2) t.2)) (F1.mul z.1 u.1)) (F1.mul (F1.neg z.2) u.2);rw[AX,AX,AX]; simp only[F1.add_assoc]
 ·show F1.add (F1.add (F2.mul x s).2 (F2.mul y t).2) (F2.mul z u).2=F1.add (F1.add (F1.add (F1.add (F1.add (F1.mul x.2 s.1) (F1.mul x.1 s.2)) (F1.mul y.2 t.1)) (F1.mul y.1 t.2)) (F1.mul z.2 u.1)) (F1.mul z.1 u.2);rw[AW,AW,AW]; simp only[F1.add_assoc]
theorem aOa (c:Bool) (hB:TabOk prog (pD c)):∀cs pre r,aQB cs=some (pre,r)→aZ pre→∀(args:List Value) (w:World),bU w cs args→Good prog 131 r args w:=by
 intro cs pre r hg hp args w ha;unfold aQB at hg;split at hg
 ·rename_i l n m l' n' m';cases hb:(Nat.beq n n'&&(Nat.ble n 3&&Nat.ble 1 n))<;>rw[hb]at hg
  ·cases hg
  ·simp only[cond_true]at hg;split at hg
   ·rename_i x y hx hy;cases hg;obtain⟨e1,e2⟩:=PB hx;obtain⟨e3,e4⟩:=PB hy;subst e1; subst e3;simp only[Bool.and_eq_true]at hb;have hn:=Nat.eq_of_beq_eq_true hb.1;have h3:=Nat.le_of_ble_eq_true hb.2.1;have h1:=Nat.le_of_ble_eq_true hb.2.2;subst hn
    match x,y,n,e2,e4,h3,h1 with
    | [x],[s],1,_,_,_,_ =>
     rw[aBr];exact aI aG (yE c hB) aO func131 (aAJ c x s m m') trivial ha
    | [x,y],[s,t],2,_,_,_,_ =>
     rw[aBq];exact aI aG (yE c hB) aO func131 (aAI c x y s t m m') trivial ha
    | [x,y,z],[s,t,u],3,_,_,_,_ =>
     rw[aBp];exact aI aG (yE c hB) aO func131 (aAH c x y z s t u m m') trivial ha
    | [],_,_,e2,_,_,h1=>exact absurd h1 (by rw[←e2]; decide)
    | _::_::_::_::l,_,_,e2,_,h3,_=>exact absurd h3 (by rw[←e2]; simp)
    | [_],[],_,e2,e4,_,_=>rw[←e2]at e4; cases e4
    | [_],_::_::_,_,e2,e4,_,_=>rw[←e2]at e4; simp at e4
    | [_,_],[],_,e2,e4,_,_=>rw[←e2]at e4; cases e4
    | [_,_],[_],_,e2,e4,_,_=>rw[←e2]at e4; cases e4
    | [_,_],_::_::_::_,_,e2,e4,_,_=>rw[←e2]at e4; simp at e4
    | [_,_,_],[],_,e2,e4,_,_=>rw[←e2]at e4; cases e4
    | [_,_,_],[_],_,e2,e4,_,_=>rw[←e2]at e4; cases e4
    | [_,_,_],[_,_],_,e2,e4,_,_=>rw[←e2]at e4; cases e4
    | [_,_,_],_::_::_::_::_,_,e2,e4,_,_=>rw[←e2]at e4; simp at e4
   ·cases hg
 ·cases hg
def Kq (c:Bool):Tab:=(zG c).add 131 aQB
theorem No (c:Bool) (hB:TabOk prog (pD c)):TabOk prog (Kq c):=(yE c hB).ad func131 (aOa c hB)
theorem WE (c:Bool) (x:Q2) (y:Q2):bP prog (Kq c) qN (fun _=>true) f99 40 [.v (.fl (e2 x)),.v (.fl (e2 y))]=some ([],.one (.fl (e2 (F2.mul x y)))):=by kernel_rfl
def BS (c:Bool):Tab:=(Kq c).add 99 (g2 LK LK (fun x y=>([],.one (.fl (e2 (F2.mul x y))))))
theorem GW (c:Bool) (hB:TabOk prog (pD c)):TabOk prog (BS c):=(No c hB).ad func99 (fS gE gE fun x y hp args w ha=>aI aG (No c hB) aO func99 (WE c x y) hp ha)
theorem Ui (c:Bool) (x:N2):bP prog (BS c) qN (fun _=>true) f113 40 [.v (.fl (q2 x))]=some ([],.one (.fl (e2 (m2 x)))):=by kernel_rfl
def TX (c:Bool):Tab:=(BS c).add 113 (g1 Yw (fun x=>([],.one (.fl (e2 (m2 x))))))
theorem Aj (c:Bool) (hB:TabOk prog (pD c)):TabOk prog (TX c):=(GW c hB).ad func113 (bJ oM fun x hp args w ha=>aI aG (GW c hB) aO func113 (Ui c x) hp ha)
def oA (x:Q6):Q6:=(F2.sub (F2.mul x.1 x.1) (F2.mul (F2.mul x.2.1 x.2.2) dM),F2.sub (F2.mul (F2.mul x.2.2 x.2.2) dM) (F2.mul x.1 x.2.1),F2.sub (F2.mul x.2.1 x.2.1) (F2.mul x.1 x.2.2))
def n6 (x:Q6):Q2:=(F6.mul x (oA x)).1
def s6 (x:Q6) (k:Q2):Q6:=(F2.mul x.1 k,F2.mul x.2.1 k,F2.mul x.2.2 k)
def iv6 (x:Q6):Q6:=s6 (oA x) (dW (n6 x))
theorem Ek (c:Bool) (x:Q6) (y:Q6):bP prog (TX c) qN (fun _=>true) f94 40 [.v (.fl (e6 x)),.v (.fl (e6 y))]=some ([],.one (.fl (e6 (F6.add x y)))):=by kernel_rfl
def JW (c:Bool):Tab:=(TX c).add 94 (g2 Wc Wc (fun x y=>([],.one (.fl (e6 (F6.add x y))))))
theorem MQ (c:Bool) (hB:TabOk prog (pD c)):TabOk prog (JW c):=(Aj c hB).ad func94 (fS nE nE fun x y hp args w ha=>aI aG (Aj c hB) aO func94 (Ek c x y) hp ha)
theorem WD (c:Bool) (x:Q6) (y:Q6):bP prog (JW c) qN (fun _=>true) f91 40 [.v (.fl (e6 x)),.v (.fl (e6 y))]=some ([],.one (.fl (e6 (F6.sub x y)))):=by kernel_rfl
def BR (c:Bool):Tab:=(JW c).add 91 (g2 Wc Wc (fun x y=>([],.one (.fl (e6 (F6.sub x y))))))
theorem GV (c:Bool) (hB:TabOk prog (pD c)):TabOk prog (BR c):=(MQ c hB).ad func91 (fS nE nE fun x y hp args w ha=>aI aG (MQ c hB) aO func91 (WD c x y) hp ha)
theorem aHE (c:Bool) (x:Q6):bP prog (BR c) qN (fun _=>true) f92 40 [.v (.fl (e6 x))]=some ([],.one (.fl (e6 ((F2.mul x.2.2 dM,x.1,x.2.1))))):=by kernel_rfl
theorem DX (x:Q6):F6.mul vE x=(F2.mul x.2.2 dM,x.1,x.2.1):=by
 show (F2.add (F2.mul F2.zero x.1) (F2.mul dM (F2.add (F2.mul F2.one x.2.2) (F2.mul F2.zero x.2.1))),F2.add (F2.add (F2.mul F2.zero x.2.1) (F2.mul F2.one x.1)) (F2.mul dM (F2.mul F2.zero x.2.2)),F2.add (F2.add (F2.mul F2.zero x.2.2) (F2.mul F2.one x.2.1)) (F2.mul F2.zero x.1))=_;simp only[F2.zero_mul,F2.one_mul,F2.zero_add,F2.add_zero,F2.mul_zero,F2.mul_comm dM]
def aGf (c:Bool):Tab:=(BR c).add 92 (g1 Wc (fun x=>([],.one (.fl (e6 (F6.mul vE x))))))
theorem aCw (c:Bool) (hB:TabOk prog (pD c)):TabOk prog (aGf c):=(GV c hB).ad func92 (bJ nE fun x hp args w ha=>by show Good _ _ (.one (.fl (e6 (F6.mul vE x)))) _ _; rw[DX x]; exact aI aG (GV c hB) aO func92 (aHE c x) hp ha)
theorem Ub (c:Bool) (x:Q6):bP prog (aGf c) qN (fun _=>true) f71 40 [.v (.fl (e6 x))]=some ([],.one (.fl (e6 (x)))):=by kernel_rfl
def TN (c:Bool):Tab:=(aGf c).add 71 (g1 Wc (fun x=>([],.one (.fl (e6 (x))))))
theorem Ae (c:Bool) (hB:TabOk prog (pD c)):TabOk prog (TN c):=(aCw c hB).ad func71 (bJ nE fun x hp args w ha=>aI aG (aCw c hB) aO func71 (Ub c x) hp ha)
theorem aAV (c:Bool)  : bP prog (TN c) qN (fun _=>true) f70 40 []=some ([],.one (.fl (e6 (F6.one)))):=by kernel_rfl
def Kz (c:Bool):Tab:=(TN c).add 70 (g0 (.one (.fl (e6 (F6.one)))))
theorem Nz (c:Bool) (hB:TabOk prog (pD c)):TabOk prog (Kz c):=(Ae c hB).ad func70 (lO fun w=>aI aG (Ae c hB) aO func70 (aAV c ) trivial (args:=[]) trivial)
theorem Uh (c:Bool) (x:N6):bP prog (Kz c) qN (fun _=>true) f89 40 [.v (.fl (q6 x))]=some ([],.one (.fl (e6 (m6 x)))):=by kernel_rfl
def TU (c:Bool):Tab:=(Kz c).add 89 (g1 rq6 (fun x=>([],.one (.fl (e6 (m6 x))))))
theorem Ai (c:Bool) (hB:TabOk prog (pD c)):TabOk prog (TU c):=(Nz c hB).ad func89 (bJ aOF fun x hp args w ha=>aI aG (Nz c hB) aO func89 (Uh c x) hp ha)
theorem WC (c:Bool) (x:Q6) (y:Q6):bP prog (TU c) qN (fun _=>true) f90 40 [.v (.fl (e6 x)),.v (.fl (e6 y))]=some ([],.one (.fl (e6 ((LS [x.1,x.2.1,x.2.2] [y.1,F2.mul y.2.2 dM,F2.mul y.2.1 dM],LS [x.1,x.2.1,x.2.2] [y.2.1,y.1,F2.mul y.2.2 dM],LS [x.1,x.2.1,x.2.2] [y.2.2,y.2.1,y.1]))))):=by kernel_rfl
theorem YV (x:Q6) (y:Q6):F6.mul x y=(LS [x.1,x.2.1,x.2.2] [y.1,F2.mul y.2.2 dM,F2.mul y.2.1 dM],LS [x.1,x.2.1,x.2.2] [y.2.1,y.1,F2.mul y.2.2 dM],LS [x.1,x.2.1,x.2.2] [y.2.2,y.2.1,y.1]):=by
 refine Prod.ext ?_ (Prod.ext ?_ rfl)
 ·show F2.add (F2.mul x.1 y.1) (F2.mul dM (F2.add (F2.mul x.2.1 y.2.2) (F2.mul x.2.2 y.2.1)))=F2.add (F2.add (F2.mul x.1 y.1) (F2.mul x.2.1 (F2.mul y.2.2 dM))) (F2.mul x.2.2 (F2.mul y.2.1 dM));rw[F2.mul_add,F2.add_assoc,F2.mul_comm dM,F2.mul_comm dM,F2.mul_assoc,F2.mul_assoc]
 ·show F2.add (F2.add (F2.mul x.1 y.2.1) (F2.mul x.2.1 y.1)) (F2.mul dM (F2.mul x.2.2 y.2.2))=F2.add (F2.add (F2.mul x.1 y.2.1) (F2.mul x.2.1 y.1)) (F2.mul x.2.2 (F2.mul y.2.2 dM));rw[F2.mul_comm dM,F2.mul_assoc]
def uN (c:Bool):Tab:=(TU c).add 90 (g2 Wc Wc (fun x y=>([],.one (.fl (e6 (F6.mul x y))))))
theorem wD (c:Bool) (hB:TabOk prog (pD c)):TabOk prog (uN c):=(Ai c hB).ad func90 (fS nE nE fun x y hp args w ha=>by show Good _ _ (.one (.fl (e6 (F6.mul x y)))) _ _; rw[YV x y]; exact aI aG (Ai c hB) aO func90 (WC c x y) hp ha)
def aCT (c:Bool) (x:Q6):List Prop×RV:=bif c then ([sC (n6 x)≠F1.zero],.many [.fl (e6 (iv6 x)),.im (.int .i64 0)])else ([sC (n6 x)=F1.zero],.many [.fl (e6 F6.zero),.im (.int .i64 22)])
theorem FQ (x:Q6):bP prog (uN true) qN (fun _=>true) f93 40 [.v (.fl (e6 x))]=some ([sC (n6 x)≠F1.zero],.many [.fl (e6 (iv6 x)),.im (.int .i64 0)]):=by kernel_rfl
theorem DE (x:Q6):bP prog (uN false) qN (fun _=>true) f93 40 [.v (.fl (e6 x))]=some ([sC (n6 x)=F1.zero],.many [.fl (e6 F6.zero),.im (.int .i64 22)]):=by kernel_rfl
theorem aCS (c:Bool) (hB:TabOk prog (pD c)) (x:Q6) (hp:aZ (aCT c x).1) (args:List Value) (w:World) (ha:bU w [.v (.fl (e6 x))] args):Good prog 93 (aCT c x).2 args w:=by
 cases c
 ·exact aI aG (wD false hB) aO func93 (DE x) hp ha
 ·exact aI aG (wD true hB) aO func93 (FQ x) hp ha
def TO (c:Bool):Tab:=(uN c).add 93 (g1 Wc (aCT c))
theorem Af (c:Bool) (hB:TabOk prog (pD c)):TabOk prog (TO c):=(wD c hB).ad func93 (bJ nE (aCS c hB))
def cO (x:aV):aV:=(x.1,F6.sub F6.zero x.2)
def n12 (x:aV):Q6:=F6.sub (F6.mul x.1 x.1) (F6.mul vE (F6.mul x.2 x.2))
def mE (x:aV):aV:=(F6.mul x.1 (iv6 (n12 x)),F6.mul (F6.sub F6.zero x.2) (iv6 (n12 x)))
def wH (x:aV):Fq:=sC (n6 (n12 x))
theorem QC (c:Bool) (x:aV) (y:aV):bP prog (TO c) qN (fun _=>true) f52 40 [.v (.fl (aQ x)),.v (.fl (aQ y))]=some ([],.one (.fl (aQ ((F6.add (F6.mul x.1 y.1) (F6.mul vE (F6.mul x.2 y.2)),F6.sub (F6.sub (F6.mul (F6.add x.1 x.2) (F6.add y.1 y.2)) (F6.mul x.1 y.1)) (F6.mul x.2 y.2)))))):=by kernel_rfl
theorem QP (x:aV) (y:aV):aD.mul x y=(F6.add (F6.mul x.1 y.1) (F6.mul vE (F6.mul x.2 y.2)),F6.sub (F6.sub (F6.mul (F6.add x.1 x.2) (F6.add y.1 y.2)) (F6.mul x.1 y.1)) (F6.mul x.2 y.2)):=by
 refine Prod.ext rfl ?_;exact aE F6 (aW F6 [x.1,x.2,y.1,y.2]) (Z0*Z3+Z1*Z2) ((Z0+Z1)*(Z2+Z3)-Z0*Z2-Z1*Z3) (by decide)
def wZ (c:Bool):Tab:=(TO c).add 52 (g2 qO qO (fun x y=>([],.one (.fl (aQ (aD.mul x y))))))
theorem CH (c:Bool) (hB:TabOk prog (pD c)):TabOk prog (wZ c):=(Af c hB).ad func52 (fS eW eW fun x y hp args w ha=>by show Good _ _ (.one (.fl (aQ (aD.mul x y)))) _ _; rw[QP x y]; exact aI aG (Af c hB) aO func52 (QC c x y) hp ha)
theorem WG (c:Bool) (x:aV):bP prog (wZ c) qN (fun _=>true) f53 40 [.v (.fl (aQ x))]=some ([],.one (.fl (aQ (cO x)))):=by kernel_rfl
def BU (c:Bool):Tab:=(wZ c).add 53 (g1 qO (fun x=>([],.one (.fl (aQ (cO x))))))
theorem GY (c:Bool) (hB:TabOk prog (pD c)):TabOk prog (BU c):=(CH c hB).ad func53 (bJ eW fun x hp args w ha=>aI aG (CH c hB) aO func53 (WG c x) hp ha)
theorem Er (c:Bool) (x:aV):bP prog (BU c) qN (fun _=>true) f36 40 [.v (.fl (aQ x))]=some ([],.one (.fl (aQ (x)))):=by kernel_rfl
def JZ (c:Bool):Tab:=(BU c).add 36 (g1 qO (fun x=>([],.one (.fl (aQ (x))))))
theorem MV (c:Bool) (hB:TabOk prog (pD c)):TabOk prog (JZ c):=(GY c hB).ad func36 (bJ eW fun x hp args w ha=>aI aG (GY c hB) aO func36 (Er c x) hp ha)
theorem Ft (c:Bool) (x:vJ):bP prog (JZ c) qN (fun _=>true) f50 40 [.v (.fl (vZ x))]=some ([],.one (.fl (aQ (hJ x)))):=by kernel_rfl
def KD (c:Bool):Tab:=(JZ c).add 50 (g1 Hk (fun x=>([],.one (.fl (aQ (hJ x))))))
theorem NA (c:Bool) (hB:TabOk prog (pD c)):TabOk prog (KD c):=(MV c hB).ad func50 (bJ xR fun x hp args w ha=>aI aG (MV c hB) aO func50 (Ft c x) hp ha)
theorem Uq (c:Bool)  : bP prog (KD c) qN (fun _=>true) f35 40 []=some ([],.one (.fl (aQ (aD.one)))):=by kernel_rfl
def EV (c:Bool):Tab:=(KD c).add 35 (g0 (.one (.fl (aQ (aD.one)))))
theorem IC (c:Bool) (hB:TabOk prog (pD c)):TabOk prog (EV c):=(NA c hB).ad func35 (lO fun w=>aI aG (NA c hB) aO func35 (Uq c ) trivial (args:=[]) trivial)
def Ik (c:Bool) (x:aV):List Prop×RV:=bif c then ([wH x≠F1.zero],.many [.fl (aQ (mE x)),.im (.int .i64 0)])else ([wH x=F1.zero],.many [.fl (aQ aD.zero),.im (.int .i64 22)])
theorem DF (x:aV):bP prog (EV true) qN (fun _=>true) f51 40 [.v (.fl (aQ x))]=some ([wH x≠F1.zero],.many [.fl (aQ (mE x)),.im (.int .i64 0)]):=by kernel_rfl
theorem zX (x:aV):bP prog (EV false) qN (fun _=>true) f51 40 [.v (.fl (aQ x))]=some ([wH x=F1.zero],.many [.fl (aQ aD.zero),.im (.int .i64 22)]):=by kernel_rfl
theorem Xa (c:Bool) (hB:TabOk prog (pD c)) (x:aV) (hp:aZ (Ik c x).1) (args:List Value) (w:World) (ha:bU w [.v (.fl (aQ x))] args):Good prog 51 (Ik c x).2 args w:=by
 cases c
 ·exact aI aG (IC false hB) aO func51 (zX x) hp ha
 ·exact aI aG (IC true hB) aO func51 (DF x) hp ha
def KA (c:Bool):Tab:=(EV c).add 51 (g1 qO (Ik c))
theorem MX (c:Bool) (hB:TabOk prog (pD c)):TabOk prog (KA c):=(IC c hB).ad func51 (bJ eW (Xa c hB))
theorem Vv (c:Bool) (x:vJ) (y:vJ):bP prog (KA c) qN (fun _=>true) f24 40 [.v (.fl (vZ x)),.v (.fl (vZ y))]=some ([],.one (.fl (aQ (aD.mul (hJ x) (hJ y))))):=by kernel_rfl
def EY (c:Bool):Tab:=(KA c).add 24 (g2 Hk Hk (fun x y=>([],.one (.fl (aQ (aD.mul (hJ x) (hJ y)))))))
theorem IH (c:Bool) (hB:TabOk prog (pD c)):TabOk prog (EY c):=(MX c hB).ad func24 (fS xR xR fun x y hp args w ha=>aI aG (MX c hB) aO func24 (Vv c x y) hp ha)
def aCR (c:Bool) (x:vJ):List Prop×RV:=bif c then ([wH (hJ x)≠F1.zero],.many [.fl (aQ (mE (hJ x))),.im (.int .i64 0)])else ([wH (hJ x)=F1.zero],.many [.fl (aQ aD.zero),.im (.int .i64 22)])
theorem FY (x:vJ):bP prog (EY true) qN (fun _=>true) f23 40 [.v (.fl (vZ x))]=some ([wH (hJ x)≠F1.zero],.many [.fl (aQ (mE (hJ x))),.im (.int .i64 0)]):=by kernel_rfl
theorem DG (x:vJ):bP prog (EY false) qN (fun _=>true) f23 40 [.v (.fl (vZ x))]=some ([wH (hJ x)=F1.zero],.many [.fl (aQ aD.zero),.im (.int .i64 22)]):=by kernel_rfl
theorem aCQ (c:Bool) (hB:TabOk prog (pD c)) (x:vJ) (hp:aZ (aCR c x).1) (args:List Value) (w:World) (ha:bU w [.v (.fl (vZ x))] args):Good prog 23 (aCR c x).2 args w:=by
 cases c
 ·exact aI aG (IH false hB) aO func23 (DG x) hp ha
 ·exact aI aG (IH true hB) aO func23 (FY x) hp ha
def UK (c:Bool):Tab:=(EY c).add 23 (g1 Hk (aCR c))
theorem Au (c:Bool) (hB:TabOk prog (pD c)):TabOk prog (UK c):=(IH c hB).ad func23 (bJ xR (aCQ c hB))
theorem Vu (c:Bool)  : bP prog (UK c) qN (fun _=>true) f16 40 []=some ([],.one (.fl (aQ (aD.one)))):=by kernel_rfl
def EX (c:Bool):Tab:=(UK c).add 16 (g0 (.one (.fl (aQ (aD.one)))))
theorem IG (c:Bool) (hB:TabOk prog (pD c)):TabOk prog (EX c):=(Au c hB).ad func16 (lO fun w=>aI aG (Au c hB) aO func16 (Vu c ) trivial (args:=[]) trivial)
def aCP (c:Bool) (x:N2):List Prop×RV:=bif c then ([sC (m2 x)≠F1.zero],.many [.fl (e2 (dW (m2 x))),.im (.int .i64 0)])else ([sC (m2 x)=F1.zero],.many [.fl (e2 F2.zero),.im (.int .i64 22)])
theorem LF (x:N2):bP prog (EX true) qN (fun _=>true) f248 40 [.v (.fl (q2 x))]=some ([sC (m2 x)≠F1.zero],.many [.fl (e2 (dW (m2 x))),.im (.int .i64 0)]):=by kernel_rfl
theorem FX (x:N2):bP prog (EX false) qN (fun _=>true) f248 40 [.v (.fl (q2 x))]=some ([sC (m2 x)=F1.zero],.many [.fl (e2 F2.zero),.im (.int .i64 22)]):=by kernel_rfl
theorem aCO (c:Bool) (hB:TabOk prog (pD c)) (x:N2) (hp:aZ (aCP c x).1) (args:List Value) (w:World) (ha:bU w [.v (.fl (q2 x))] args):Good prog 248 (aCP c x).2 args w:=by
 cases c
 ·exact aI aG (IG false hB) aO func248 (FX x) hp ha
 ·exact aI aG (IG true hB) aO func248 (LF x) hp ha
def Lj (c:Bool):Tab:=(EX c).add 248 (g1 Yw (aCP c))
theorem Oq (c:Bool) (hB:TabOk prog (pD c)):TabOk prog (Lj c):=(IG c hB).ad func248 (bJ oM (aCO c hB))
theorem aBf (c:Bool) (x:N2) (y:N2):bP prog (Lj c) qN (fun _=>true) f109 40 [.v (.fl (q2 x)),.v (.fl (q2 y))]=some ([],.one (.fl (e2 (F2.mul (m2 x) (m2 y))))):=by kernel_rfl
def Li (c:Bool):Tab:=(Lj c).add 109 (g2 Yw Yw (fun x y=>([],.one (.fl (e2 (F2.mul (m2 x) (m2 y)))))))
theorem Oo (c:Bool) (hB:TabOk prog (pD c)):TabOk prog (Li c):=(Oq c hB).ad func109 (fS oM oM fun x y hp args w ha=>aI aG (Oq c hB) aO func109 (aBf c x y) hp ha)
theorem aBe (c:Bool) (x:N2):bP prog (Li c) qN (fun _=>true) f66 40 [.v (.fl (q2 x))]=some ([],.one (.fl (e2 (F2.sub F2.zero (m2 x))))):=by kernel_rfl
def KN (c:Bool):Tab:=(Li c).add 66 (g1 Yw (fun x=>([],.one (.fl (e2 (F2.sub F2.zero (m2 x)))))))
theorem aJC (c:Bool) (hB:TabOk prog (pD c)):TabOk prog (KN c):=(Oo c hB).ad func66 (bJ oM fun x hp args w ha=>aI aG (Oo c hB) aO func66 (aBe c x) hp ha)
def Ju:Q2:=(fm 1,fm 0)
def JH:Q2:=(fm 8376118865763821496583973867626364092589906065868298776909617916018768340080,fm 16469823323077808223889137241176536799009286646108169935659301613961712198316)
def CU:Q2:=(fm 21575463638280843010398324269430826099269044274347216827212613867836435027261,fm 10307601595873709700152284273816112264069230130616436755625194854815875713954)
def Qt:Q2:=(fm 2821565182194536844548159561693502659359617185244120367078079554186484126554,fm 3505843767911556378687030309984248845540243509899259641013678093033130930403)
def Qr:Q2:=(fm 2581911344467009335267311115468803099551665605076196740867805258568234346338,fm 19937756971775647987995932169929341994314640652964949448313374472400716661030)
def fb5:Q2:=(fm 685108087231508774477564247770172212460312782337200605669322048753928464687,fm 8447204650696766136447902020341177575205426561248465145919723016860428151883)
def Tp:Fq:=fm 1
def Mc:Fq:=fm 21888242871839275220042445260109153167277707414472061641714758635765020556617
def To:Fq:=fm 21888242871839275220042445260109153167277707414472061641714758635765020556616
def Tn:Fq:=fm 21888242871839275222246405745257275088696311157297823662689037894645226208582
def Tm:Fq:=fm 2203960485148121921418603742825762020974279258880205651966
def Tl:Fq:=fm 2203960485148121921418603742825762020974279258880205651967
theorem aRj:Ju=F2.one:=by decide
theorem aOs:F2.mul (aL Ju) Ju=(Tp,F1.zero):=by decide
theorem aOq:F2.mul (aL JH) JH=(Mc,F1.zero):=by decide
theorem aOo:F2.mul (aL CU) CU=(To,F1.zero):=by decide
theorem aOm:F2.mul (aL Qt) Qt=(Tn,F1.zero):=by decide
theorem aOk:F2.mul (aL Qr) Qr=(Tm,F1.zero):=by decide
theorem aOi:F2.mul (aL fb5) fb5=(Tl,F1.zero):=by decide
def cV (x:aV):aV:=((F2.mul (aL x.1.1) Ju,F2.mul (aL x.1.2.1) CU,F2.mul (aL x.1.2.2) Qr),(F2.mul (aL x.2.1) JH,F2.mul (aL x.2.2.1) Qt,F2.mul (aL x.2.2.2) fb5))
def cU (x:aV):aV:=((qH x.1.1 Tp,qH x.1.2.1 To,qH x.1.2.2 Tm),(qH x.2.1 Mc,qH x.2.2.1 Tn,qH x.2.2.2 Tl))
theorem iD (x y:Q2):aL (F2.mul x y)=F2.mul (aL x) (aL y):=by
 refine Prod.ext ?_ ?_
 ·exact aE F1 (aW F1 [x.1,x.2,y.1,y.2]) (Z0*Z2+(-RE.one)*(Z1*Z3)) (Z0*Z2+(-RE.one)*((-Z1)*(-Z3))) (by decide)
 ·exact aE F1 (aW F1 [x.1,x.2,y.1,y.2]) (-(Z0*Z3+Z1*Z2)) (Z0*(-Z3)+(-Z1)*Z2) (by decide)
theorem kZ (x y:Q2):aL (F2.add x y)=F2.add (aL x) (aL y):=Prod.ext rfl (F1.neg_add' _ _)
theorem aWR (x:Q2):aL (aL x)=x:=Prod.ext rfl (F1.neg_neg _)
theorem eD (x:Q2) (k:Fq):qH x k=F2.mul x (k,F1.zero):=by
 refine Prod.ext ?_ ?_
 ·exact aE F1 (aW F1 [x.1,x.2,k]) (Z0*Z2) (Z0*Z2+(-RE.one)*(Z1*RE.zero)) (by decide)
 ·exact aE F1 (aW F1 [x.1,x.2,k]) (Z1*Z2) (Z0*RE.zero+Z1*Z2) (by decide)
theorem AO (c t:Q2) (k:Fq) (h:F2.mul (aL t) t=(k,F1.zero)):F2.mul (aL (F2.mul (aL c) t)) t=qH c k:=by
 rw[iD,aWR,F2.mul_assoc,h,←eD]
theorem Aa (x:aV):cV (cV x)=cU x:=by
 refine Prod.ext (Prod.ext (AO _ _ _ aOs) (Prod.ext (AO _ _ _ aOo) (AO _ _ _ aOk))) (Prod.ext (AO _ _ _ aOq) (Prod.ext (AO _ _ _ aOm) (AO _ _ _ aOi)))
theorem MC (c:Q2) (k l m:Fq):qH (qH (qH c k) l) m=qH c (F1.mul k (F1.mul l m)):=by
 refine Prod.ext ?_ ?_
 ·show F1.mul (F1.mul (F1.mul c.1 k) l) m=F1.mul c.1 (F1.mul k (F1.mul l m)); rw[F1.mul_assoc,F1.mul_assoc]
 ·show F1.mul (F1.mul (F1.mul c.2 k) l) m=F1.mul c.2 (F1.mul k (F1.mul l m)); rw[F1.mul_assoc,F1.mul_assoc]
theorem Ef (c:Q2):qH c F1.one=c:=Prod.ext (F1.mul_one _) (F1.mul_one _)
theorem Eg (c:Q2):qH c (F1.neg F1.one)=F2.sub F2.zero c:=by
 refine Prod.ext ?_ ?_
 ·show F1.mul c.1 (F1.neg F1.one)=F1.add F1.zero (F1.neg c.1); rw[F1.mul_neg,F1.mul_one,F1.zero_add]
 ·show F1.mul c.2 (F1.neg F1.one)=F1.add F1.zero (F1.neg c.2); rw[F1.mul_neg,F1.mul_one,F1.zero_add]
theorem aOt:F1.mul Tp (F1.mul Tp Tp)=F1.one:=by decide
theorem aOr:F1.mul Mc (F1.mul Mc Mc)=F1.neg F1.one:=by decide
theorem aOp:F1.mul To (F1.mul To To)=F1.one:=by decide
theorem aOn:F1.mul Tn (F1.mul Tn Tn)=F1.neg F1.one:=by decide
theorem aOl:F1.mul Tm (F1.mul Tm Tm)=F1.one:=by decide
theorem aOj:F1.mul Tl (F1.mul Tl Tl)=F1.neg F1.one:=by decide
theorem xI (x:aV):cU (cU (cU x))=cO x:=by
 refine Prod.ext (Prod.ext ?_ (Prod.ext ?_ ?_)) (Prod.ext ?_ (Prod.ext ?_ ?_))
 ·exact (MC _ _ _ _).trans (by rw[aOt,Ef]; rfl)
 ·exact (MC _ _ _ _).trans (by rw[aOp,Ef]; rfl)
 ·exact (MC _ _ _ _).trans (by rw[aOl,Ef]; rfl)
 ·exact (MC _ _ _ _).trans (by rw[aOr,Eg]; rfl)
 ·exact (MC _ _ _ _).trans (by rw[aOn,Eg]; rfl)
 ·exact (MC _ _ _ _).trans (by rw[aOj,Eg]; rfl)
def MO (z:Q6):Q6:=(F2.mul (aL z.1) Ju,F2.mul (aL z.2.1) CU,F2.mul (aL z.2.2) Qr)
theorem aRi:Qr=F2.mul CU CU:=by decide
theorem US:aL dM=F2.mul dM (F2.mul CU (F2.mul CU CU)):=by decide
theorem QZ (z:Q6):MO z=(aL z.1,F2.mul (aL z.2.1) CU,F2.mul (aL z.2.2) (F2.mul CU CU)):=by
 unfold MO;rw[aRj,F2.mul_one,aRi]
theorem uB (z y:Q6):MO (F6.add z y)=F6.add (MO z) (MO y):=by
 refine Prod.ext ?_ (Prod.ext ?_ ?_)
 ·show F2.mul (aL (F2.add z.1 y.1)) Ju=F2.add _ _; rw[kZ,F2.add_mul]; rfl
 ·show F2.mul (aL (F2.add z.2.1 y.2.1)) CU=F2.add _ _; rw[kZ,F2.add_mul]; rfl
 ·show F2.mul (aL (F2.add z.2.2 y.2.2)) Qr=F2.add _ _; rw[kZ,F2.add_mul]; rfl
theorem aJs {R:Type} (K:CR R) (a b c d e f t q:R):K.add (K.mul a d) (K.mul (K.mul q (K.mul t (K.mul t t))) (K.add (K.mul b f) (K.mul c e)))=K.add (K.mul a d) (K.mul q (K.add (K.mul (K.mul b t) (K.mul f (K.mul t t))) (K.mul (K.mul c (K.mul t t)) (K.mul e t)))) :=
 aE K (aW K [a,b,c,d,e,f,t,q]) (Z0*Z3+Z7*(Z6*(Z6*Z6))*(Z1*Z5+Z2*Z4)) (Z0*Z3+Z7*(Z1*Z6*(Z5*(Z6*Z6))+Z2*(Z6*Z6)*(Z4*Z6))) (by decide)
theorem aJr {R:Type} (K:CR R) (a b c d e f t q:R):K.mul (K.add (K.add (K.mul a e) (K.mul b d)) (K.mul (K.mul q (K.mul t (K.mul t t))) (K.mul c f))) t=K.add (K.add (K.mul a (K.mul e t)) (K.mul (K.mul b t) d)) (K.mul q (K.mul (K.mul c (K.mul t t)) (K.mul f (K.mul t t)))) :=
 aE K (aW K [a,b,c,d,e,f,t,q]) ((Z0*Z4+Z1*Z3+Z7*(Z6*(Z6*Z6))*(Z2*Z5))*Z6) (Z0*(Z4*Z6)+Z1*Z6*Z3+Z7*(Z2*(Z6*Z6)*(Z5*(Z6*Z6)))) (by decide)
theorem aJq {R:Type} (K:CR R) (a b c d e f t:R):K.mul (K.add (K.add (K.mul a f) (K.mul b e)) (K.mul c d)) (K.mul t t)=K.add (K.add (K.mul a (K.mul f (K.mul t t))) (K.mul (K.mul b t) (K.mul e t))) (K.mul (K.mul c (K.mul t t)) d) :=
 aE K (aW K [a,b,c,d,e,f,t]) ((Z0*Z5+Z1*Z4+Z2*Z3)*(Z6*Z6)) (Z0*(Z5*(Z6*Z6))+Z1*Z6*(Z4*Z6)+Z2*(Z6*Z6)*Z3) (by decide)
theorem oI (z y:Q6):MO (F6.mul z y)=F6.mul (MO z) (MO y):=by
 rw[QZ,QZ,QZ];refine Prod.ext ?_ (Prod.ext ?_ ?_)
 ·show aL (F2.add (F2.mul z.1 y.1) (F2.mul dM (F2.add (F2.mul z.2.1 y.2.2) (F2.mul z.2.2 y.2.1))))=_;rw[kZ,iD,iD,kZ,iD,iD,US];exact aJs F2 _ _ _ _ _ _ _ _
 ·show F2.mul (aL (F2.add (F2.add (F2.mul z.1 y.2.1) (F2.mul z.2.1 y.1)) (F2.mul dM (F2.mul z.2.2 y.2.2)))) CU=_;rw[kZ,kZ,iD,iD,iD,iD,US];exact aJr F2 _ _ _ _ _ _ _ _
 ·show F2.mul (aL (F2.add (F2.add (F2.mul z.1 y.2.2) (F2.mul z.2.1 y.2.1)) (F2.mul z.2.2 y.1))) (F2.mul CU CU)=_;rw[kZ,kZ,iD,iD,iD];exact aJq F2 _ _ _ _ _ _ _
def tau:Q6:=(JH,F2.zero,F2.zero)
theorem Pa (z:Q6) (k:Q2):F6.mul z (k,F2.zero,F2.zero)=s6 z k:=by
 show (F2.add (F2.mul z.1 k) (F2.mul dM (F2.add (F2.mul z.2.1 F2.zero) (F2.mul z.2.2 F2.zero))),F2.add (F2.add (F2.mul z.1 F2.zero) (F2.mul z.2.1 k)) (F2.mul dM (F2.mul z.2.2 F2.zero)),F2.add (F2.add (F2.mul z.1 F2.zero) (F2.mul z.2.1 F2.zero)) (F2.mul z.2.2 k))=_;simp only[F2.mul_zero,F2.add_zero,F2.zero_add];rfl
theorem aWm:Qt=F2.mul CU JH:=by decide
theorem aWl:fb5=F2.mul Qr JH:=by decide
theorem aWo:JH=F2.mul Ju JH:=by decide
theorem qT (x:aV):cV x=(MO x.1,F6.mul (MO x.2) tau):=by
 refine Prod.ext rfl ?_;rw[show tau=(JH,F2.zero,F2.zero)from rfl,Pa];refine Prod.ext ?_ (Prod.ext ?_ ?_)
 ·show F2.mul (aL x.2.1) JH=F2.mul (F2.mul (aL x.2.1) Ju) JH; rw[F2.mul_assoc,←aWo]
 ·show F2.mul (aL x.2.2.1) Qt=F2.mul (F2.mul (aL x.2.2.1) CU) JH; rw[F2.mul_assoc,←aWm]
 ·show F2.mul (aL x.2.2.2) fb5=F2.mul (F2.mul (aL x.2.2.2) Qr) JH; rw[F2.mul_assoc,←aWl]
theorem aUT:MO vE=F6.mul vE (F6.mul tau tau):=by decide
theorem Nl {R:Type} (K:CR R) (a b c d v t:R):K.add (K.mul a c) (K.mul (K.mul v (K.mul t t)) (K.mul b d))=K.add (K.mul a c) (K.mul v (K.mul (K.mul b t) (K.mul d t)))∧K.mul (K.add (K.mul a d) (K.mul b c)) t=K.add (K.mul a (K.mul d t)) (K.mul (K.mul b t) c) :=
 ⟨aE K (aW K [a,b,c,d,v,t]) (Z0*Z2+Z4*(Z5*Z5)*(Z1*Z3)) (Z0*Z2+Z4*(Z1*Z5*(Z3*Z5))) (by decide),
  aE K (aW K [a,b,c,d,t]) ((Z0*Z3+Z1*Z2)*Z4) (Z0*(Z3*Z4)+Z1*Z4*Z2) (by decide)⟩
theorem nI (x y:aV):cV (aD.mul x y)=aD.mul (cV x) (cV y):=by
 rw[qT,qT,qT];refine Prod.ext ?_ ?_
 ·show MO (F6.add (F6.mul x.1 y.1) (F6.mul vE (F6.mul x.2 y.2)))=_;rw[uB,oI,oI,oI,aUT];exact (Nl F6 _ _ _ _ _ _).1
 ·show F6.mul (MO (F6.add (F6.mul x.1 y.2) (F6.mul x.2 y.1))) tau=_;rw[uB,oI,oI];exact (Nl F6 _ _ _ _ vE _).2
theorem pG (x y:aV):cU (aD.mul x y)=aD.mul (cU x) (cU y):=by rw[←Aa,←Aa,←Aa,nI,nI]
theorem JQ (x y:aV):cO (aD.mul x y)=aD.mul (cO x) (cO y):=by simp only[←xI,pG]
end Go.Proofs.YtjkpglhlmknciaaGreat.Ex
namespace Go.Proofs.YtjkpglhlmknciaaGreat
open Go.Proofs.Tryz
theorem aX:eJ 2:=aS 2 1 (by decide) (by decide) (by kernel_rfl)
theorem fQ:eJ 3:=aS 3 1 (by decide) (by decide) (by kernel_rfl)
theorem QS:eJ 13:=aS 13 3 (by decide) (by decide) (by kernel_rfl)
theorem aBG:eJ 29:=aS 29 5 (by decide) (by decide) (by kernel_rfl)
theorem aOW:eJ 67:=aS 67 8 (by decide) (by decide) (by kernel_rfl)
theorem Mv:eJ 229:=aS 229 15 (by decide) (by decide) (by kernel_rfl)
theorem aIV:eJ 311:=aS 311 17 (by decide) (by decide) (by kernel_rfl)
theorem QR:eJ 983:=aS 983 31 (by decide) (by decide) (by kernel_rfl)
theorem MK:eJ 11003:=aS 11003 104 (by decide) (by decide) (by kernel_rfl)
theorem QT:eJ 11:=aS 11 3 (by decide) (by decide) (by kernel_rfl)
theorem aBD:eJ 3691:=aS 3691 60 (by decide) (by decide) (by kernel_rfl)
theorem aBC:eJ 4999:=aS 4999 70 (by decide) (by decide) (by kernel_rfl)
theorem GC:Root 405928799 22:=by
 refine bF (l:=[2,11,3691,4999]) (by kernel_rfl) fun q hq => ?_
 simp only[List.mem_cons,List.not_mem_nil,or_false]at hq
 rcases hq with rfl|rfl|rfl|rfl
 ·exact aX
 ·exact QT
 ·exact aBD
 ·exact aBC
theorem vA:eJ 405928799:=GC.prm
theorem lH:eJ 5:=aS 5 2 (by decide) (by decide) (by kernel_rfl)
theorem GK:eJ 7:=aS 7 2 (by decide) (by decide) (by kernel_rfl)
theorem AJ:eJ 19:=aS 19 4 (by decide) (by decide) (by kernel_rfl)
theorem aPb:eJ 37:=aS 37 6 (by decide) (by decide) (by kernel_rfl)
theorem aIX:eJ 233:=aS 233 15 (by decide) (by decide) (by kernel_rfl)
theorem YM:Root 327599 19:=by
 refine bF (l:=[2,19,37,233]) (by kernel_rfl) fun q hq => ?_
 simp only[List.mem_cons,List.not_mem_nil,or_false]at hq
 rcases hq with rfl|rfl|rfl|rfl
 ·exact aX
 ·exact AJ
 ·exact aPb
 ·exact aIX
theorem Hv:eJ 327599:=YM.prm
theorem AE:Root 11465965001 3:=by
 refine bF (l:=[2,2,2,5,5,5,5,7,327599]) (by kernel_rfl) fun q hq => ?_
 simp only[List.mem_cons,List.not_mem_nil,or_false]at hq
 rcases hq with rfl|rfl|rfl|rfl|rfl|rfl|rfl|rfl|rfl
 ·exact aX
 ·exact aX
 ·exact aX
 ·exact lH
 ·exact lH
 ·exact lH
 ·exact lH
 ·exact GK
 ·exact Hv
theorem DL:eJ 11465965001:=AE.prm
theorem aIW:eJ 271:=aS 271 16 (by decide) (by decide) (by kernel_rfl)
theorem QK:Root 1853641 17:=by
 refine bF (l:=[2,2,2,3,3,5,19,271]) (by kernel_rfl) fun q hq => ?_
 simp only[List.mem_cons,List.not_mem_nil,or_false]at hq
 rcases hq with rfl|rfl|rfl|rfl|rfl|rfl|rfl|rfl
 ·exact aX
 ·exact aX
 ·exact aX
 ·exact fQ
 ·exact fQ
 ·exact lH
 ·exact AJ
 ·exact aIW
theorem ZF:eJ 1853641:=QK.prm
theorem aBI:eJ 17:=aS 17 4 (by decide) (by decide) (by kernel_rfl)
theorem aJc:eJ 109:=aS 109 10 (by decide) (by decide) (by kernel_rfl)
theorem aBK:eJ 1231:=aS 1231 35 (by decide) (by decide) (by kernel_rfl)
theorem QJ:Root 4562087 5:=by
 refine bF (l:=[2,17,109,1231]) (by kernel_rfl) fun q hq => ?_
 simp only[List.mem_cons,List.not_mem_nil,or_false]at hq
 rcases hq with rfl|rfl|rfl|rfl
 ·exact aX
 ·exact aBI
 ·exact aJc
 ·exact aBK
theorem ZE:eJ 4562087:=QJ.prm
theorem aOV:eJ 73:=aS 73 8 (by decide) (by decide) (by kernel_rfl)
theorem aOU:eJ 89:=aS 89 9 (by decide) (by decide) (by kernel_rfl)
theorem Wl:eJ 13327:=aS 13327 115 (by decide) (by decide) (by kernel_rfl)
theorem GD:Root 173171039 13:=by
 refine bF (l:=[2,73,89,13327]) (by kernel_rfl) fun q hq => ?_
 simp only[List.mem_cons,List.not_mem_nil,or_false]at hq
 rcases hq with rfl|rfl|rfl|rfl
 ·exact aX
 ·exact aOV
 ·exact aOU
 ·exact Wl
theorem LO:eJ 173171039:=GD.prm
theorem aPa:eJ 41:=aS 41 6 (by decide) (by decide) (by kernel_rfl)
theorem aIO:eJ 911:=aS 911 30 (by decide) (by decide) (by kernel_rfl)
theorem aBE:eJ 3557:=aS 3557 59 (by decide) (by decide) (by kernel_rfl)
theorem DH:Root 1263766531 10:=by
 refine bF (l:=[2,3,5,13,911,3557]) (by kernel_rfl) fun q hq => ?_
 simp only[List.mem_cons,List.not_mem_nil,or_false]at hq
 rcases hq with rfl|rfl|rfl|rfl|rfl|rfl
 ·exact aX
 ·exact fQ
 ·exact lH
 ·exact QS
 ·exact aIO
 ·exact aBE
theorem GL:eJ 1263766531:=DH.prm
theorem AB:Root 35385462869 2:=by
 refine bF (l:=[2,2,7,1263766531]) (by kernel_rfl) fun q hq => ?_
 simp only[List.mem_cons,List.not_mem_nil,or_false]at hq
 rcases hq with rfl|rfl|rfl|rfl
 ·exact aX
 ·exact aX
 ·exact GK
 ·exact GL
theorem DI:eJ 35385462869:=AB.prm
theorem rY:Root 2480874801745591 6:=by
 refine bF (l:=[2,3,3,5,19,41,35385462869]) (by kernel_rfl) fun q hq => ?_
 simp only[List.mem_cons,List.not_mem_nil,or_false]at hq
 rcases hq with rfl|rfl|rfl|rfl|rfl|rfl|rfl
 ·exact aX
 ·exact fQ
 ·exact fQ
 ·exact lH
 ·exact AJ
 ·exact aPa
 ·exact DI
theorem sQ:eJ 2480874801745591:=rY.prm
theorem fI:Root 13427688667394608761327070753331941386769 17:=by
 refine bF (l:=[2,2,2,2,3,7,11,1853641,4562087,173171039,2480874801745591]) (by kernel_rfl) fun q hq => ?_
 simp only[List.mem_cons,List.not_mem_nil,or_false]at hq
 rcases hq with rfl|rfl|rfl|rfl|rfl|rfl|rfl|rfl|rfl|rfl|rfl
 ·exact aX
 ·exact aX
 ·exact aX
 ·exact aX
 ·exact fQ
 ·exact GK
 ·exact QT
 ·exact ZF
 ·exact ZE
 ·exact LO
 ·exact sQ
theorem fN:eJ 13427688667394608761327070753331941386769:=fI.prm
theorem aBm:Root 21888242871839275222246405745257275088696311157297823662689037894645226208583 3:=by
 refine bF (l:=[2,3,3,13,29,67,229,311,983,11003,405928799,11465965001,13427688667394608761327070753331941386769]) (by kernel_rfl) fun q hq => ?_
 simp only[List.mem_cons,List.not_mem_nil,or_false]at hq
 rcases hq with rfl|rfl|rfl|rfl|rfl|rfl|rfl|rfl|rfl|rfl|rfl|rfl|rfl
 ·exact aX
 ·exact fQ
 ·exact fQ
 ·exact QS
 ·exact aBG
 ·exact aOW
 ·exact Mv
 ·exact aIV
 ·exact QR
 ·exact MK
 ·exact vA
 ·exact DL
 ·exact fN
theorem aIT:eJ 449:=aS 449 21 (by decide) (by decide) (by kernel_rfl)
theorem YO:Root 237073 15:=by
 refine bF (l:=[2,2,2,2,3,11,449]) (by kernel_rfl) fun q hq => ?_
 simp only[List.mem_cons,List.not_mem_nil,or_false]at hq
 rcases hq with rfl|rfl|rfl|rfl|rfl|rfl|rfl
 ·exact aX
 ·exact aX
 ·exact aX
 ·exact aX
 ·exact fQ
 ·exact QT
 ·exact aIT
theorem Hy:eJ 237073:=YO.prm
theorem Mw:eJ 107:=aS 107 10 (by decide) (by decide) (by kernel_rfl)
theorem aIS:eJ 661:=aS 661 25 (by decide) (by decide) (by kernel_rfl)
theorem Wh:eJ 93001:=aS 93001 304 (by decide) (by decide) (by kernel_rfl)
theorem AD:Root 12048837557 2:=by
 refine bF (l:=[2,2,7,7,661,93001]) (by kernel_rfl) fun q hq => ?_
 simp only[List.mem_cons,List.not_mem_nil,or_false]at hq
 rcases hq with rfl|rfl|rfl|rfl|rfl|rfl
 ·exact aX
 ·exact aX
 ·exact GK
 ·exact GK
 ·exact aIS
 ·exact Wh
theorem DK:eJ 12048837557:=AD.prm
theorem vT:Root 5156902474397 2:=by
 refine bF (l:=[2,2,107,12048837557]) (by kernel_rfl) fun q hq => ?_
 simp only[List.mem_cons,List.not_mem_nil,or_false]at hq
 rcases hq with rfl|rfl|rfl|rfl
 ·exact aX
 ·exact aX
 ·exact Mw
 ·exact DK
theorem xY:eJ 5156902474397:=vT.prm
theorem rZ:Root 1670836401704629 2:=by
 refine bF (l:=[2,2,3,3,3,3,5156902474397]) (by kernel_rfl) fun q hq => ?_
 simp only[List.mem_cons,List.not_mem_nil,or_false]at hq
 rcases hq with rfl|rfl|rfl|rfl|rfl|rfl|rfl
 ·exact aX
 ·exact aX
 ·exact fQ
 ·exact fQ
 ·exact fQ
 ·exact fQ
 ·exact xY
theorem sR:eJ 1670836401704629:=rZ.prm
theorem aIQ:eJ 823:=aS 823 28 (by decide) (by decide) (by kernel_rfl)
theorem Wj:eJ 41927:=aS 41927 204 (by decide) (by decide) (by kernel_rfl)
theorem QM:Root 1593227 2:=by
 refine bF (l:=[2,19,41927]) (by kernel_rfl) fun q hq => ?_
 simp only[List.mem_cons,List.not_mem_nil,or_false]at hq
 rcases hq with rfl|rfl|rfl
 ·exact aX
 ·exact AJ
 ·exact Wj
theorem ZI:eJ 1593227:=QM.prm
theorem aBB:eJ 83:=aS 83 9 (by decide) (by decide) (by kernel_rfl)
theorem aIU:eJ 379:=aS 379 19 (by decide) (by decide) (by kernel_rfl)
theorem ZG:eJ 1637:=aS 1637 40 (by decide) (by decide) (by kernel_rfl)
theorem aIP:eJ 853:=aS 853 29 (by decide) (by decide) (by kernel_rfl)
theorem GB:Root 639533339 2:=by
 refine bF (l:=[2,229,853,1637]) (by kernel_rfl) fun q hq => ?_
 simp only[List.mem_cons,List.not_mem_nil,or_false]at hq
 rcases hq with rfl|rfl|rfl|rfl
 ·exact aX
 ·exact Mv
 ·exact aIP
 ·exact ZG
theorem LN:eJ 639533339:=GB.prm
theorem qM:Root 65865678001877903 5:=by
 refine bF (l:=[2,83,379,1637,639533339]) (by kernel_rfl) fun q hq => ?_
 simp only[List.mem_cons,List.not_mem_nil,or_false]at hq
 rcases hq with rfl|rfl|rfl|rfl|rfl
 ·exact aX
 ·exact aBB
 ·exact aIU
 ·exact ZG
 ·exact LN
theorem sA:eJ 65865678001877903:=qM.prm
theorem iW:Root 13818364434197438864469338081 3:=by
 refine bF (l:=[2,2,2,2,2,5,823,1593227,65865678001877903]) (by kernel_rfl) fun q hq => ?_
 simp only[List.mem_cons,List.not_mem_nil,or_false]at hq
 rcases hq with rfl|rfl|rfl|rfl|rfl|rfl|rfl|rfl|rfl
 ·exact aX
 ·exact aX
 ·exact aX
 ·exact aX
 ·exact aX
 ·exact lH
 ·exact aIQ
 ·exact ZI
 ·exact sA
theorem jM:eJ 13818364434197438864469338081:=iW.prm
theorem aBl:Root 21888242871839275222246405745257275088548364400416034343698204186575808495617 5:=by
 refine bF (l:=[2,2,2,2,2,2,2,2,2,2,2,2,2,2,2,2,2,2,2,2,2,2,2,2,2,2,2,2,3,3,13,29,983,11003,237073,405928799,1670836401704629,13818364434197438864469338081]) (by kernel_rfl) fun q hq => ?_
 simp only[List.mem_cons,List.not_mem_nil,or_false]at hq
 rcases hq with rfl|rfl|rfl|rfl|rfl|rfl|rfl|rfl|rfl|rfl|rfl|rfl|rfl|rfl|rfl|rfl|rfl|rfl|rfl|rfl|rfl|rfl|rfl|rfl|rfl|rfl|rfl|rfl|rfl|rfl|rfl|rfl|rfl|rfl|rfl|rfl|rfl|rfl
 ·exact aX
 ·exact aX
 ·exact aX
 ·exact aX
 ·exact aX
 ·exact aX
 ·exact aX
 ·exact aX
 ·exact aX
 ·exact aX
 ·exact aX
 ·exact aX
 ·exact aX
 ·exact aX
 ·exact aX
 ·exact aX
 ·exact aX
 ·exact aX
 ·exact aX
 ·exact aX
 ·exact aX
 ·exact aX
 ·exact aX
 ·exact aX
 ·exact aX
 ·exact aX
 ·exact aX
 ·exact aX
 ·exact fQ
 ·exact fQ
 ·exact QS
 ·exact aBG
 ·exact QR
 ·exact MK
 ·exact Hy
 ·exact vA
 ·exact sR
 ·exact jM
theorem aLN:eJ 21888242871839275222246405745257275088548364400416034343698204186575808495617:=aBl.prm
section
variable {M g:Nat}
theorem aBR (a n:Nat):(a%M)^n%M=a^n%M:=(Nat.pow_mod a n M).symm
theorem AT (a b:Nat):a%M*b%M=a*b%M:=by rw[Nat.mul_mod,Nat.mod_mod,←Nat.mul_mod]
theorem NN (a b:Nat):a*(b%M)%M=a*b%M:=by rw[Nat.mul_mod,Nat.mod_mod,←Nat.mul_mod]
theorem aEH (hr:Root M g) {a:Nat} (h0:0<a) (h:a<M):a^(M-1)%M=1:=by
 obtain⟨h1,hg,_,hs⟩:=hr;obtain⟨k,hk,rfl⟩:=hs a h0 h;rw[aBR,←Nat.pow_mul,Nat.mul_comm,sS h1 hg]
theorem Py (hr:Root M g) {a:Nat} (h2:2≤M) (h0:0<a) (h:a<M):a*(a^(M-2)%M)%M=1:=by
 rw[NN,←Nat.pow_succ',show (M-2).succ=M-1 by omega,aEH hr h0 h]
theorem aFB (hr:Root M g) {a b c:Nat} (h2:2≤M) (h0:0<a) (h:a<M) (e:a*b%M=a*c%M):b%M=c%M:=by
 have hi:=Py hr h2 h0 h;have key:∀x,a^(M-2)%M*(a*x%M)%M=x%M:=fun x=>by
  rw[NN,←Nat.mul_assoc,Nat.mul_mod,Nat.mul_comm _ a,hi,Nat.one_mul,Nat.mod_mod]
 rw[←key b,e,key c]
theorem Ze (hr:Root M g) {a b:Nat} (h2:2≤M) (h0:0<a) (h:a<M) (e:a*b%M=0):b%M=0:=by
 have:=aFB hr (c:=0) h2 h0 h (by rw[e,Nat.mul_zero,Nat.zero_mod]);rw[this,Nat.zero_mod]
theorem mul_ne (hr:Root M g) {a b:Nat} (h2:2≤M) (ha0:0<a) (ha:a<M) (hb0:0<b) (hb:b<M):0<a*b%M:=by
 rcases Nat.eq_zero_or_pos (a*b%M)with h|h
 ·have:=Ze hr h2 ha0 ha h;rw[Nat.mod_eq_of_lt hb]at this; omega
 ·exact h
end
theorem Js:Root FP.M 3:=by
 rw[show FP.M=21888242871839275222246405745257275088696311157297823662689037894645226208583 from by decide];exact aBm
end Go.Proofs.YtjkpglhlmknciaaGreat
namespace Go.Proofs.YtjkpglhlmknciaaGreat.Ex
open Go.Proofs.Tryz
def Fld {R:Type} (K:CR R):Prop:=K.one≠K.zero∧∀x,x≠K.zero→∃y,K.mul x y=K.one
theorem Fld.zd {R:Type} {K:CR R} (h:Fld K) {a b:R} (e:K.mul a b=K.zero) (ha:a≠K.zero):b=K.zero:=by
 obtain⟨y,hy⟩:=h.2 a ha;have:=congrArg (K.mul y) e
 rwa [←K.mul_assoc,K.mul_comm y,hy,K.one_mul,K.mul_zero]at this
theorem xM {R:Type} {K:CR R} (h:Fld K) {a:R} (e:K.mul a a=K.zero):a=K.zero:=by
 by_cases ha:a=K.zero
 ·exact ha
 ·exact h.zd e ha
theorem aGx:F1.one≠F1.zero:=fun h=>by have:=congrArg Fin.val h; exact absurd this (by decide)
theorem aWk {x:Fq} (h:x≠F1.zero):0<x.1:=by
 rcases Nat.eq_zero_or_pos x.1 with h0|h0
 ·exact absurd (Fin.ext h0:x=F1.zero) h
 ·exact h0
theorem JE {x:Fq} (h:x≠F1.zero):F1.mul x (iC x)=F1.one:=by
 apply Fin.ext;show x.1*(iC x).1%FP.M=1;rw[By,Nat.one_mul];exact Py Js (by decide) (aWk h) x.2
theorem aMG:Fld F1:=⟨aGx,fun x h=>⟨_,JE h⟩⟩
theorem Xx {n:Nat} (h0:0<n) (h:n<FP.M):n^(FP.M-1)%FP.M=1:=aEH Js h0 h
def sU:Nat:=(FP.M-1)/3
def GQ:Nat:=(FP.M-1)/2
theorem VK:3*sU=FP.M-1:=by decide
theorem SE:2*GQ=FP.M-1:=by decide
theorem aFj:82^sU%FP.M≠1:=by
 rw[←CF FP.M 256 82 sU (by decide)];exact of_decide_eq_true (by kernel_rfl)
theorem aEf:82^GQ%FP.M≠1:=by
 rw[←CF FP.M 256 82 GQ (by decide)];exact of_decide_eq_true (by kernel_rfl)
theorem aJI:(FP.M-1)^GQ%FP.M≠1:=by
 rw[←CF FP.M 256 (FP.M-1) GQ (by decide)];exact of_decide_eq_true (by kernel_rfl)
theorem aJH (n:Fq):F1.mul n (F1.mul n n)≠fm 82:=fun h=>by
 have hv:n.1^3%FP.M=82:=by
  have:=congrArg Fin.val h;have e:n.1*(n.1*n.1%FP.M)%FP.M=82%FP.M:=this;rw[Nat.mul_mod_mod,←Nat.mul_assoc,show n.1*n.1*n.1=n.1^3 by rw[Nat.pow_succ,Nat.pow_two]]at e;rw[e]; decide
 have h0:0<n.1:=by
  rcases Nat.eq_zero_or_pos n.1 with h0|h0
  ·rw[h0]at hv; exact absurd hv (by decide)
  ·exact h0
 have:=Xx h0 n.2;rw[←VK,Nat.pow_mul,Nat.pow_mod,hv]at this;exact aFj this
theorem aVg (n:Fq):F1.mul n n≠fm 82:=fun h=>by
 have hv:n.1^2%FP.M=82:=by
  have:=congrArg Fin.val h;have e:n.1*n.1%FP.M=82%FP.M:=this;rw[Nat.pow_two,e]; decide
 have h0:0<n.1:=by
  rcases Nat.eq_zero_or_pos n.1 with h0|h0
  ·rw[h0]at hv; exact absurd hv (by decide)
  ·exact h0
 have:=Xx h0 n.2;rw[←SE,Nat.pow_mul,Nat.pow_mod,hv]at this;exact aEf this
theorem aPP (n:Fq):F1.mul n n≠F1.neg F1.one:=fun h=>by
 have hv:n.1^2%FP.M=FP.M-1:=by
  have:=congrArg Fin.val h;have e:n.1*n.1%FP.M=(0+FP.M-1)%FP.M:=this;rw[Nat.pow_two,e]; decide
 have h0:0<n.1:=by
  rcases Nat.eq_zero_or_pos n.1 with h0|h0
  ·rw[h0]at hv; exact absurd hv (by decide)
  ·exact h0
 have:=Xx h0 n.2;rw[←SE,Nat.pow_mul,Nat.pow_mod,hv]at this;exact aJI this
theorem aFb {R:Type} {K:CR R} (h:Fld K) {a b q:R} (hb:b≠K.zero) (e:K.mul a a=K.mul q (K.mul b b)):∃t,K.mul t t=q:=by
 obtain⟨y,hy⟩:=h.2 b hb;refine⟨K.mul a y,?_⟩;have h1:K.mul (K.mul a y) (K.mul a y)=K.mul (K.mul a a) (K.mul y y):=aE K (aW K [a,y]) (Z0*Z1*(Z0*Z1)) (Z0*Z0*(Z1*Z1)) (by decide);have h2:K.mul (K.mul q (K.mul b b)) (K.mul y y)=K.mul q (K.mul (K.mul b y) (K.mul b y)):=aE K (aW K [q,b,y]) (Z0*(Z1*Z1)*(Z2*Z2)) (Z0*(Z1*Z2*(Z1*Z2))) (by decide);rw[h1,e,h2,hy,K.mul_one,K.mul_one]
theorem aFc {R:Type} {K:CR R} (h:Fld K) {a b q:R} (hb:b≠K.zero) (e:K.mul a (K.mul a a)=K.mul q (K.mul b (K.mul b b))):∃t,K.mul t (K.mul t t)=q:=by
 obtain⟨y,hy⟩:=h.2 b hb;refine⟨K.mul a y,?_⟩;have h1:K.mul (K.mul a y) (K.mul (K.mul a y) (K.mul a y))=K.mul (K.mul a (K.mul a a)) (K.mul y (K.mul y y)):=aE K (aW K [a,y]) (Z0*Z1*(Z0*Z1*(Z0*Z1))) (Z0*(Z0*Z0)*(Z1*(Z1*Z1))) (by decide);have h2:K.mul (K.mul q (K.mul b (K.mul b b))) (K.mul y (K.mul y y))=K.mul q (K.mul (K.mul b y) (K.mul (K.mul b y) (K.mul b y))):=aE K (aW K [q,b,y]) (Z0*(Z1*(Z1*Z1))*(Z2*(Z2*Z2))) (Z0*(Z1*Z2*(Z1*Z2*(Z1*Z2)))) (by decide);rw[h1,e,h2,hy,K.mul_one,K.mul_one,K.mul_one]
theorem pT {x:Q2} (h:sC x=F1.zero):x=F2.zero:=by
 have h1:F1.mul x.1 x.1=F1.mul (F1.neg F1.one) (F1.mul x.2 x.2):=by
  rw[F1.neg_mul,F1.one_mul];apply F1.add_cancel (a:=F1.mul x.2 x.2);rw[F1.add_neg,F1.add_comm];exact h
 by_cases hb:x.2=F1.zero
 ·rw[hb,F1.mul_zero,F1.mul_zero]at h1;exact Prod.ext (xM aMG h1) hb
 ·obtain⟨t,ht⟩:=aFb aMG hb h1;exact absurd ht (aPP t)
theorem UM {x:Q2} (h:sC x≠F1.zero):F2.mul x (dW x)=F2.one:=by
 have hi:=JE h;refine Prod.ext ?_ ?_
 ·show F1.add (F1.mul x.1 (F1.mul x.1 (iC (sC x)))) (F1.mul (F1.neg F1.one) (F1.mul x.2 (F1.mul (F1.neg x.2) (iC (sC x)))))=F1.one;refine Eq.trans ?_ hi;exact aE F1 (aW F1 [x.1,x.2,iC (sC x)]) (Z0*(Z0*Z2)+(-RE.one)*(Z1*((-Z1)*Z2))) ((Z0*Z0+Z1*Z1)*Z2) (by decide)
 ·show F1.add (F1.mul x.1 (F1.mul (F1.neg x.2) (iC (sC x)))) (F1.mul x.2 (F1.mul x.1 (iC (sC x))))=F1.zero;exact aE F1 (aW F1 [x.1,x.2,iC (sC x)]) (Z0*((-Z1)*Z2)+Z1*(Z0*Z2)) .zero (by decide)
theorem BJ:Fld F2:=⟨fun h=>aGx (congrArg Prod.fst h),fun x h=>⟨_,UM fun e=>h (pT e)⟩⟩
theorem yJ (x y:Q2):sC (F2.mul x y)=F1.mul (sC x) (sC y) :=
 aE F1 (aW F1 [x.1,x.2,y.1,y.2]) ((Z0*Z2+(-RE.one)*(Z1*Z3))*(Z0*Z2+(-RE.one)*(Z1*Z3))+(Z0*Z3+Z1*Z2)*(Z0*Z3+Z1*Z2))
  ((Z0*Z0+Z1*Z1)*(Z2*Z2+Z3*Z3)) (by decide)
theorem aMm:sC dM=fm 82:=by decide
theorem Lq (t:Q2):F2.mul t (F2.mul t t)≠dM:=fun h=>by
 have:=congrArg sC h;rw[yJ,yJ,aMm]at this;exact aJH _ this
theorem aTm (t:Q2):F2.mul t t≠dM:=fun h=>by
 have:=congrArg sC h;rw[yJ,aMm]at this;exact aVg _ this
theorem aLo (x:Q6) (k:Q2):F6.mul x (s6 (oA x) k)=(F2.mul (n6 x) k,F2.zero,F2.zero):=by
 refine Prod.ext ?_ (Prod.ext ?_ ?_)
 ·exact aE F2 (aW F2 [x.1,x.2.1,x.2.2,dM,k])
   (Z0*((Z0*Z0-Z1*Z2*Z3)*Z4)+Z3*(Z1*((Z1*Z1-Z0*Z2)*Z4)+Z2*((Z2*Z2*Z3-Z0*Z1)*Z4)))
   ((Z0*(Z0*Z0-Z1*Z2*Z3)+Z3*(Z1*(Z1*Z1-Z0*Z2)+Z2*(Z2*Z2*Z3-Z0*Z1)))*Z4) (by decide)
 ·exact aE F2 (aW F2 [x.1,x.2.1,x.2.2,dM,k])
   (Z0*((Z2*Z2*Z3-Z0*Z1)*Z4)+Z1*((Z0*Z0-Z1*Z2*Z3)*Z4)+Z3*(Z2*((Z1*Z1-Z0*Z2)*Z4))) .zero (by decide)
 ·exact aE F2 (aW F2 [x.1,x.2.1,x.2.2,dM,k])
   (Z0*((Z1*Z1-Z0*Z2)*Z4)+Z1*((Z2*Z2*Z3-Z0*Z1)*Z4)+Z2*((Z0*Z0-Z1*Z2*Z3)*Z4)) .zero (by decide)
theorem IK {R:Type} {K:CR R} {a b:R} (h:K.add a (K.neg b)=K.zero):a=b:=by
 have h2:K.add (K.add a (K.neg b)) b=K.add K.zero b:=congrArg (fun x=>K.add x b) h
 rwa [K.add_assoc,K.neg_add,K.add_zero,K.zero_add]at h2
theorem Oz {x:Q6} (h:n6 x=F2.zero):x=F6.zero:=by
 have hA:F2.mul (oA x).2.1 (F2.mul (oA x).2.1 (oA x).2.1)=F2.mul dM (F2.mul (oA x).2.2 (F2.mul (oA x).2.2 (oA x).2.2)):=by
  apply IK;have e:F2.add (F2.mul (oA x).2.1 (F2.mul (oA x).2.1 (oA x).2.1)) (F2.neg (F2.mul dM (F2.mul (oA x).2.2 (F2.mul (oA x).2.2 (oA x).2.2))))=F2.mul (n6 x) (F2.add (F2.mul dM (F2.mul x.2.2 (F2.mul x.2.2 x.2.2))) (F2.neg (F2.mul x.2.1 (F2.mul x.2.1 x.2.1)))) :=
   aE F2 (aW F2 [x.1,x.2.1,x.2.2,dM])
    ((Z2*Z2*Z3-Z0*Z1)*((Z2*Z2*Z3-Z0*Z1)*(Z2*Z2*Z3-Z0*Z1))-Z3*((Z1*Z1-Z0*Z2)*((Z1*Z1-Z0*Z2)*(Z1*Z1-Z0*Z2))))
    ((Z0*(Z0*Z0-Z1*Z2*Z3)+Z3*(Z1*(Z1*Z1-Z0*Z2)+Z2*(Z2*Z2*Z3-Z0*Z1)))*(Z3*(Z2*(Z2*Z2))-Z1*(Z1*Z1))) (by decide)
  rw[e,h,F2.zero_mul]
 have h2:(oA x).2.2=F2.zero:=by
  by_cases hb:(oA x).2.2=F2.zero
  ·exact hb
  ·obtain⟨t,ht⟩:=aFc BJ hb hA;exact absurd ht (Lq t)
 have h1:(oA x).2.1=F2.zero:=by
  rw[h2,F2.mul_zero,F2.mul_zero,F2.mul_zero]at hA
  by_cases ha:(oA x).2.1=F2.zero
  ·exact ha
  ·exact xM BJ (BJ.zd hA ha)
 have g2:F2.mul x.2.1 x.2.1=F2.mul x.1 x.2.2:=IK (K:=F2) h2;have g1:F2.mul (F2.mul x.2.2 x.2.2) dM=F2.mul x.1 x.2.1:=IK (K:=F2) h1;have h3:x.2.2=F2.zero:=by
  by_cases hc:x.2.2=F2.zero
  ·exact hc
  ·
   have e:F2.mul x.2.1 (F2.mul x.2.1 x.2.1)=F2.mul dM (F2.mul x.2.2 (F2.mul x.2.2 x.2.2)):=by
    rw[g2];have e1:F2.mul x.2.1 (F2.mul x.1 x.2.2)=F2.mul (F2.mul x.1 x.2.1) x.2.2:=aE F2 (aW F2 [x.1,x.2.1,x.2.2]) (Z1*(Z0*Z2)) (Z0*Z1*Z2) (by decide);rw[e1,←g1];exact aE F2 (aW F2 [x.2.2,dM]) (Z0*Z0*Z1*Z0) (Z1*(Z0*(Z0*Z0))) (by decide)
   obtain⟨t,ht⟩:=aFc BJ hc e;exact absurd ht (Lq t)
 have h4:x.2.1=F2.zero:=by
  rw[h3,F2.mul_zero]at g2;exact xM BJ g2
 have h5:x.1=F2.zero:=by
  have e:F2.mul x.1 (F2.mul x.1 x.1)=F2.zero:=by
   rw[←h];show F2.mul x.1 (F2.mul x.1 x.1)=F2.add (F2.mul x.1 (F2.sub (F2.mul x.1 x.1) (F2.mul (F2.mul x.2.1 x.2.2) dM))) (F2.mul dM (F2.add (F2.mul x.2.1 (oA x).2.2) (F2.mul x.2.2 (oA x).2.1)));rw[h1,h2,h3,F2.mul_zero x.2.1,F2.mul_zero F2.zero,F2.add_zero,F2.mul_zero dM,F2.add_zero,F2.zero_mul];show F2.mul x.1 (F2.mul x.1 x.1)=F2.mul x.1 (F2.add (F2.mul x.1 x.1) (F2.neg F2.zero));rw[bQ,F2.add_zero]
  by_cases ha:x.1=F2.zero
  ·exact ha
  ·exact xM BJ (BJ.zd e ha)
 exact Prod.ext h5 (Prod.ext h4 h3)
theorem aGw {x:Q6} (h:sC (n6 x)≠F1.zero):F6.mul x (iv6 x)=F6.one:=by
 show F6.mul x (s6 (oA x) (dW (n6 x)))=_;rw[aLo,UM h];rfl
theorem aRe:Fld F6:=⟨fun h=>BJ.1 (congrArg Prod.fst h),fun x h=>⟨_,aGw fun e=>h (Oz (pT e))⟩⟩
theorem Zh {z:Q2} (h:F2.mul dM (F2.mul z z)=F2.one):False:=by
 have hz:z≠F2.zero:=fun e=>by rw[e,F2.mul_zero,F2.mul_zero]at h; exact BJ.1 h.symm
 obtain⟨y,hy⟩:=BJ.2 z hz;refine aTm y ?_;have e:F2.mul (F2.mul y y) (F2.mul dM (F2.mul z z))=F2.mul dM (F2.mul (F2.mul z y) (F2.mul z y)):=aE F2 (aW F2 [y,z,dM]) (Z0*Z0*(Z2*(Z1*Z1))) (Z2*(Z1*Z0*(Z1*Z0))) (by decide)
 rwa [h,hy,F2.mul_one,F2.mul_one,F2.mul_one]at e
theorem aXT (s:Q6):F6.mul s s≠vE:=fun h=>by
 have c0:F2.add (F2.mul s.1 s.1) (F2.mul dM (F2.add (F2.mul s.2.1 s.2.2) (F2.mul s.2.2 s.2.1)))=F2.zero:=congrArg Prod.fst h;have c1:F2.add (F2.add (F2.mul s.1 s.2.1) (F2.mul s.2.1 s.1)) (F2.mul dM (F2.mul s.2.2 s.2.2))=F2.one:=congrArg (fun x=>x.2.1) h;have c2:F2.add (F2.add (F2.mul s.1 s.2.2) (F2.mul s.2.1 s.2.1)) (F2.mul s.2.2 s.1)=F2.zero:=congrArg (fun x=>x.2.2) h;have e:F2.mul s.1 (F2.add (F2.mul s.1 s.2.1) (F2.neg (F2.mul (F2.add (F2.add F2.one F2.one) (F2.add F2.one F2.one)) (F2.mul dM (F2.mul s.2.2 s.2.2)))))=F2.zero:=by
  have e1:F2.mul s.1 (F2.add (F2.mul s.1 s.2.1) (F2.neg (F2.mul (F2.add (F2.add F2.one F2.one) (F2.add F2.one F2.one)) (F2.mul dM (F2.mul s.2.2 s.2.2)))))=F2.add (F2.mul s.2.1 (F2.add (F2.mul s.1 s.1) (F2.mul dM (F2.add (F2.mul s.2.1 s.2.2) (F2.mul s.2.2 s.2.1))))) (F2.neg (F2.mul (F2.mul (F2.add F2.one F2.one) (F2.mul dM s.2.2)) (F2.add (F2.add (F2.mul s.1 s.2.2) (F2.mul s.2.1 s.2.1)) (F2.mul s.2.2 s.1)))) :=
   aE F2 (aW F2 [s.1,s.2.1,s.2.2,dM])
    (Z0*(Z0*Z1-(RE.one+RE.one+(RE.one+RE.one))*(Z3*(Z2*Z2))))
    (Z1*(Z0*Z0+Z3*(Z1*Z2+Z2*Z1))-(RE.one+RE.one)*(Z3*Z2)*(Z0*Z2+Z1*Z1+Z2*Z0)) (by decide)
  rw[e1,c0,c2,F2.mul_zero,F2.mul_zero,bQ,F2.add_zero]
 by_cases h0:s.1=F2.zero
 ·rw[h0,F2.zero_mul,F2.mul_zero,F2.zero_add,F2.zero_add]at c1;exact Zh c1
 ·have g:=IK (BJ.zd e h0);rw[F2.mul_comm s.2.1 s.1,g]at c1;refine Zh (z:=F2.mul (F2.add (F2.add F2.one F2.one) F2.one) s.2.2) ?_;refine Eq.trans ?_ c1;exact aE F2 (aW F2 [s.2.2,dM]) (Z1*((RE.one+RE.one+RE.one)*Z0*((RE.one+RE.one+RE.one)*Z0)))
   ((RE.one+RE.one+(RE.one+RE.one))*(Z1*(Z0*Z0))+(RE.one+RE.one+(RE.one+RE.one))*(Z1*(Z0*Z0))+Z1*(Z0*Z0)) (by decide)
theorem aDe {x:aV} (h:n12 x=F6.zero):x=aD.zero:=by
 have e:F6.mul x.1 x.1=F6.mul vE (F6.mul x.2 x.2):=IK (K:=F6) h;have hb:x.2=F6.zero:=by
  by_cases hb:x.2=F6.zero
  ·exact hb
  ·obtain⟨t,ht⟩:=aFb aRe hb e;exact absurd ht (aXT t)
 rw[hb,F6.mul_zero,F6.mul_zero]at e;exact Prod.ext (xM aRe e) hb
theorem AS {x:aV} (h:wH x=F1.zero):x=aD.zero:=aDe (Oz (pT h))
theorem aKa {R:Type} (K:CR R) (a b v k:R):K.add (K.mul a (K.mul a k)) (K.mul v (K.mul b (K.mul (K.sub K.zero b) k)))=K.mul (K.sub (K.mul a a) (K.mul v (K.mul b b))) k :=
 aE K (aW K [a,b,v,k]) (Z0*(Z0*Z3)+Z2*(Z1*((RE.zero-Z1)*Z3))) ((Z0*Z0-Z2*(Z1*Z1))*Z3) (by decide)
theorem aJZ {R:Type} (K:CR R) (a b k:R):K.add (K.mul a (K.mul (K.sub K.zero b) k)) (K.mul b (K.mul a k))=K.zero :=
 aE K (aW K [a,b,k]) (Z0*((RE.zero-Z1)*Z2)+Z1*(Z0*Z2)) .zero (by decide)
theorem UN {x:aV} (h:wH x≠F1.zero):aD.mul x (mE x)=aD.one:=by
 have hi:F6.mul (n12 x) (iv6 (n12 x))=F6.one:=aGw h;exact Prod.ext ((aKa F6 x.1 x.2 vE (iv6 (n12 x))).trans hi) (aJZ F6 x.1 x.2 (iv6 (n12 x)))
theorem jJ:Fld aD:=⟨fun h=>aRe.1 (congrArg Prod.fst h),fun x h=>⟨_,UN fun e=>h (AS e)⟩⟩
def pf {R:Type} (K:CR R):Nat→R→Nat→R
 | 0,_,_=>K.one
 | f+1,b,e=>bif Nat.beq e 0 then K.one else bif Nat.beq (e%2) 1 then K.mul b (pf K f (K.mul b b) (e/2))else pf K f (K.mul b b) (e/2)
theorem My {R:Type} (K:CR R):∀(f:Nat) (b:R) (e:Nat),e<2^f→pf K f b e=bZ K b e
 | 0,b,e,h=>by
  have:e=0:=by omega
  subst this; rfl
 | f+1,b,e,h=>by
  rw[Nat.pow_succ]at h;unfold pf;cases h0:Nat.beq e 0
  ·have hi:=My K f (K.mul b b) (e/2) (by omega);have hb:K.mul b b=bZ K b 2:=by show _=K.mul (K.mul K.one b) b; rw[K.one_mul]
   have hs:bZ K (K.mul b b) (e/2)=bZ K b (2*(e/2)):=by rw[hb,←eF]
   cases h1:Nat.beq (e%2) 1
   ·have:e%2≠1:=fun h=>by rw[h]at h1; cases h1
    simp only[cond_false];rw[hi,hs];congr 1; omega
   ·have:=Nat.eq_of_beq_eq_true h1;simp only[cond_true,cond_false];rw[hi,hs];have he:e=2*(e/2)+1:=by omega
    conv=>rhs; rw[he]
    show _=K.mul (bZ K b (2*(e/2))) b;rw[K.mul_comm]
  ·have:=Nat.eq_of_beq_eq_true h0;subst this; rfl
theorem aDa {R:Type} (K:CR R) (q:R) (x:R×R):∀n,nt (K.sq q) x n=(nt K x.1 n,nt K x.2 n)
 | 0=>rfl
 | n+1=>by show (K.sq q).add (nt (K.sq q) x n) x=_; rw[aDa K q x n]; rfl
theorem aMl {R:Type} (K:CR R) (q:R) (x:R×R×R):∀n,nt (K.cu q) x n=(nt K x.1 n,nt K x.2.1 n,nt K x.2.2 n)
 | 0=>rfl
 | n+1=>by show (K.cu q).add (nt (K.cu q) x n) x=_; rw[aMl K q x n]; rfl
theorem aMk (x:Fq):∀n,(nt F1 x n).1=n*x.1%FP.M
 | 0=>by rw[Nat.zero_mul]; rfl
 | n+1=>by
  show ((nt F1 x n).1+x.1)%FP.M=_;rw[aMk x n,Nat.mod_add_mod,Nat.add_mul,Nat.one_mul]
theorem ch1 (x:Fq):nt F1 x FP.M=F1.zero:=Fin.ext (by rw[aMk,Nat.mul_mod_right]; rfl)
theorem ch2 (x:Q2):nt F2 x FP.M=F2.zero:=by unfold F2; rw[aDa,ch1,ch1]; rfl
theorem ch6 (x:Q6):nt F6 x FP.M=F6.zero:=by unfold F6; rw[aMl,ch2,ch2,ch2]; rfl
theorem bAd (x:aV):nt aD x FP.M=aD.zero:=by unfold aD; rw[aDa,ch6,ch6]; rfl
theorem aJd:eJ FP.M:=Js.prm
theorem mS {R S:Type} (K:CR R) (L:CR S) (φ:R→S) (h1:φ K.one=L.one) (hm:∀a b,φ (K.mul a b)=L.mul (φ a) (φ b)) (x:R):∀n,bZ L (φ x) n=φ (bZ K x n)
 | 0=>h1.symm
 | n+1=>by show L.mul (bZ L (φ x) n) (φ x)=φ (K.mul _ _); rw[mS K L φ h1 hm x n,hm]
theorem aUC (x:Fq):∀n,(bZ F1 x n).1=x.1^n%FP.M
 | 0=>rfl
 | n+1=>by show (bZ F1 x n).1*x.1%FP.M=_; rw[aUC x n,Nat.pow_succ,Nat.mod_mul_mod]
theorem ZL (x m:Nat) (h:0<m):x^m=x^(m-1)*x:=by
 obtain⟨n,rfl⟩:∃n,m=n+1:=⟨m-1,by omega⟩
 rw[Nat.add_sub_cancel,Nat.pow_succ]
theorem p1 (x:Fq):bZ F1 x FP.M=x:=by
 apply Fin.ext;rw[aUC]
 rcases Nat.eq_zero_or_pos x.1 with h|h
 ·rw[ZL x.1 FP.M gF,h,Nat.mul_zero,Nat.zero_mod]
 ·have:=Xx h x.2;rw[ZL x.1 FP.M gF,Nat.mul_mod,this,Nat.one_mul,Nat.mod_mod,Nat.mod_eq_of_lt x.2]
def i2 (a:Fq):Q2:=(a,F1.zero)
def u2:Q2:=(F1.zero,F1.one)
theorem Jk (a b:Fq):i2 (F1.mul a b)=F2.mul (i2 a) (i2 b):=by
 refine Prod.ext ?_ ?_
 ·show F1.mul a b=F1.add (F1.mul a b) (F1.mul _ (F1.mul F1.zero F1.zero)); rw[F1.mul_zero,F1.mul_zero,F1.add_zero]
 ·show F1.zero=F1.add (F1.mul a F1.zero) (F1.mul F1.zero b); rw[F1.mul_zero,F1.zero_mul,F1.add_zero]
theorem aLL (x:Q2):x=F2.add (i2 x.1) (F2.mul (i2 x.2) u2):=by
 refine Prod.ext ?_ ?_
 ·show x.1=F1.add x.1 (F1.add (F1.mul x.2 F1.zero) (F1.mul _ (F1.mul F1.zero F1.one))); rw[F1.mul_zero,F1.zero_mul,F1.mul_zero,F1.add_zero,F1.add_zero]
 ·show x.2=F1.add F1.zero (F1.add (F1.mul x.2 F1.one) (F1.mul F1.zero F1.zero)); rw[F1.mul_one,F1.mul_zero,F1.add_zero,F1.zero_add]
theorem aXV:bZ F2 u2 FP.M=aL u2:=by
 rw[←My F2 256 u2 FP.M (by decide)]
 kernel_rfl
theorem Pz (a:Fq):aL (i2 a)=i2 a:=Prod.ext rfl (bQ F1)
theorem aRc (x:Q2):bZ F2 x FP.M=aL x:=by
 conv=>lhs; rw[aLL x]
 rw[Qi F2 aJd ch2,mR,mS F1 F2 i2 rfl Jk,mS F1 F2 i2 rfl Jk,p1,p1,aXV]
 conv=>rhs; rw[aLL x,kZ,iD,Pz,Pz]
def i6 (a:Q2):Q6:=(a,F2.zero,F2.zero)
theorem Jj (a b:Q2):i6 (F2.mul a b)=F6.mul (i6 a) (i6 b):=by
 show _=F6.mul (i6 a) (b,F2.zero,F2.zero);rw[Pa];refine Prod.ext rfl (Prod.ext ?_ ?_)<;>exact (F2.zero_mul _).symm
theorem aEb (a:Q2):MO (i6 a)=i6 (aL a):=by
 rw[QZ];have h:aL F2.zero=F2.zero:=by decide
 refine Prod.ext rfl (Prod.ext ?_ ?_)
 ·show F2.mul (aL F2.zero) _=F2.zero; rw[h,F2.zero_mul]
 ·show F2.mul (aL F2.zero) _=F2.zero; rw[h,F2.zero_mul]
theorem aLK (x:Q6):x=F6.add (i6 x.1) (F6.add (F6.mul (i6 x.2.1) vE) (F6.mul (i6 x.2.2) (F6.mul vE vE))):=by
 have h1:∀c:Q2,F6.mul (i6 c) vE=(F2.zero,c,F2.zero):=fun c=>by
  rw[F6.mul_comm,DX];show (F2.mul F2.zero dM,c,F2.zero)=_;rw[F2.zero_mul]
 have h2:∀c:Q2,F6.mul (i6 c) (F6.mul vE vE)=(F2.zero,F2.zero,c):=fun c=>by
  rw[←F6.mul_assoc,h1,F6.mul_comm,DX];show (F2.mul F2.zero dM,F2.zero,c)=_;rw[F2.zero_mul]
 rw[h1,h2];refine Prod.ext ?_ (Prod.ext ?_ ?_)
 ·show x.1=F2.add x.1 (F2.add F2.zero F2.zero); rw[F2.add_zero,F2.add_zero]
 ·show x.2.1=F2.add F2.zero (F2.add x.2.1 F2.zero); rw[F2.add_zero,F2.zero_add]
 ·show x.2.2=F2.add F2.zero (F2.add F2.zero x.2.2); rw[F2.zero_add,F2.zero_add]
theorem v_p:bZ F6 vE FP.M=MO vE:=by
 rw[←My F6 256 vE FP.M (by decide)]
 kernel_rfl
theorem p6 (x:Q6):bZ F6 x FP.M=MO x:=by
 conv=>lhs; rw[aLK x]
 rw[Qi F6 aJd ch6,Qi F6 aJd ch6,mR,mR,mR,mS F2 F6 i6 rfl Jj,mS F2 F6 i6 rfl Jj,mS F2 F6 i6 rfl Jj,aRc,aRc,aRc,v_p]
 conv=>rhs; rw[aLK x,uB,uB,oI,oI,oI,aEb,aEb,aEb]
def i12 (a:Q6):aV:=(a,F6.zero)
def wE:aV:=(F6.zero,F6.one)
theorem Qa (a b:Q6):i12 (F6.mul a b)=aD.mul (i12 a) (i12 b):=by
 refine Prod.ext ?_ ?_
 ·show F6.mul a b=F6.add (F6.mul a b) (F6.mul _ (F6.mul F6.zero F6.zero)); rw[F6.mul_zero,F6.mul_zero,F6.add_zero]
 ·show F6.zero=F6.add (F6.mul a F6.zero) (F6.mul F6.zero b); rw[F6.mul_zero,F6.zero_mul,F6.add_zero]
theorem aBw (x:aV):x=aD.add (i12 x.1) (aD.mul (i12 x.2) wE):=by
 refine Prod.ext ?_ ?_
 ·show x.1=F6.add x.1 (F6.add (F6.mul x.2 F6.zero) (F6.mul _ (F6.mul F6.zero F6.one))); rw[F6.mul_zero,F6.zero_mul,F6.mul_zero,F6.add_zero,F6.add_zero]
 ·show x.2=F6.add F6.zero (F6.add (F6.mul x.2 F6.one) (F6.mul F6.zero F6.zero)); rw[F6.mul_one,F6.mul_zero,F6.add_zero,F6.zero_add]
theorem aCo:MO F6.zero=F6.zero:=by decide
theorem aCq (x y:aV):cV (aD.add x y)=aD.add (cV x) (cV y):=by
 rw[qT,qT,qT];refine Prod.ext (uB _ _) ?_;show F6.mul (MO (F6.add x.2 y.2)) tau=F6.add _ _;rw[uB,F6.add_mul]
theorem aEc (a:Q6):cV (i12 a)=i12 (MO a):=by
 rw[qT];refine Prod.ext rfl ?_;show F6.mul (MO F6.zero) tau=F6.zero;rw[aCo,F6.zero_mul]
theorem w_p:bZ aD wE FP.M=cV wE:=by
 rw[←My aD 256 wE FP.M (by decide)]
 kernel_rfl
theorem p12 (x:aV):bZ aD x FP.M=cV x:=by
 conv=>lhs; rw[aBw x]
 rw[Qi aD aJd bAd,mR,mS F6 aD i12 rfl Qa,mS F6 aD i12 rfl Qa,p6,p6,w_p]
 conv=>rhs; rw[aBw x,aCq,nI,aEc,aEc]
theorem VO {R:Type} (K:CR R) {a b:R} (h:K.sub a b=K.zero):a=b:=by
 have h1:K.add (K.add a (K.neg b)) b=b:=by
  rw[show K.add a (K.neg b)=K.zero from h,K.zero_add]
 rw[K.add_assoc,K.neg_add,K.add_zero]at h1;exact h1
theorem zS {R:Type} (K:CR R) (a:R):K.sub a a=K.zero:=K.add_neg a
end Go.Proofs.YtjkpglhlmknciaaGreat.Ex
