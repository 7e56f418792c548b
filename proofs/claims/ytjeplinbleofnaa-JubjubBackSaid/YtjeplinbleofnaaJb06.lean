/- Jb06 -/
import Derived.Laws.MakeOwn
import Derived.Deep.DeepCutAuto
import Derived.Test.YtjeplinbleofnaaJb05
import Derived.Test.YtjeplinbleofnaaJb04
import Derived.Test.YtjeplinbleofnaaProg
import Derived.Test.YtjeplinbleofnaaJb00
import Derived.Test.YtjeplinbleofnaaJb01
set_option maxRecDepth 100000
set_option linter.unusedVariables false
set_option linter.unusedSimpArgs false
set_option linter.unnecessarySimpa false
noncomputable section
namespace Go.Proofs.Ytjeplinbleofnaa.Ex
open Go.Proofs.Try
section
variable {R:Type} {K:CR R} {inv:R→R} {a d:R}
theorem Bd (x y z u v w d:R)  : (K.mul (K.sub (K.mul (K.mul z w) (K.mul z w)) (K.mul d (K.mul (K.mul (K.mul x z) (K.mul u w)) (K.mul (K.mul y z) (K.mul v w))))) (K.add (K.mul (K.mul z w) (K.mul z w)) (K.mul d (K.mul (K.mul (K.mul x z) (K.mul u w)) (K.mul (K.mul y z) (K.mul v w))))))=(K.mul (K.mul (K.mul z w) (K.mul z w)) (K.mul (K.mul (K.mul z w) (K.mul z w)) (K.mul (K.sub K.one (K.mul d (K.mul (K.mul x u) (K.mul y v)))) (K.add K.one (K.mul d (K.mul (K.mul x u) (K.mul y v))))))) :=
 aI K (bA K [x,y,z,u,v,w,d]) ((Z2*Z5*(Z2*Z5)-Z6*(Z0*Z2*(Z3*Z5)*(Z1*Z2*(Z4*Z5))))*(Z2*Z5*(Z2*Z5)+Z6*(Z0*Z2*(Z3*Z5)*(Z1*Z2*(Z4*Z5))))) (Z2*Z5*(Z2*Z5)*(Z2*Z5*(Z2*Z5)*((RE.one-Z6*(Z0*Z3*(Z1*Z4)))*(RE.one+Z6*(Z0*Z3*(Z1*Z4)))))) (by kernel_rfl)
theorem Bf (x y z u v w d i:R) (hi:(K.mul (K.add K.one (K.mul d (K.mul (K.mul x u) (K.mul y v)))) i)=K.one):(K.mul (K.mul (K.mul z w) (K.sub (K.mul (K.mul z w) (K.mul z w)) (K.mul d (K.mul (K.mul (K.mul x z) (K.mul u w)) (K.mul (K.mul y z) (K.mul v w)))))) (K.sub (K.sub (K.mul (K.add (K.mul x z) (K.mul y z)) (K.add (K.mul u w) (K.mul v w))) (K.mul (K.mul x z) (K.mul u w))) (K.mul (K.mul y z) (K.mul v w))))=(K.mul (K.mul (K.add (K.mul x v) (K.mul y u)) i) (K.mul (K.sub (K.mul (K.mul z w) (K.mul z w)) (K.mul d (K.mul (K.mul (K.mul x z) (K.mul u w)) (K.mul (K.mul y z) (K.mul v w))))) (K.add (K.mul (K.mul z w) (K.mul z w)) (K.mul d (K.mul (K.mul (K.mul x z) (K.mul u w)) (K.mul (K.mul y z) (K.mul v w))))))) :=
 eR (K:=K) (c1:=(K.neg (K.mul (K.add (K.mul x v) (K.mul y u)) (K.mul (K.mul (K.mul z w) (K.mul z w)) (K.mul (K.mul (K.mul z w) (K.mul z w)) (K.sub K.one (K.mul d (K.mul (K.mul x u) (K.mul y v))))))))) hi (aI K (bA K [x,y,z,u,v,w,d,i]) (Z2*Z5*(Z2*Z5*(Z2*Z5)-Z6*(Z0*Z2*(Z3*Z5)*(Z1*Z2*(Z4*Z5))))*((Z0*Z2+Z1*Z2)*(Z3*Z5+Z4*Z5)-Z0*Z2*(Z3*Z5)-Z1*Z2*(Z4*Z5))-(Z0*Z4+Z1*Z3)*Z7*((Z2*Z5*(Z2*Z5)-Z6*(Z0*Z2*(Z3*Z5)*(Z1*Z2*(Z4*Z5))))*(Z2*Z5*(Z2*Z5)+Z6*(Z0*Z2*(Z3*Z5)*(Z1*Z2*(Z4*Z5)))))) ((-((Z0*Z4+Z1*Z3)*(Z2*Z5*(Z2*Z5)*(Z2*Z5*(Z2*Z5)*(RE.one-Z6*(Z0*Z3*(Z1*Z4)))))))*((RE.one+Z6*(Z0*Z3*(Z1*Z4)))*Z7-RE.one)) (by kernel_rfl))
theorem Be (x y z u v w a d j:R) (hj:(K.mul (K.sub K.one (K.mul d (K.mul (K.mul x u) (K.mul y v)))) j)=K.one):(K.mul (K.mul (K.mul z w) (K.add (K.mul (K.mul z w) (K.mul z w)) (K.mul d (K.mul (K.mul (K.mul x z) (K.mul u w)) (K.mul (K.mul y z) (K.mul v w)))))) (K.sub (K.mul (K.mul y z) (K.mul v w)) (K.mul a (K.mul (K.mul x z) (K.mul u w)))))=(K.mul (K.mul (K.sub (K.mul y v) (K.mul a (K.mul x u))) j) (K.mul (K.sub (K.mul (K.mul z w) (K.mul z w)) (K.mul d (K.mul (K.mul (K.mul x z) (K.mul u w)) (K.mul (K.mul y z) (K.mul v w))))) (K.add (K.mul (K.mul z w) (K.mul z w)) (K.mul d (K.mul (K.mul (K.mul x z) (K.mul u w)) (K.mul (K.mul y z) (K.mul v w))))))) :=
 eR (K:=K) (c1:=(K.neg (K.mul (K.sub (K.mul y v) (K.mul a (K.mul x u))) (K.mul (K.mul (K.mul z w) (K.mul z w)) (K.mul (K.mul (K.mul z w) (K.mul z w)) (K.add K.one (K.mul d (K.mul (K.mul x u) (K.mul y v))))))))) hj (aI K (bA K [x,y,z,u,v,w,a,d,j]) (Z2*Z5*(Z2*Z5*(Z2*Z5)+Z7*(Z0*Z2*(Z3*Z5)*(Z1*Z2*(Z4*Z5))))*(Z1*Z2*(Z4*Z5)-Z6*(Z0*Z2*(Z3*Z5)))-(Z1*Z4-Z6*(Z0*Z3))*Z8*((Z2*Z5*(Z2*Z5)-Z7*(Z0*Z2*(Z3*Z5)*(Z1*Z2*(Z4*Z5))))*(Z2*Z5*(Z2*Z5)+Z7*(Z0*Z2*(Z3*Z5)*(Z1*Z2*(Z4*Z5)))))) ((-((Z1*Z4-Z6*(Z0*Z3))*(Z2*Z5*(Z2*Z5)*(Z2*Z5*(Z2*Z5)*(RE.one+Z7*(Z0*Z3*(Z1*Z4)))))))*((RE.one-Z7*(Z0*Z3*(Z1*Z4)))*Z8-RE.one)) (by kernel_rfl))
theorem Bi (x y z a d:R) (he:(K.add (K.mul a (K.mul x x)) (K.mul y y))=(K.add K.one (K.mul d (K.mul (K.mul x x) (K.mul y y))))):(K.add (K.mul a (K.mul (K.mul x z) (K.mul x z))) (K.mul (K.mul y z) (K.mul y z)))=(K.mul (K.mul z z) (K.add K.one (K.mul d (K.mul (K.mul x x) (K.mul y y))))) :=
 eR (K:=K) (c1:=(K.mul z z)) he (aI K (bA K [x,y,z,a,d]) (Z3*(Z0*Z2*(Z0*Z2))+Z1*Z2*(Z1*Z2)-Z2*Z2*(RE.one+Z4*(Z0*Z0*(Z1*Z1)))) (Z2*Z2*(Z3*(Z0*Z0)+Z1*Z1-(RE.one+Z4*(Z0*Z0*(Z1*Z1))))) (by kernel_rfl))
theorem Bj (x y z a d:R) (he:(K.add (K.mul a (K.mul x x)) (K.mul y y))=(K.add K.one (K.mul d (K.mul (K.mul x x) (K.mul y y))))):(K.sub (K.add (K.mul z z) (K.mul z z)) (K.add (K.mul a (K.mul (K.mul x z) (K.mul x z))) (K.mul (K.mul y z) (K.mul y z))))=(K.mul (K.mul z z) (K.sub K.one (K.mul d (K.mul (K.mul x x) (K.mul y y))))) :=
 eR (K:=K) (c1:=(K.neg (K.mul z z))) he (aI K (bA K [x,y,z,a,d]) (Z2*Z2+Z2*Z2-(Z3*(Z0*Z2*(Z0*Z2))+Z1*Z2*(Z1*Z2))-Z2*Z2*(RE.one-Z4*(Z0*Z0*(Z1*Z1)))) ((-(Z2*Z2))*(Z3*(Z0*Z0)+Z1*Z1-(RE.one+Z4*(Z0*Z0*(Z1*Z1))))) (by kernel_rfl))
theorem Bm (x y z:R)  : (K.sub (K.sub (K.mul (K.add (K.mul x z) (K.mul y z)) (K.add (K.mul x z) (K.mul y z))) (K.mul (K.mul x z) (K.mul x z))) (K.mul (K.mul y z) (K.mul y z)))=(K.mul (K.mul z z) (K.add (K.mul x y) (K.mul y x))) :=
 aI K (bA K [x,y,z]) ((Z0*Z2+Z1*Z2)*(Z0*Z2+Z1*Z2)-Z0*Z2*(Z0*Z2)-Z1*Z2*(Z1*Z2)) (Z2*Z2*(Z0*Z1+Z1*Z0)) (by kernel_rfl)
theorem Bl (x y z a:R)  : (K.sub (K.mul (K.mul y z) (K.mul y z)) (K.mul a (K.mul (K.mul x z) (K.mul x z))))=(K.mul (K.mul z z) (K.sub (K.mul y y) (K.mul a (K.mul x x)))) :=
 aI K (bA K [x,y,z,a]) (Z1*Z2*(Z1*Z2)-Z3*(Z0*Z2*(Z0*Z2))) (Z2*Z2*(Z1*Z1-Z3*(Z0*Z0))) (by kernel_rfl)
theorem Bh (n q p i s:R) (hi:(K.mul p i)=K.one):(K.mul (K.mul s n) (K.mul s q))=(K.mul (K.mul n i) (K.mul (K.mul s p) (K.mul s q))) :=
 eR (K:=K) (c1:=(K.neg (K.mul n (K.mul s (K.mul s q))))) hi (aI K (bA K [n,q,p,i,s]) (Z4*Z0*(Z4*Z1)-Z0*Z3*(Z4*Z2*(Z4*Z1))) ((-(Z0*(Z4*(Z4*Z1))))*(Z2*Z3-RE.one)) (by kernel_rfl))
theorem Bg (m q p j s:R) (hj:(K.mul q j)=K.one):(K.mul (K.mul s p) (K.mul s m))=(K.mul (K.mul m j) (K.mul (K.mul s p) (K.mul s q))) :=
 eR (K:=K) (c1:=(K.neg (K.mul m (K.mul s (K.mul s p))))) hj (aI K (bA K [m,q,p,j,s]) (Z4*Z2*(Z4*Z0)-Z0*Z3*(Z4*Z2*(Z4*Z1))) ((-(Z0*(Z4*(Z4*Z2))))*(Z1*Z3-RE.one)) (by kernel_rfl))
variable (K) (a) (d)
def uL (p q:R×R×R):R×R×R :=
 let z:=K.mul p.2.2 q.2.2
 let x:=K.mul p.1 q.1
 let y:=K.mul p.2.1 q.2.1
 let both:=K.mul d (K.mul x y)
 let square:=K.mul z z
 let more:=K.add square both
 let less:=K.sub square both
 let across:=K.sub (K.sub (K.mul (K.add p.1 p.2.1) (K.add q.1 q.2.1)) x) y
 (K.mul (K.mul z less) across,K.mul (K.mul z more) (K.sub y (K.mul a x)),K.mul less more)
def uM (p:R×R×R):R×R×R :=
 let x:=K.mul p.1 p.1
 let y:=K.mul p.2.1 p.2.1
 let z:=K.mul p.2.2 p.2.2
 let across:=K.sub (K.sub (K.mul (K.add p.1 p.2.1) (K.add p.1 p.2.1)) x) y
 let ax:=K.mul a x
 let more:=K.add ax y
 let less:=K.sub (K.add z z) more
 (K.mul across less,K.mul more (K.sub y ax),K.mul more less)
def iZ (p:R×R×R) (P:yB K a d):Prop:=p.1=K.mul P.1.1 p.2.2∧p.2.1=K.mul P.1.2 p.2.2∧p.2.2≠K.zero
variable {K} {a} {d}
theorem ED.sum (E:ED K inv a d) {p q:R×R×R} {P Q:yB K a d} (hp:iZ K a d p P) (hq:iZ K a d q Q):iZ K a d (uL K a d p q) (E.grp.add P Q):=by
 obtain⟨⟨x,y⟩,h1⟩:=P;obtain⟨⟨u,v⟩,h2⟩:=Q;obtain⟨X,Y,z⟩:=p;obtain⟨U,V,w⟩:=q;obtain⟨rfl,rfl,hz⟩:X=K.mul x z∧Y=K.mul y z∧z≠K.zero:=hp;obtain⟨rfl,rfl,hw⟩:U=K.mul u w∧V=K.mul v w∧w≠K.zero:=hq;have hs:=E.F.mul_ne (E.F.mul_ne hz hw) (E.F.mul_ne hz hw);refine⟨Bf x y z u v w d _ (E.ip h1 h2),Be x y z u v w a d _ (E.iq h1 h2),?_⟩;intro e;exact E.F.mul_ne hs (E.F.mul_ne hs (E.F.mul_ne (E.qne h1 h2) (E.pne h1 h2))) ((Bd x y z u v w d).symm.trans e)
theorem ED.dbl (E:ED K inv a d) {p:R×R×R} {P:yB K a d} (hp:iZ K a d p P):iZ K a d (uM K a p) (E.grp.add P P):=by
 obtain⟨⟨x,y⟩,h1⟩:=P;obtain⟨X,Y,z⟩:=p;obtain⟨rfl,rfl,hz⟩:X=K.mul x z∧Y=K.mul y z∧z≠K.zero:=hp;have hs:=E.F.mul_ne hz hz;have eM:=Bi x y z a d h1;have eL:=Bj x y z a d h1;have eA:=Bm (K:=K) x y z;have eB:=Bl (K:=K) x y z a;show K.mul _ _=K.mul _ (K.mul _ _)∧K.mul _ _=K.mul _ (K.mul _ _)∧K.mul _ _≠K.zero;simp only[];rw[eL,eM,eA,eB];refine⟨Bh _ _ _ _ _ (E.ip h1 h1),Bg _ _ _ _ _ (E.iq h1 h1),?_⟩;exact E.F.mul_ne (E.F.mul_ne hs (E.pne h1 h1)) (E.F.mul_ne hs (E.qne h1 h1))
theorem ED.told (E:ED K inv a d) {p:R×R×R} {P:yB K a d} (hp:iZ K a d p P):K.mul p.1 (inv p.2.2)=P.1.1∧K.mul p.2.1 (inv p.2.2)=P.1.2:=by
 obtain⟨h1,h2,h3⟩:=hp;rw[h1,h2,K.mul_assoc,K.mul_assoc,E.F.inv _ h3,K.mul_one,K.mul_one];exact⟨rfl,rfl⟩
theorem ED.rep1 (E:ED K inv a d) (P:yB K a d):iZ K a d (P.1.1,P.1.2,K.one) P:=⟨(K.mul_one _).symm,(K.mul_one _).symm,E.F.ne⟩
end
open Go.RowKit
def fm (n:Nat):Fq:=⟨n%FP.M,Nat.mod_lt _ dS⟩
abbrev Q2:=Fq×Fq
abbrev Q6:=Q2×Q2×Q2
abbrev Bu:=Q6×Q6
def e1 (x:Fq):List At:=[.f x]
def e2 (x:Q2):List At:=[.f x.1,.f x.2]
def e6 (x:Q6):List At:=[.f x.1.1,.f x.1.2,.f x.2.1.1,.f x.2.1.2,.f x.2.2.1,.f x.2.2.2]
def Bt (x:Bu):List At:=[.f x.1.1.1,.f x.1.1.2,.f x.1.2.1.1,.f x.1.2.1.2,.f x.1.2.2.1,.f x.1.2.2.2,.f x.2.1.1,.f x.2.1.2,.f x.2.2.1.1,.f x.2.2.1.2,.f x.2.2.2.1,.f x.2.2.2.2]
abbrev N2:=Nat×Nat
def q1 (x:Nat):List At:=[.q x]
def q2 (x:N2):List At:=[.q x.1,.q x.2]
def YX:At→Option Nat
 | .f x=>some x.1
 | .q x=>some x
 | .c _=>none
def wG:List At→Option (List Nat)
 | []=>some []
 | a::r=>match YX a,wG r with|some x,some l=>some (x::l)|_,_=>none
def oR (l:List At):Option Nat:=match wG l with|some [a]=>some a|_=>none
def PA (l:List At):Option N2:=match wG l with|some [a,b]=>some (a,b)|_=>none
def wv (x:Nat):Nat:=aB (fw x 0) (fw x 1) (fw x 2) (fw x 3)
def m1 (x:Nat):Fq:=fm (wv x)
def m2 (x:N2):Q2:=(m1 x.1,m1 x.2)
def Rd {α:Type} (rd:List At→Option α) (en:α→List At):Prop:=∀l x,rd l=some x→aA l=aA (en x)
theorem jX:∀{l:List At} {m:List Nat},wG l=some m→aA l=aA (m.map .q)
 | [],m,h=>by cases h; rfl
 | a::r,m,h=>by
  unfold wG at h;split at h
  ·rename_i x l' h1 h2;cases h;show a.cells++aA r=w4 x++aA (l'.map .q);rw[jX h2];cases a<;>cases h1<;>rfl
  ·cases h
theorem cN:Rd oR q1:=fun l x h=>by
 unfold oR at h;split at h
 ·rename_i hn; cases h; rw[jX hn]; rfl
 ·cases h
theorem nF:Rd PA q2:=fun l x h=>by
 unfold PA at h;split at h
 ·rename_i hn; cases h; rw[jX hn]; rfl
 ·cases h
abbrev jO:=List CA→Option (List Prop×RV)
def g0 (r:RV):jO
 | []=>some ([],r)
 | _=>none
def g1 {α:Type} (rd:List At→Option α) (op:α→List Prop×RV):jO
 | [.v (.fl l)]=>match rd l with|some x=>some (op x)|none=>none
 | _=>none
def g2 {α γ:Type} (rd:List At→Option α) (rd':List At→Option γ) (op:α→γ→List Prop×RV):jO
 | [.v (.fl l),.v (.fl m)]=>match rd l,rd' m with|some x,some y=>some (op x y)|_,_=>none
 | _=>none
def bF (P:Program) (f:FuncId) (r:RV) (args:List Value) (w:World):Prop:=Calls P f args.toArray w (fun e w'=>e=.returned r.den∧Below w.heap.size w w')
theorem nZ {P:Program} {f:FuncId} {r:RV} (h:∀w,bF P f r [] w):∀cs pre r',g0 r cs=some (pre,r')→aQ pre→∀(args:List Value) (w:World),bZ w cs args→bF P f r' args w:=by
 intro cs pre r' hg hp args w ha;unfold g0 at hg;split at hg
 ·cases hg;cases args with
  | nil=>exact h w
  | cons _ _=>exact ha.elim
 ·cases hg
theorem lW {P:Program} {f:FuncId} {α:Type} {rd:List At→Option α} {en:α→List At} (hr:Rd rd en) {op:α→List Prop×RV} (h:∀x,aQ (op x).1→∀args w,bZ w [.v (.fl (en x))] args→bF P f (op x).2 args w) :
  ∀cs pre r,g1 rd op cs=some (pre,r)→aQ pre→∀(args:List Value) (w:World),bZ w cs args→bF P f r args w:=by
 intro cs pre r hg hp args w ha;unfold g1 at hg;split at hg
 ·rename_i l;split at hg
  ·rename_i x hx;have e:op x=(pre,r):=by simpa using hg
   have:=h x (by rw[e]; exact hp) args w (by
    cases args with
    | nil=>exact ha.elim
    | cons v vs =>
     refine⟨?_,ha.2⟩;show v=.agg (aA (en x)).toArray;rw[←hr l x hx];exact ha.1)
   rw[e]at this;exact this
  ·cases hg
 ·cases hg
theorem GF {P:Program} {f:FuncId} {α γ:Type} {rd:List At→Option α} {en:α→List At} {rd':List At→Option γ} {en':γ→List At} (hr:Rd rd en) (hr':Rd rd' en') {op:α→γ→List Prop×RV}
  (h:∀x y,aQ (op x y).1→∀args w,bZ w [.v (.fl (en x)),.v (.fl (en' y))] args→bF P f (op x y).2 args w) :
  ∀cs pre r,g2 rd rd' op cs=some (pre,r)→aQ pre→∀(args:List Value) (w:World),bZ w cs args→bF P f r args w:=by
 intro cs pre r hg hp args w ha;unfold g2 at hg;split at hg
 ·rename_i l m;split at hg
  ·rename_i x y hx hy;have e:op x y=(pre,r):=by simpa using hg
   have:=h x y (by rw[e]; exact hp) args w (by
    cases args with
    | nil=>exact ha.elim
    | cons v vs =>
     cases vs with
     | nil=>exact ha.2.elim
     | cons u us =>
      refine⟨?_,?_,ha.2.2⟩
      ·show v=.agg (aA (en x)).toArray;rw[←hr l x hx];exact ha.1
      ·show u=.agg (aA (en' y)).toArray;rw[←hr' m y hy];exact ha.2.1)
   rw[e]at this;exact this
  ·cases hg
 ·cases hg
theorem aY:prog.follows .mixedOrders=true:=by kernel_rfl
def YW:Nat→List At→Option (List Fq)
 | 0,_=>some []
 | n+1,.f a::r=>match YW n r with|some l=>some (a::l)|none=>none
 | _,_=>none
def Ok (P:Program) (base:Nat) (w0:World) (nt:Nat) (c:Code) (A:List Fact) (e:EA) (L:List Fact):Prop :=
 ∃q C f ps,dA P q base w0∧(∀n d,TabOkW P ((C n).T d) base w0)∧dP P q nt C f c A L=some (ps,e,L)∧aQ ps
section
variable {P:Program} {nt base:Nat} {w0:World} {Q:Exit→Act→World→Prop}
theorem Ok.wp (hm:P.follows .mixedOrders=true) {c:Code} {A L:List Fact} {e:EA} (h:Ok P base w0 nt c A e L) {a:Act} {w:World} (hA:Holds nt base w0 A a w) (hQ:∀a w,Holds nt base w0 L a w→Q e.out a w):c.wp P Q a w:=by
 obtain⟨q,C,f,ps,h1,h2,h3,h4⟩:=h;exact aN hm h2 h1 h3 h4 hA hQ
theorem QE (hm:P.follows .mixedOrders=true) {c:Code} (A:Nat→List Fact) (N:Nat) (hstep:∀i,i<N→Ok P base w0 nt c (A i) .nrm (A (i+1)))
  (e:EA) (he:e ≠ .nrm) (A':List Fact) (hend:Ok P base w0 nt c (A N) e A')
  {a:Act} {w:World} (hA:Holds nt base w0 (A 0) a w) (hQ:∀a w,Holds nt base w0 A' a w→Q e.out a w):(Code.loop c).wp P Q a w:=by
 have key:∀m i a w,i+m=N→Holds nt base w0 (A i) a w→Un P c Q (m+1) a w:=by
  intro m
  induction m with
  | zero =>
   intro i a w hi hA;have:i=N:=by omega
   subst this;unfold Un;refine hend.wp hm hA fun a w hA1 => ?_
   have:=hQ a w hA1;cases e with
   | nrm=>exact (he rfl).elim
   | ex id=>exact this
   | rt=>exact this
  | succ m ih =>
   intro i a w hi hA;unfold Un;exact (hstep i (by omega)).wp hm hA fun a w hA1=>ih (i+1) a w (by omega) hA1
 exact mW (key N 0 a w (by omega) hA)
end
theorem TabOkW.add {P:Program} {T:Tab} {base:Nat} {w0:World} (hT:TabOkW P T base w0) {f:Nat} {fn:Func} (hf:P.funcs[f]?=some fn) (hn:(fn.name == "runtime.NumGoroutine")=false) (hb:fn.body.isNone=false) {g:List CA→Option (List Prop×RV)}
  (h:∀w,Below base w0 w→∀cs pre r,g cs=some (pre,r)→aQ pre→∀(args:List Value),bZ w cs args→Calls P f args.toArray w (fun e w'=>e=.returned r.den∧Below w.heap.size w w')):TabOkW P (T.add f g) base w0:=by
 intro w hw f' cs pre r hg hp;unfold Tab.add at hg;cases hb':Nat.beq f' f<;>rw[hb']at hg
 ·exact hT w hw f' cs pre r hg hp
 ·cases Nat.eq_of_beq_eq_true hb';exact⟨dT hf hn hb,h w hw cs pre r hg hp⟩
theorem oldOf.go {base:Nat} {w0 w:World} (hb:Below base w0 w) (hbase:base≤w0.heap.size) {b o:Nat} {l:List At} (h:b<base∧w0.rangeAt b o (aA l)):oldOf w b o l :=
 ⟨Nat.lt_of_lt_of_le h.1 (Nat.le_trans hbase hb.size),eK hb h.1 h.2⟩
def assoc {α:Type}:List (Nat×α)→Nat→Option α
 | [],_=>none
 | (k,v)::r,s=>bif Nat.beq k s then some v else assoc r s
def iI (n:Nat):Value:=.int .i64 (Int.ofNat n)
def gN (b o n m:Nat):Value:=.slice (some ⟨b,o,none⟩) n m
theorem mQ {n:Nat} (h:n<9223372036854775808):IntKind.i64.wrap (n:Int)=n:=by rw[IntKind.wrap_i64]; omega
theorem NO {i n:Nat}:bH .lss .i64 (Int.ofNat i) (Int.ofNat n)=some (.bool (decide (i<n))):=by
 show some (Value.bool (decide ((i:Int)<(n:Int))))=_
 by_cases h:i<n
 ·rw[decide_eq_true h,decide_eq_true (by omega)]
 ·rw[decide_eq_false h,decide_eq_false (by omega)]
theorem KU {i n:Nat} (h:i<n):bH .lss .i64 (Int.ofNat i) (Int.ofNat n)=some (.bool true):=by rw[NO,decide_eq_true h]
theorem KV {i n:Nat} (h:n≤i):bH .lss .i64 (Int.ofNat i) (Int.ofNat n)=some (.bool false):=by rw[NO,decide_eq_false (by omega)]
theorem NQ {i k:Nat} (h:i+k<9223372036854775808):bH .add .i64 (Int.ofNat i) (Int.ofNat k)=some (iI (i+k)):=by
 show some (Value.int .i64 (IntKind.i64.wrap ((i:Int)+(k:Int))))=_;rw[show (i:Int)+(k:Int)=((i+k:Nat):Int) by omega,mQ h];rfl
theorem FE {i k:Nat} (h:k≤i) (hi:i<9223372036854775808):bH .sub .i64 (Int.ofNat i) (Int.ofNat k)=some (iI (i-k)):=by
 show some (Value.int .i64 (IntKind.i64.wrap ((i:Int)-(k:Int))))=_;rw[show (i:Int)-(k:Int)=((i-k:Nat):Int) by omega,mQ (by omega)];rfl
theorem UT {i k:Nat} (h:i*k<9223372036854775808):bH .mul .i64 (Int.ofNat i) (Int.ofNat k)=some (iI (i*k)):=by
 show some (Value.int .i64 (IntKind.i64.wrap ((i:Int)*(k:Int))))=_;rw[show (i:Int)*(k:Int)=((i*k:Nat):Int) by simp,mQ h];rfl
theorem US {i k:Nat} (hk:0<k) (h:i<9223372036854775808):bH .quo .i64 (Int.ofNat i) (Int.ofNat k)=some (iI (i/k)):=by
 show (if (k:Int)=0 then none else some (Value.int .i64 (IntKind.i64.wrap ((i:Int).tdiv (k:Int)))))=_;rw[if_neg (by omega),show (i:Int).tdiv (k:Int)=((i/k:Nat):Int)from rfl,mQ (Nat.lt_of_le_of_lt (Nat.div_le_self _ _) h)];rfl
section
variable {E:Env} {ops big:Array Oper} {base:Nat} {w0:World} {A A':List Fact} {TF:List (Option Nat×Fact)} {rs:List Rec} {ps:List Prop} {Q:Exit→Act→World→Prop}
theorem sJ {off:Nat} {R:List Nat} (hT:∀d,TabOkW E.P (E.T d) base w0) (hq:dA E.P E.q base w0) (hrun:oV E false ops ops.toList 0 (A.map fun φ=>(none,φ)) [] []=some (ps,TF,rs)) (hps:aQ ps) (hchk:RW false ops rs=true)
  (hsub:∀i,i<ops.size→big[off+i]?=ops[i]?) (hg:∀(i:Nat) (o:Oper),ops[i]?=some o→o.guard=none)
  (hQ:∀a w,Inv E false ops base w0 TF rs (fun i=>i<ops.size) a w→wpOps E.P big Q R a w) :
  ∀(m k:Nat) (a:Act) (w:World),k+m=ops.size→Inv E false ops base w0 TF rs (fun i=>i<k) a w→wpOps E.P big Q (List.range' (off+k) m++R) a w
 | 0,k,a,w,hk,hI=>by
  have:k=ops.size:=by omega
  subst this;exact hQ a w hI
 | m+1,k,a,w,hk,hI=>by
  have hlt:k<ops.size:=by omega
  have ho:ops[k]?=some ops[k]:=Array.getElem?_eq_getElem hlt;have hst:=nC hT hq hrun hps hchk (Q:=Q) hI ho (Nat.lt_irrefl k) (fun j hj=>by unfold HO at hj; simpa using hj);have hgk:=hg k _ ho;have hw1:∀y,Region.wanted ops[k] y=true:=fun y=>by unfold Region.wanted; rw[hgk]
  rw[if_pos (hw1 _)]at hst;simp only[List.range'_succ,List.cons_append,wpOps];rw[hsub k hlt,ho];simp only;have hnext:∀a' w',Inv E false ops base w0 TF rs (fun j=>j=k∨j<k) a' w'→wpOps E.P big Q (List.range' (off+k+1) m++R) a' w':=fun a' w' h=>by
   have:=sJ hT hq hrun hps hchk hsub hg hQ m (k+1) a' w' (by omega) (by
    have:(fun j=>j<k+1)=fun j=>j=k∨j<k:=funext fun j=>propext (by omega)
    rwa [this])
   rwa [←Nat.add_assoc]at this
  rw[if_pos (hw1 _)];exact Or.inl (Oper.wp_mono hnext hst)
theorem wA {off:Nat} {R:List Nat} (hT:∀d,TabOkW E.P (E.T d) base w0) (hq:dA E.P E.q base w0) (h:AL E false ops A=some (ps,A')) (hps:aQ ps)
  (hsub:∀i,i<ops.size→big[off+i]?=ops[i]?) (hg:ops.toList.all (fun o=>o.guard.isNone)=true) {a:Act} {w:World} (hA:Holds E.nt base w0 A a w)
  (hQ:∀a w,Holds E.nt base w0 A' a w→wpOps E.P big Q R a w):wpOps E.P big Q (List.range' off ops.size++R) a w:=by
 unfold AL at h;split at h
 ·rename_i ps' TF rs hrun;cases hc:(RW false ops rs&&UZ false ops)<;>rw[hc]at h
  ·cases h
  ·cases h;rw[Bool.and_eq_true]at hc;have hg':∀(i:Nat) (o:Oper),ops[i]?=some o→o.guard=none:=fun i o ho=>by
    rw[List.all_eq_true]at hg;have:=hg o (Array.mem_toList_iff.2 (Array.mem_of_getElem? ho));simpa using this
   have:=sJ (off:=off) (R:=R) (Q:=Q) hT hq hrun hps hc.1 hsub hg' (fun a w hI=>hQ a w (rT hrun (fun _ h=>h) hI)) ops.size 0 a w (by omega) (by
    have:(fun i=>i<0)=fun _:Nat=>False:=funext fun i=>propext ⟨fun h=>by omega,fun h=>h.elim⟩
    rw[this];exact kR hrun hA)
   rwa [Nat.add_zero]at this
 ·cases h
end
def DZ (P:Program) (q:EqT) (nt:Nat) (c:Cfg) (ops:Array Oper) (A K:List Fact):Option (List Prop×List Fact) :=
 match AL (XR P q nt c) false ops A with
 | some (ps,A1)=>match pick A1 K with|some L=>some (ps,L)|none=>none
 | none=>none
theorem tM {P:Program} {q:EqT} {nt base off:Nat} {c:Cfg} {w0:World} {ops big:Array Oper} {A K L:List Fact} {ps:List Prop} {Q:Exit→Act→World→Prop} {R:List Nat} (hT:∀d,TabOkW P (c.T d) base w0) (hq:dA P q base w0) (h:DZ P q nt c ops A K=some (ps,L)) (hps:aQ ps)
  (hsub:∀i,i<ops.size→big[off+i]?=ops[i]?) (hg:ops.toList.all (fun o=>o.guard.isNone)=true) {a:Act} {w:World} (hA:Holds nt base w0 A a w)
  (hQ:∀a w,Holds nt base w0 L a w→wpOps P big Q R a w):wpOps P big Q (List.range' off ops.size++R) a w:=by
 unfold DZ at h;split at h
 ·rename_i ps' A1 h1;split at h
  ·rename_i L' h2;cases h;exact wA (E:=XR P q nt c) hT hq h1 hps hsub hg hA fun a w hA1=>hQ a w (hA1.sub (fZ h2))
  ·cases h
 ·cases h
theorem lR {P:Program} {q:EqT} {nt base s e:Nat} {c:Cfg} {w0:World} {big:Array Oper} {A K L:List Fact} {ps:List Prop} {Q:Exit→Act→World→Prop} {R:List Nat} (hT:∀d,TabOkW P (c.T d) base w0) (hq:dA P q base w0) (h:DZ P q nt c (big.extract s e) A K=some (ps,L)) (hps:aQ ps)
  (hg:(big.extract s e).toList.all (fun o=>o.guard.isNone)=true) {a:Act} {w:World} (hA:Holds nt base w0 A a w)
  (hQ:∀a w,Holds nt base w0 L a w→wpOps P big Q R a w):wpOps P big Q (List.range' s (big.extract s e).size++R) a w :=
 tM hT hq h hps (fun i hi=>by
  have hi':i<min e big.size-s:=by simpa using hi
  rw[Array.getElem?_extract,if_pos hi']) hg hA hQ
theorem pB {P:Program} {big:Array Oper} {Q:Exit→Act→World→Prop} {R:List Nat} {i:Nat} {o:Oper} (ho:big[i]?=some o) (hg:o.guard=none) {a:Act} {w:World} (h:o.wp P a w (fun a w=>wpOps P big Q R a w) Q):wpOps P big Q (i::R) a w:=by
 simp only[wpOps];rw[ho];simp only;have hw:∀y,Region.wanted o y=true:=fun y=>by unfold Region.wanted; rw[hg]
 rw[if_pos (hw _)];exact Or.inl h
def nN:Code→Array Oper
 | .region _ ops _=>ops
 | _ => #[]
section
variable {P:Program} {nt base:Nat} {w0:World} {A:List Fact} {a:Act} {w:World}
theorem Holds.im (h:Holds nt base w0 A a w) {s k o n m b:Nat} (h1:Fact.slot s (.sl k o n m)∈A) (h2:Fact.at k b∈A):Holds nt base w0 (.slot s (.im (gN b o n m))::A) a w:=by
 obtain⟨β,g1,g2,g3⟩:=h.facts;have e1:=g1 _ h1;have e2:=g1 _ h2;simp only[Fact.ok]at e1 e2;have up:∀k1 o1 l1,Fact.row k1 o1 l1∈(Fact.slot s (.im (gN b o n m))::A)→Fact.row k1 o1 l1∈A:=fun k1 o1 l1 e=>by
  rcases List.mem_cons.1 e with e|e
  ·cases e
  ·exact e
 refine⟨h.defers,h.size,h.below,h.heap,β,fun φ hφ => ?_,fun k1 k2 o2 l1 l2 q1 q2=>g2 k1 k2 o2 l1 l2 (up _ _ _ q1) (up _ _ _ q2),fun k1 l1 e=>g3.1 k1 l1 (up _ _ _ e),g3.2⟩
 rcases List.mem_cons.1 hφ with rfl|hφ
 ·show a.tmps[s]?=_;rw[e1];simp[AV.den,e2,gN]
 ·exact g1 φ hφ
theorem Holds.old (h:Holds nt base w0 A a w) {k b:Nat} {l:List At} (h1:Fact.row k true l∈A) (h2:Fact.at k b∈A):oldOf w b 0 l:=by
 obtain⟨β,g1,g2⟩:=h.facts;obtain⟨e1,e2,_⟩:=g1 _ h1;have e3:=g1 _ h2;simp only[Fact.ok]at e3;rw[e3.1]at e1 e2;rw[e3.2]at e2;exact⟨e1,e2⟩
theorem Holds.slot (h:Holds nt base w0 A a w) {s:Nat} {v:Value} (h1:Fact.slot s (.im v)∈A):a.tmps[s]?=some v:=by
 obtain⟨β,g1,g2⟩:=h.facts;exact g1 _ h1
theorem Holds.put (h:Holds nt base w0 A a w) {w':World} (hb:Below w.heap.size w w') {d:Nat} (hd:d<nt) (v:TV) (hA:∀φ∈A,fL (some d) none φ=false):Holds nt base w0 (.slot d v.av::A) (a.put (some d) v.den) w':=by
 obtain⟨β,g1,g2,g3,gt⟩:=h.facts;have hP:=kX (base:=base) (β:=β) (a:=a) (w:=w) (w':=w') (M:=A) v.av (d:=d) (by rw[h.size]; exact hd) h.heap hb;rw[TV.av_den]at hP;have up:∀k1 o1 l1,Fact.row k1 o1 l1∈(Fact.slot d v.av::A)→Fact.row k1 o1 l1∈A:=fun k1 o1 l1 e=>by
  rcases List.mem_cons.1 e with e|e
  ·cases e
  ·exact e
 refine⟨by rw[fD]; exact h.defers,by rw[cJ]; exact h.size,h.below.trans (hb.mono h.heap),Nat.le_trans h.heap hb.size,β,fun φ hφ => ?_,fun k1 k2 o2 l1 l2 q1 q2=>g2 k1 k2 o2 l1 l2 (up _ _ _ q1) (up _ _ _ q2),fun k1 l1 e=>g3 k1 l1 (up _ _ _ e),Nat.le_trans gt.size hb.size,fun p h1 h2 => ?_,gt.shape.trans (Shape.below hb)⟩
 ·rcases List.mem_cons.1 hφ with rfl|hφ
  ·exact hP.ok _ (List.mem_singleton.2 rfl)
  ·exact QJ hP (g1 φ hφ) (hA φ hφ) fun kk k mP l q=>by cases q
 ·have hlt:=Nat.lt_of_lt_of_le h2 gt.size;have:=gt.mem p h1 h2;exact⟨(hb.cell hlt).trans this.1,(hb.frozen hlt).trans this.2⟩
end
def kL (f:Nat→List At):Nat→Nat→List At
 | _,0=>[]
 | s,n+1=>f s++kL f (s+1) n
theorem kK {f:Nat→List At} {c:Nat} (h:∀j,dV (f j)=c):∀n s,dV (kL f s n)=n*c
 | 0,s=>by simp[kL,dV]
 | n+1,s=>by
  show dV (f s++kL f (s+1) n)=_;rw[wS,h,kK h n,Nat.add_mul,Nat.one_mul,Nat.add_comm]
def Bq (f:Nat→List At) (z:List At) (N i:Nat):List At:=kL f 0 i++kL (fun _=>z) i (N-i)
def uY (l:List Value) (v:Value):Prop:=l=List.replicate l.length v
theorem DU {l m:List Value} {v:Value} (h:uY l v) (k:uY m v):uY (l++m) v:=by
 unfold uY at *;rw[h,k];simp[List.replicate_append_replicate]
theorem uP {z:List At} {v:Value} (h:uY (aA z) v):∀n s,uY (aA (kL (fun _=>z) s n)) v
 | 0,s=>rfl
 | n+1,s=>by
  show uY (aA (z++kL (fun _=>z) (s+1) n)) v;rw[aJ];exact DU h (uP h n (s+1))
theorem Bp {P:Program} {t e:TypeId} {i:TypeInfo} {zv:Value} {z:List At} {v:Value} {N:Nat} (ht:P.underlying t=some (.slice e)) (hi:P.info? e=some i) (hz:i.zero=some zv) (hs:i.size=dV z) (hv:zv.cells.toList=List.replicate i.size v) (hsame:uY (aA z) v) (h0:0<dV z)
  (hb:i.bytes*N≤281474976710656) (hN:N<4611686018427387904) :
  ∃e,∀w:World,(Instr.makeSlice t (iI N) (iI N)).run P w=.ok (.slice (some ⟨w.heap.size,0,none⟩) N N) (w.alloc (.cells (aA (kL (fun _=>z) 0 N)).toArray e)):=by
 refine⟨e,fun w => ?_⟩;have hr:=Go.run_make (P:=P) w t e i zv ht hi hz .i64 .i64 (N:Int) (N:Int) (by omega) (Int.le_refl _) (by rw[←Int.natCast_mul]; omega) (by omega);refine Eq.trans hr ?_;have hsz:zv.cells.size=i.size:=by rw[←Array.length_toList,hv,List.length_replicate]
 have hc:madeCells zv.cells (N*i.size)=(aA (kL (fun _=>z) 0 N)).toArray:=by
  have hl:=kK (f:=fun _=>z) (c:=dV z) (fun _=>rfl) N 0;have h2:=uP hsame N 0;rw[h2,aF,hl,←hs];unfold madeCells;apply Array.ext
  ·simp
  ·intro j h1 h3;simp only[Array.getElem_map,Array.getElem_range,List.getElem_toArray,List.getElem_replicate];have hj:j%zv.cells.size<zv.cells.size:=Nat.mod_lt _ (by rw[hsz,hs]; exact h0);have e1:zv.cells.toList[j%zv.cells.size]?=some v:=by
    rw[hv,List.getElem?_replicate,if_pos (by omega)]
   rw[Array.getElem?_toList]at e1;rw[getElem!_def,e1]
 simp only[Int.toNat_natCast,hc]
theorem AA {P:Program} {id:Nat} {ops:Array Oper} {l:List Nat} (hl:List.range ops.size=l) {Q:Exit→Act→World→Prop} {a:Act} {w:World} (h:wpOps P ops Q l a w):(Code.region id ops false).wp P Q a w:=wp_region (by rw[hl]; exact h)
theorem BM {P:Program} {fn:Func} {A:List Fact} {l:List TV} {r:RV} {nt base:Nat} {w0:World} (h1:lN P A fn.results.toList=some l) (h2:rv l=some r) {a:Act} {w':World} (hA:Holds nt base w0 A a w') {R:Ending→World→Prop} (hR:R (.returned r.den) w'):bodyPost P fn R .ret a w':=by
 obtain⟨β',hok,_⟩:=hA.facts;have hres:(results fn a.tmps).run P w'=.ok r.den w':=by
  have:=fC hok h1;show ((fn.results.mapM (mE a.tmps)) >>= fun vs=>pure (if h:vs.size=1 then vs[0]else .tuple vs):Sem Value).run P w'=_;have hm:(List.toArray <$> fn.results.toList.mapM (mE a.tmps)).run P w'=.ok (l.map TV.den).toArray w':=by simp[this]
  rw[Array.mapM_eq_mapM_toList,Sem.run_bind,hm,Result.andThen_ok,Sem.run_pure];exact congrArg (fun x=>Result.ok x w') (qR h2)
 exact⟨hA.defers,_,hres,hR⟩
theorem Holds.now {nt base:Nat} {w0:World} {A:List Fact} {a:Act} {w:World} (h:Holds nt base w0 A a w):Holds nt base w A a w:=by
 obtain⟨β,h1,h2,h3,h4⟩:=h.facts;exact⟨h.defers,h.size,Below.refl _ _,h.heap,β,h1,h2,h3,h4.size,fun _ _ _=>⟨rfl,rfl⟩,Shape.refl _⟩
theorem WrAt.refl (w:World) (b:Nat):WrAt w w b []:=⟨rfl,rfl,rfl,Nat.le_refl _,fun _ _ _=>rfl,Shape.refl _,fun _=>rfl⟩
theorem WrAt.below {w w1 w2:World} {b:Nat} (hb:b<w.heap.size) (h:WrAt w w1 b []) (h2:Below w.heap.size w1 w2):WrAt w w2 b [] :=
 ⟨h2.os.trans h.os,h2.tape.trans h.tape,h2.output.trans h.output,Nat.le_trans h.size h2.size,fun k hk hne=>(h2.block k hk).trans (h.block k hk hne),
  ⟨fun q cur e hq=>by
   obtain⟨c,h3,h4⟩:=h.shape.1 q cur e hq;exact⟨c,(h2.block q (Array.getElem?_eq_some_iff.1 hq).1).trans h3,h4⟩,Nat.le_trans h.size h2.size,fun q o hq ho=>(h2.block q (Array.getElem?_eq_some_iff.1 hq).1).trans (h.shape.2.same q o hq ho)⟩,fun j=>(World.frozen?_of_block (h2.block b hb)).trans (h.frozen j)⟩
theorem gU (b:Nat):∀(vs:List Value) (o:Nat) (w:World) (k:Nat),k≠b→(w.setCells b o vs).heap[k]?=w.heap[k]?
 | [],_,_,_,_=>rfl
 | v::r,o,w,k,h=>by
  rw[World.setCells,gU b r (o+1) _ k h];exact Below.heap_setCell w _ v k h
theorem fM (b:Nat):∀(vs:List Value) (o:Nat) (w:World),(w.setCells b o vs).os=w.os∧(w.setCells b o vs).tape=w.tape∧(w.setCells b o vs).output=w.output
 | [],_,_=>⟨rfl,rfl,rfl⟩
 | v::r,o,w=>by rw[World.setCells]; exact fM b r (o+1) _
theorem WrAt.set {w w1:World} {b:Nat} (h:WrAt w w1 b []) (o:Nat) (vs:List Value):WrAt w (w1.setCells b o vs) b [] :=
 ⟨(fM b vs o w1).1.trans h.os,(fM b vs o w1).2.1.trans h.tape,(fM b vs o w1).2.2.trans h.output,by rw[eC]; exact h.size,fun k hk hne=>(gU b vs o w1 k hne).trans (h.block k hk hne),
  h.shape.trans (fA b vs o w1),fun j=>by rw[World.frozen?_setCells]; exact h.frozen j⟩
theorem Holds.post {nt base:Nat} {w0:World} {A:List Fact} {a:Act} {w:World} (h:Holds nt base w0 A a w) {dst kill:Option Nat} {out:List Fact} {a':Act} {w':World}
  (hP:∀β,(∀φ∈A,φ.ok base β a w)→∃β',PostB base β β' a w dst A out kill a' w') (hd:fF dst nt=false:=by kernel_rfl):Holds nt base w0 (out++A.filter (fun φ => !(fL dst kill φ))) a' w':=by
 obtain⟨β,g1,g2,g3,gt⟩:=h.facts;obtain⟨β',P⟩:=hP β g1;have hkill:∀φ∈A,fL dst kill φ=false→∀kk k mP l,kill=some kk→φ=.row k mP l→(β kk).1≠(β k).1:=fun φ hφ hc kk k mP l hkk e=>by
  obtain⟨l0,hl0⟩:=P.kills kk hkk;have hne:kk≠k:=fun e2=>by
   rw[e]at hc;simp only[fL,Bool.or_eq_false_iff]at hc;have:=bO.2 (e2▸hkk:kill=some k);rw[hc.2]at this; cases this
  subst e;exact g2 kk k mP l0 l hl0 hφ hne
 have hmem:∀φ∈A.filter (fun φ => !(fL dst kill φ)),φ∈A∧fL dst kill φ=false:=fun φ hφ=>by
  obtain⟨h1,h2⟩:=List.mem_filter.1 hφ;exact⟨h1,by simpa using h2⟩
 have hβ:∀k mP l,Fact.row k mP l∈A.filter (fun φ => !(fL dst kill φ))→β' k=β k:=fun k mP l hφ=>by
  obtain⟨_,hc⟩:=hmem _ hφ;simp only[fL,Bool.or_eq_false_iff]at hc;exact P.beta k fun e=>by have:=bO.2 e; rw[hc.1]at this; cases this
 have hno:∀k l k' o' l',Fact.row k true l∈out→Fact.row k' o' l'∈A.filter (fun φ => !(fL dst kill φ))→k≠k'→(β' k).1≠(β' k').1:=fun k l k' o' l' hk hk' hne=>by
  rw[hβ k' o' l' hk'];obtain⟨hA',hc⟩:=hmem _ hk'
  rcases P.rows k l hk with⟨h2,_⟩|⟨h2,l0,h3⟩|⟨h2,k0,l0,hk0,he,h3⟩
  ·have:=(g1 _ hA').1;omega
  ·rw[P.beta k h2];exact g2 k k' o' l0 l' h3 hA' hne
  ·rw[he];refine g2 k0 k' o' l0 l' h3 hA' fun e => ?_
   subst e;simp only[fL,Bool.or_eq_false_iff]at hc;have:=bO.2 hk0;rw[hc.2]at this; cases this
 have hnt:β' nt=β nt:=P.beta nt fun e=>by have:=bO.2 e; rw[hd]at this; cases this
 refine⟨by rw[P.defers]; exact h.defers,by rw[P.size]; exact h.size,P.below w0 h.below,Nat.le_trans h.heap P.heap,β',fun φ hφ => ?_,fun k k' o' l l' hk hk' hne => ?_,fun k l hk => ?_,by rw[hnt]; exact Nat.le_trans gt.size P.heap,fun p q1 q2 => ?_,gt.shape.trans P.shape⟩
 ·rcases List.mem_append.1 hφ with hφ|hφ
  ·exact P.ok φ hφ
  ·obtain⟨h1,h2⟩:=hmem φ hφ;exact QJ P (g1 φ h1) h2 (hkill φ h1 h2)
 ·rcases List.mem_append.1 hk with hk|hk
  ·rcases List.mem_append.1 hk' with hk'|hk'
   ·cases o' with
    | true=>exact absurd (P.one k k' l l' hk hk') hne
    | false=>exact (P.onlyOwn k' l' hk').elim
   ·exact hno k l k' o' l' hk hk' hne
  ·rcases List.mem_append.1 hk' with hk'|hk'
   ·cases o' with
    | true=>exact fun e=>hno k' l' k true l hk' hk (Ne.symm hne) e.symm
    | false=>exact (P.onlyOwn k' l' hk').elim
   ·rw[hβ k true l hk,hβ k' o' l' hk'];exact g2 k k' o' l l' (hmem _ hk).1 (hmem _ hk').1 hne
 ·rw[hnt]
  rcases List.mem_append.1 hk with hk|hk
  ·rcases P.rows k l hk with⟨h2,_⟩|⟨h2,l0,h3⟩|⟨h2,k0,l0,hk0,he,h3⟩
   ·exact Or.inr (Nat.le_trans gt.size h2)
   ·rw[P.beta k h2];exact g3 k l0 h3
   ·rw[he];exact g3 k0 l0 h3
  ·rw[hβ k true l hk];exact g3 k l (hmem _ hk).1
 ·rw[hnt]at q2;have h3:=P.mem p (Nat.lt_of_lt_of_le q2 gt.size) fun kk hkk e=>by
   obtain⟨l0,hl0⟩:=P.kills kk hkk
   rcases g3 kk l0 hl0 with h4|h4<;>omega
  have h4:=gt.mem p q1 q2;exact⟨h3.1.trans h4.1,h3.2.trans h4.2⟩
end Go.Proofs.Ytjeplinbleofnaa.Ex
namespace Go.Proofs.Ytjeplinbleofnaa
open Go.Proofs.Try
open Go.RowKit
set_option maxHeartbeats 2000000 in
theorem LT (f:Int) (F:FC) (hf:FieldIs f F) (a0 a1 a2 a3 b0 b1 b2 b3:Nat) (ha:bQ a0 a1 a2 a3) (hb:bQ b0 b1 b2 b3) (la:aB a0 a1 a2 a3<F.M) (lb:aB b0 b1 b2 b3<F.M) (hz:aB b0 b1 b2 b3≠0) (w:World) :
  Calls prog 89 #[.int .i64 f,.agg #[.int .u64 a0,.int .u64 a1,.int .u64 a2,.int .u64 a3],.agg #[.int .u64 b0,.int .u64 b1,.int .u64 b2,.int .u64 b3]] w (JC 0 (aB a0 a1 a2 a3*(aB b0 b1 b2 b3^(F.M-2))%F.M) w):=by
 have HE:=Lib.hid (show ∀w,(Op.equalIn 10000 24 (.agg #[.int .u64 b0,.int .u64 b1,.int .u64 b2,.int .u64 b3]) (.agg #[.int .u64 0,.int .u64 0,.int .u64 0,.int .u64 0])).run prog w=.ok false w from fun w=>by
  have h:=kG 9998 b0 b1 b2 b3 0 0 0 0 w;have q:rR b0 b1 b2 b3 0 0 0 0=false:=by
   cases q:rR b0 b1 b2 b3 0 0 0 0
   ·rfl
   ·exact absurd (((iQ hb CK).1 q).trans rfl) hz
  rw[q]at h;exact h)
 have hG:=kH;clear hz
 go_enter func89,ntmps89
 go_wp2_with fail;refine (bU f F hf _).mono ?_
 rintro e w1 ⟨rfl,hbl⟩
 have M1:=((((Mem.nil w).new (w.heap.size) a0 a1 a2 a3 24 (by simp)).new (w.heap.size+1) b0 b1 b2 b3 24 (by simp)).new (w.heap.size+1+1) 0 0 0 0 24 (by simp)).on hbl;clear hbl;have z0:w.heap.size<w1.heap.size:=M1.lt (c0:=a0) (c1:=a1) (c2:=a2) (c3:=a3) (by simp);have z1:w.heap.size+1<w1.heap.size:=M1.lt (c0:=b0) (c1:=b1) (c2:=b2) (c3:=b3) (by simp);have z2:w.heap.size+1+1<w1.heap.size:=M1.lt (c0:=0) (c1:=0) (c2:=0) (c3:=0) (by simp);have HM:=Lib.hid (M1.on ((Below.refl _ _).alloc (Nat.le_refl _) (.cells #[.int .u64 F.m0,.int .u64 F.m1,.int .u64 F.m2,.int .u64 F.m3,.int .u64 F.inv,.int .u64 F.s0,.int .u64 F.s1,.int .u64 F.s2,.int .u64 F.s3] 101)));have KK:=Lib.hid (KIs.new w1 F 101);have kr:=M1.row (b:=w.heap.size) (c0:=a0) (c1:=a1) (c2:=a2) (c3:=a3) (by simp);have x0:=kr.c0; have x1:=kr.c1; have x2:=kr.c2; have x3:=kr.c3;clear kr;have xl:=M1.lt (b:=w.heap.size) (c0:=a0) (c1:=a1) (c2:=a2) (c3:=a3) (by simp);go_wp2_with fail;refine (bG F hf.ok w1.heap.size a0 a1 a2 a3 ha _ KK.out).mono ?_
 rintro e w2 ⟨he,hbl⟩
 rw[show pR (aB a0 a1 a2 a3) F.M=true from decide_eq_true la]at he;subst he;have HM':=Lib.hid (HM.out.on hbl);have KK':=Lib.hid (KK.out.same hbl);have zk:=KK'.out.lt;clear HM KK hbl M1;have HM:=HM';have KK:=KK';clear HM' KK';clear x0 x1 x2 x3 xl zk;have kr:=HM.out.row (b:=w.heap.size+1) (c0:=b0) (c1:=b1) (c2:=b2) (c3:=b3) (by simp);have x0:=kr.c0; have x1:=kr.c1; have x2:=kr.c2; have x3:=kr.c3;clear kr;have xl:=HM.out.lt (b:=w.heap.size+1) (c0:=b0) (c1:=b1) (c2:=b2) (c3:=b3) (by simp);go_wp2_with fail;refine (bG F hf.ok w1.heap.size b0 b1 b2 b3 hb _ KK.out).mono ?_
 rintro e w3 ⟨he,hbl⟩
 rw[show pR (aB b0 b1 b2 b3) F.M=true from decide_eq_true lb]at he;subst he;have HM':=Lib.hid (HM.out.on hbl);have KK':=Lib.hid (KK.out.same hbl);have zk:=KK'.out.lt;clear HM KK hbl;have HM:=HM';have KK:=KK';clear HM' KK';clear x0 x1 x2 x3 xl zk;have kr:=HM.out.row (b:=w.heap.size+1) (c0:=b0) (c1:=b1) (c2:=b2) (c3:=b3) (by simp);have u0:=kr.c0; have u1:=kr.c1; have u2:=kr.c2; have u3:=kr.c3;clear kr;have ul:=HM.out.lt (b:=w.heap.size+1) (c0:=b0) (c1:=b1) (c2:=b2) (c3:=b3) (by simp);have hE:=HE.out;go_wp2_with fail;clear u0 u1 u2 u3 ul hE;refine eF (fun wx=>Mem w wx [(w.heap.size+1,b0,b1,b2,b3),(w.heap.size,a0,a1,a2,a3)]) 6 (by kernel_rfl) ?_;have HM':=Lib.hid (HM.out.drewN 1);have KK':=Lib.hid (KK.out.drewN 1);clear HM KK;have HM:=HM';have KK:=KK';clear HM' KK';have HS:=HM.out.sub (rs':=[(w.heap.size+1,b0,b1,b2,b3),(w.heap.size,a0,a1,a2,a3)]) (by simp);refine aH (i:=0) (v:=.agg #[.int .u64 b0,.int .u64 b1,.int .u64 b2,.int .u64 b3]) rfl (by kernel_rfl) (by kernel_rfl) (by kernel_rfl) (by kernel_rfl) (fun _ _ _ h=>h) HS (Or.inl ⟨by kernel_rfl,fun wx hx => ?_⟩) ?_
 ·have kr:=hx.row (b:=w.heap.size+1) (c0:=b0) (c1:=b1) (c2:=b2) (c3:=b3) (by simp);have x0:=kr.c0; have x1:=kr.c1; have x2:=kr.c2; have x3:=kr.c3;clear kr HS hx;go_simp
 simp only[Act.put,List.setIfInBounds_toArray,List.set_cons_zero,List.set_cons_succ];refine aH (i:=3) (v:=.agg #[.int .u64 a0,.int .u64 a1,.int .u64 a2,.int .u64 a3]) rfl (by kernel_rfl) (by kernel_rfl) (by kernel_rfl) (by kernel_rfl) (fun _ _ _ h=>h) HS (Or.inl ⟨by kernel_rfl,fun wx hx => ?_⟩) ?_
 ·have kr:=hx.row (b:=w.heap.size) (c0:=a0) (c1:=a1) (c2:=a2) (c3:=a3) (by simp);have x0:=kr.c0; have x1:=kr.c1; have x2:=kr.c2; have x3:=kr.c3;clear kr HS hx;go_simp
 simp only[Act.put,List.setIfInBounds_toArray,List.set_cons_zero,List.set_cons_succ];clear HS;refine aG (i:=1) (by kernel_rfl) rfl (fun K hK => ?_);go_simp;refine (bL F hf.ok w1.heap.size b0 b1 b2 b3 hb _ KK.out).mono ?_
 rintro e w4 ⟨i0,i1,i2,i3,rfl,hi,hv,hbl⟩
 have HVi:=Lib.hid hv;clear hv;have HM':=Lib.hid (HM.out.on hbl);have KK':=Lib.hid (KK.out.same hbl);have zk_w4:=KK'.out.lt;clear HM KK hbl;have HM:=HM';have KK:=KK';clear HM' KK';have HS:=HM.out.sub (rs':=[(w.heap.size+1,b0,b1,b2,b3),(w.heap.size,a0,a1,a2,a3)]) (by simp);refine hK.out _ _ (Or.inr HS) (fun _ => ?_);clear hK K;clear HS;refine aG (i:=2) (by kernel_rfl) rfl (fun K hK => ?_);go_simp;refine (nW F hf.ok (aB b0 b1 b2 b3) w1.heap.size i0 i1 i2 i3 hi HVi.out _ KK.out).mono ?_
 rintro e w5 ⟨j0,j1,j2,j3,rfl,hj,hv,hbl⟩
 have HVj:=Lib.hid hv;clear hv;have HM':=Lib.hid (HM.out.on hbl);have KK':=Lib.hid (KK.out.same hbl);have zk_w5:=KK'.out.lt;clear HM KK hbl;have HM:=HM';have KK:=KK';clear HM' KK';have HS:=HM.out.sub (rs':=[(w.heap.size+1,b0,b1,b2,b3),(w.heap.size,a0,a1,a2,a3)]) (by simp);refine hK.out _ _ (Or.inr HS) (fun _ => ?_);clear hK K;clear HS;refine aG (i:=4) (by kernel_rfl) rfl (fun K hK => ?_);go_simp;refine (bC F hf.ok w1.heap.size j0 j1 j2 j3 a0 a1 a2 a3 hj ha la _ KK.out).mono ?_
 rintro e w6 ⟨s0,s1,s2,s3,rfl,hs,hv,hbl⟩
 have HVs:=Lib.hid (show aB s0 s1 s2 s3=aB a0 a1 a2 a3*(aB b0 b1 b2 b3^(F.M-2))%F.M by rw[hv,HVj.out,nR hf.ok,Nat.mul_comm]);clear hv;have HM':=Lib.hid (HM.out.on hbl);have KK':=Lib.hid (KK.out.same hbl);have zk_w6:=KK'.out.lt;clear HM KK hbl;have HM:=HM';have KK:=KK';clear HM' KK';have HS:=HM.out.sub (rs':=[(w.heap.size+1,b0,b1,b2,b3),(w.heap.size,a0,a1,a2,a3)]) (by simp);refine hK.out _ _ (Or.inr HS) (fun _ => ?_);clear hK K;clear HS;have kr:=HM.out.row (b:=w.heap.size+1+1) (c0:=0) (c1:=0) (c2:=0) (c3:=0) (by simp);have y0:=kr.c0; have y1:=kr.c1; have y2:=kr.c2; have y3:=kr.c3; have yf:=kr.fr;clear kr;have yl:=HM.out.lt (b:=w.heap.size+1+1) (c0:=0) (c1:=0) (c2:=0) (c3:=0) (by simp);refine aG (i:=5) (by kernel_rfl) rfl (fun K hK => ?_);go_simp;have HM':=Lib.hid ((HM.out.sub (rs':=[(w.heap.size+1+1,0,0,0,0),(w.heap.size+1,b0,b1,b2,b3),(w.heap.size,a0,a1,a2,a3)]) (by simp)).put s0 s1 s2 s3 (by omega) (by intro r hr; simp at hr; rcases hr with rfl|rfl<;>simp<;>omega));clear HM;have HM:=HM';clear HM';have HS:=HM.out.sub (rs':=[(w.heap.size+1,b0,b1,b2,b3),(w.heap.size,a0,a1,a2,a3)]) (by simp);refine hK.out _ _ (Or.inr HS) (fun _ => ?_);clear hK K;clear HS;refine aG (i:=6) (by kernel_rfl) rfl (fun K hK => ?_);go_simp;refine hK.out _ _ (Or.inl rfl) (fun _ => ?_);clear hK K;refine bK (by kernel_rfl) ?_;go_wp2_with fail;refine bodyPost_ret (v:=.tuple #[.agg #[.int .u64 s0,.int .u64 s1,.int .u64 s2,.int .u64 s3],.int .i64 0]) (by simp[results,results89,go_sem, *]) rfl ?_;exact⟨_,_,_,_,rfl,hs,HVs.out,HM.out.1⟩
end Go.Proofs.Ytjeplinbleofnaa
namespace Go.Proofs.Ytjeplinbleofnaa.Ex
open Go.Proofs.Try
open Go.RowKit
abbrev RM:Nat:=Go.Proofs.Ytjeplinbleofnaa.FR.M
abbrev bE:Nat:=115792089237316195423570985008687907853269984665640564039457584007913129639936
theorem fB {x:Nat} (h:x<RM):x<bE:=Nat.lt_trans h (by decide)
theorem cO:0<RM:=by decide
def QS:jO
 | [.v (.im (.int .u64 (.ofNat n)))]=>some ([n<18446744073709551616],.one (.fl [.q n]))
 | _=>none
theorem YU:∀cs pre r,QS cs=some (pre,r)→aQ pre→∀(args:List Value) (w:World),bZ w cs args→bF prog 46 r args w:=by
 intro cs pre r hg hp args w ha;unfold QS at hg;split at hg
 ·rename_i n;cases hg
  match args,ha with
  | [t],ha =>
   have h1:t=.int .u64 (Int.ofNat n):=ha.1;subst h1;refine (tU n hp.1 w).mono ?_
   rintro e w' ⟨rfl,hb⟩
   refine⟨?_,hb⟩;obtain⟨e0,e1,e2,e3⟩:=gO (s0:=n) (s1:=0) (s2:=0) (s3:=0) (x:=n) ⟨hp.1,by omega,by omega,by omega⟩ (by have:=hp.1; omega) (by unfold aB; omega);show Ending.returned _=Ending.returned (.agg #[.int .u64 (fw n 0:Nat),.int .u64 (fw n 1:Nat),.int .u64 (fw n 2:Nat),.int .u64 (fw n 3:Nat)]);rw[←e0,←e1,←e2,←e3];rfl
  | [],ha=>exact ha.elim
  | _::_::_,ha=>exact ha.2.elim
 ·cases hg
def el (f:Nat→Nat) (j:Nat):List At:=[.q (f j)]
def LV (w:World) (v:Value) (N:Nat) (f:Nat→Nat):Prop:=∃p m,v=.slice p N m∧N≤m∧(∀j,j<N→f j<bE)∧(0<N→∃b o,p=some ⟨b,o,none⟩∧b<w.heap.size∧w.rangeAt b o (aA (kL (el f) 0 N)))
theorem LV.on {w w':World} {v:Value} {N:Nat} {f:Nat→Nat} (h:LV w v N f) (hb:Below w.heap.size w w'):LV w' v N f:=by
 obtain⟨p,m,h1,h2,h3,h4⟩:=h;exact⟨p,m,h1,h2,h3,fun h=>by
  obtain⟨b,o,e,h5,h6⟩:=h4 h;exact⟨b,o,e,Nat.lt_of_lt_of_le h5 hb.size,eK hb h5 h6⟩⟩
theorem LV.nil (w:World) (f:Nat→Nat):LV w (.slice none 0 0) 0 f:=⟨none,0,rfl,Nat.le_refl _,fun j h=>by omega,fun h=>by omega⟩
def xO (w:World) (idx:Nat→Option Nat) (ld:Nat→Option (List At)) (gen:Nat→Option Value):Ext:={ Ext.none with idx:=idx,ld:=ld,gen:=gen,old:=oldOf w,T2:=TH,T3:=TG,T4:=WY,T5:=XD,T6:=YB }
theorem NA (w:World) (idx:Nat→Option Nat) (ld:Nat→Option (List At)) (gen:Nat→Option Value):dA prog { qG prog with x:=xO w idx ld gen } w.heap.size w :=
 ⟨(aX _).1,LX (fun b o l h=>h) (fun w' _=>FrAt.none _ _) (fun w' _=>FsAt.none _ _)⟩
def fJ (x y:Nat):Nat:=(x+y)%RM
def dU (x y:Nat):Nat:=(x+RM-y)%RM
def aM (x y:Nat):Nat:=x*y%RM
def Ah (x:Nat):Nat:=1*(x^(RM-2))%RM
theorem bR (x y:Nat):fJ x y<RM:=Nat.mod_lt _ cO
theorem bD (x y:Nat):dU x y<RM:=Nat.mod_lt _ cO
theorem aC (x y:Nat):aM x y<RM:=Nat.mod_lt _ cO
theorem PC (x:Nat):Ah x<RM:=Nat.mod_lt _ cO
theorem lG:FieldIs 2 Go.Proofs.Ytjeplinbleofnaa.FR:=Or.inr ⟨rfl,rfl⟩
theorem iY {x:Nat} (h:x<RM):aB (fw x 0) (fw x 1) (fw x 2) (fw x 3)=x:=rL (fB h)
def NU (op:Nat→Nat→Nat):jO
 | [.v (.im (.int .i64 2)),.v (.fl l),.v (.fl m)]=>match oR l,oR m with
  | some x,some y=>some ([x<RM,y<RM],.many [.fl [.q (op x y)],.im (.int .i64 0)])
  | _,_=>none
 | _=>none
theorem wR {fid:FuncId} {op:Nat→Nat→Nat} (hlt:∀x y,op x y<RM) (h:∀x y,x<RM→y<RM→∀w,Calls prog fid #[.int .i64 2,.agg (aA [At.q x]).toArray,.agg (aA [At.q y]).toArray] w (JC 0 (op x y) w)) :
  ∀cs pre r,NU op cs=some (pre,r)→aQ pre→∀(args:List Value) (w:World),bZ w cs args→bF prog fid r args w:=by
 intro cs pre r hg hp args w ha;unfold NU at hg;split at hg
 ·rename_i l m;split at hg
  ·rename_i x y hx hy;cases hg
   match args,ha with
   | [t,v,u],ha =>
    obtain⟨h1,h2,h3,_⟩:=ha;have h1:t=.int .i64 2:=h1;have h2:v=.agg (aA l).toArray:=h2;have h3:u=.agg (aA m).toArray:=h3;rw[cN l x hx]at h2;rw[cN m y hy]at h3;subst h1; subst h2; subst h3;refine (h x y hp.1 hp.2.1 w).mono ?_
    rintro e w' ⟨s0,s1,s2,s3,rfl,hs,hv,hb⟩
    obtain⟨rfl,rfl,rfl,rfl⟩:=gO hs (fB (hlt x y)) hv;exact⟨rfl,hb⟩
   | [],ha=>exact ha.elim
   | [_],ha=>exact ha.2.elim
   | [_,_],ha=>exact ha.2.2.elim
   | _::_::_::_::_,ha=>exact ha.2.2.2.elim
  ·cases hg
 ·cases hg
theorem UI:∀cs pre r,NU fJ cs=some (pre,r)→aQ pre→∀(args:List Value) (w:World),bZ w cs args→bF prog 87 r args w :=
 wR bR fun x y hx hy w=>by
  have:=LU 2 _ lG _ _ _ _ _ _ _ _ (dN x) (dN y) (by rw[iY hx]; exact hx) (by rw[iY hy]; exact hy) w;rw[iY hx,iY hy]at this;exact this
theorem UF:∀cs pre r,NU dU cs=some (pre,r)→aQ pre→∀(args:List Value) (w:World),bZ w cs args→bF prog 88 r args w :=
 wR bD fun x y hx hy w=>by
  have:=LR 2 _ lG _ _ _ _ _ _ _ _ (dN x) (dN y) (by rw[iY hx]; exact hx) (by rw[iY hy]; exact hy) w;rw[iY hx,iY hy]at this;exact this
theorem UG:∀cs pre r,NU aM cs=some (pre,r)→aQ pre→∀(args:List Value) (w:World),bZ w cs args→bF prog 86 r args w :=
 wR aC fun x y hx hy w=>by
  have:=LS 2 _ lG _ _ _ _ _ _ _ _ (dN x) (dN y) (by rw[iY hx]; exact hx) (by rw[iY hy]; exact hy) w;rw[iY hx,iY hy]at this;exact this
def IB (x:Nat):Int:=if x<RM then 0 else 21
def RA:jO
 | [.v (.im (.int .i64 2)),.v (.fl l)]=>match oR l with
  | some x=>some ([x<bE],.one (.im (.int .i64 (IB x))))
  | none=>none
 | _=>none
theorem KC:∀cs pre r,RA cs=some (pre,r)→aQ pre→∀(args:List Value) (w:World),bZ w cs args→bF prog 85 r args w:=by
 intro cs pre r hg hp args w ha;unfold RA at hg;split at hg
 ·rename_i l;split at hg
  ·rename_i x hx;cases hg
   match args,ha with
   | [t,v],ha =>
    obtain⟨h1,h2,_⟩:=ha;have h1:t=.int .i64 2:=h1;have h2:v=.agg (aA l).toArray:=h2;rw[cN l x hx]at h2;subst h1; subst h2;unfold IB
    by_cases h:x<RM
    ·rw[if_pos h];exact BP 2 _ lG _ _ _ _ (dN x) (by rw[rL hp.1]; exact h) w
    ·rw[if_neg h];exact wV 2 21 _ _ _ _ (dN x) (Or.inr ⟨_,lG,by rw[rL hp.1]; exact h,rfl⟩) w
   | [],ha=>exact ha.elim
   | [_],ha=>exact ha.2.elim
   | _::_::_::_,ha=>exact ha.2.2.elim
  ·cases hg
 ·cases hg
theorem cP:1<RM:=by decide
def KR:CR (Fin RM):=ZE RM cP
def cR (x:Nat):Fin RM:=⟨x%RM,Nat.mod_lt _ cO⟩
theorem gC (x y:Nat):cR (fJ x y)=KR.add (cR x) (cR y):=Fin.ext (by
 show (x+y)%RM%RM=(x%RM+y%RM)%RM;rw[Nat.mod_mod,Nat.add_mod])
theorem cC (x y:Nat):cR (aM x y)=KR.mul (cR x) (cR y):=Fin.ext (by
 show x*y%RM%RM=(x%RM)*(y%RM)%RM;rw[Nat.mod_mod,Nat.mul_mod])
theorem JF (x:Nat) {y:Nat} (hy:y<RM):cR (dU x y)=KR.add (cR x) (KR.neg (cR y)):=Fin.ext (by
 show (x+RM-y)%RM%RM=(x%RM+(0+RM-y%RM)%RM)%RM;rw[Nat.mod_mod,Nat.mod_eq_of_lt hy,Nat.mod_add_mod,Nat.add_mod_mod,show x+(0+RM-y)=x+RM-y by omega])
theorem mJ {x:Nat} (h:x<RM):(cR x).1=x:=Nat.mod_eq_of_lt h
theorem mK {x y:Nat} (hx:x<RM) (hy:y<RM) (h:cR x=cR y):x=y:=by
 have:=congrArg Fin.val h
 rwa [mJ hx,mJ hy]at this
theorem DD:cR 0=KR.zero:=rfl
theorem yG:cR 1=KR.one:=Fin.ext (Nat.mod_eq_of_lt cP)
open Classical
section
variable {R:Type} (K:CR R) (inv:R→R)
abbrev Jc (R:Type):=R×R×R
def vB (p:Jc R):Pt R:=if p.2.2=K.zero then none else some (K.mul p.1 (K.mul (inv p.2.2) (inv p.2.2)),K.mul p.2.1 (K.mul (K.mul (inv p.2.2) (inv p.2.2)) (inv p.2.2)))
def ZO (p:Jc R):R:=K.add (K.add (K.mul p.1 p.1) (K.mul p.1 p.1)) (K.mul p.1 p.1)
def ZN (p:Jc R):R:=K.add (K.mul p.2.1 p.2.1) (K.mul p.2.1 p.2.1)
def An (p:Jc R):R:=K.add (ZN K p) (ZN K p)
def ZP (p:Jc R):R:=K.mul p.1 (An K p)
def dX (p:Jc R):R:=K.sub (K.mul (ZO K p) (ZO K p)) (K.add (ZP K p) (ZP K p))
def dY (p:Jc R):R:=K.sub (K.mul (ZO K p) (K.sub (ZP K p) (dX K p))) (K.mul (An K p) (ZN K p))
def LK (p:Jc R):Jc R:=(dX K p,dY K p,K.mul (K.add p.2.1 p.2.1) p.2.2)
variable {K} {inv} {b:R}
theorem iB {p:Jc R} (h:p.2.2=K.zero):vB K inv p=none:=if_pos h
theorem kB {p:Jc R} (h:p.2.2≠K.zero):vB K inv p=some (K.mul p.1 (K.mul (inv p.2.2) (inv p.2.2)),K.mul p.2.1 (K.mul (K.mul (inv p.2.2) (inv p.2.2)) (inv p.2.2))):=if_neg h
theorem AI (E:EC K inv b) {x y l:R} (hy:K.add y y≠K.zero) (h:K.mul l (K.add y y)=K.add (K.add (K.mul x x) (K.mul x x)) (K.mul x x)):jR K inv x y x y=l:=by
 unfold jR;rw[if_pos rfl];refine E.F.cancel hy ?_;have hi:=E.F.inv _ hy;generalize inv (K.add y y)=k at hi;exact gP (K:=K) (c1:=(K.add (K.add (K.mul x x) (K.mul x x)) (K.mul x x))) (c2:=(K.neg K.one)) hi h (aI K (bA K [y,x,k,l]) ((Z0+Z0)*((Z1*Z1+Z1*Z1+Z1*Z1)*Z2)-(Z0+Z0)*Z3) ((Z1*Z1+Z1*Z1+Z1*Z1)*((Z0+Z0)*Z2-RE.one)+(-RE.one)*(Z3*(Z0+Z0)-(Z1*Z1+Z1*Z1+Z1*Z1))) (by kernel_rfl))
theorem LG (E:EC K inv b) {p:Jc R} (hp:On K b (vB K inv p)):vB K inv (LK K p)=vA K inv (vB K inv p) (vB K inv p):=by
 obtain⟨x,y,z⟩:=p
 by_cases hz:z=K.zero
 ·have h1:vB K inv (x,y,z)=none:=iB hz;rw[h1];refine iB ?_;show K.mul (K.add y y) z=K.zero;rw[hz,K.mul_zero]
 ·have h1:=kB (K:=K) (inv:=inv) (p:=(x,y,z)) hz;rw[h1]at hp ⊢;dsimp only at hp ⊢;have hi:=E.F.inv z hz;generalize inv z=i at hi hp ⊢;have hY:=E.y_ne (show K.mul (K.mul y (K.mul (K.mul i i) i)) (K.mul y (K.mul (K.mul i i) i))=_ from hp);have hy:y≠K.zero:=fun e=>hY (by rw[e,K.zero_mul])
  have hyy:=E.dbl_ne hy;have hz3:K.mul (K.add y y) z≠K.zero:=E.F.mul_ne hyy hz;have h3:=kB (K:=K) (inv:=inv) (p:=LK K (x,y,z)) hz3;rw[h3];show some (K.mul (dX K (x,y,z)) (K.mul (inv (K.mul (K.add y y) z)) (inv (K.mul (K.add y y) z))),K.mul (dY K (x,y,z)) (K.mul (K.mul (inv (K.mul (K.add y y) z)) (inv (K.mul (K.add y y) z))) (inv (K.mul (K.add y y) z))))=_;have hj:=E.F.inv _ hz3;generalize inv (K.mul (K.add y y) z)=j at hj ⊢;have e:i=K.mul (K.add y y) j:=gP (K:=K) (c1:=(K.neg i)) (c2:=(K.mul (K.add y y) j)) hj hi (aI K (bA K [i,y,j,z]) (Z0-(Z1+Z1)*Z2) ((-Z0)*((Z1+Z1)*Z3*Z2-RE.one)+(Z1+Z1)*Z2*(Z3*Z0-RE.one)) (by kernel_rfl));subst e;have hYY:=E.dbl_ne hY;rw[mN (fun h=>hYY h.2)];dsimp only;have hs:=AI (l:=(K.mul (K.add (K.add (K.mul x x) (K.mul x x)) (K.mul x x)) j)) (x:=(K.mul x (K.mul (K.mul (K.add y y) j) (K.mul (K.add y y) j)))) E hYY (aI K (bA K [x,j,y]) ((Z0*Z0+Z0*Z0+Z0*Z0)*Z1*(Z2*((Z2+Z2)*Z1*((Z2+Z2)*Z1)*((Z2+Z2)*Z1))+Z2*((Z2+Z2)*Z1*((Z2+Z2)*Z1)*((Z2+Z2)*Z1)))) (Z0*((Z2+Z2)*Z1*((Z2+Z2)*Z1))*(Z0*((Z2+Z2)*Z1*((Z2+Z2)*Z1)))+Z0*((Z2+Z2)*Z1*((Z2+Z2)*Z1))*(Z0*((Z2+Z2)*Z1*((Z2+Z2)*Z1)))+Z0*((Z2+Z2)*Z1*((Z2+Z2)*Z1))*(Z0*((Z2+Z2)*Z1*((Z2+Z2)*Z1)))) (by kernel_rfl));rw[hs];refine congrArg some (Prod.ext ?_ ?_)
  ·exact aI K (bA K [x,y,j]) (((Z0*Z0+Z0*Z0+Z0*Z0)*(Z0*Z0+Z0*Z0+Z0*Z0)-(Z0*(Z1*Z1+Z1*Z1+(Z1*Z1+Z1*Z1))+Z0*(Z1*Z1+Z1*Z1+(Z1*Z1+Z1*Z1))))*(Z2*Z2)) ((Z0*Z0+Z0*Z0+Z0*Z0)*Z2*((Z0*Z0+Z0*Z0+Z0*Z0)*Z2)-Z0*((Z1+Z1)*Z2*((Z1+Z1)*Z2))-Z0*((Z1+Z1)*Z2*((Z1+Z1)*Z2))) (by kernel_rfl)
  ·exact aI K (bA K [x,y,j]) (((Z0*Z0+Z0*Z0+Z0*Z0)*(Z0*(Z1*Z1+Z1*Z1+(Z1*Z1+Z1*Z1))-((Z0*Z0+Z0*Z0+Z0*Z0)*(Z0*Z0+Z0*Z0+Z0*Z0)-(Z0*(Z1*Z1+Z1*Z1+(Z1*Z1+Z1*Z1))+Z0*(Z1*Z1+Z1*Z1+(Z1*Z1+Z1*Z1)))))-(Z1*Z1+Z1*Z1+(Z1*Z1+Z1*Z1))*(Z1*Z1+Z1*Z1))*(Z2*Z2*Z2)) ((Z0*Z0+Z0*Z0+Z0*Z0)*Z2*(Z0*((Z1+Z1)*Z2*((Z1+Z1)*Z2))-((Z0*Z0+Z0*Z0+Z0*Z0)*Z2*((Z0*Z0+Z0*Z0+Z0*Z0)*Z2)-Z0*((Z1+Z1)*Z2*((Z1+Z1)*Z2))-Z0*((Z1+Z1)*Z2*((Z1+Z1)*Z2))))-Z1*((Z1+Z1)*Z2*((Z1+Z1)*Z2)*((Z1+Z1)*Z2))) (by kernel_rfl)
def FX (K:CR R) (p:Jc R):Jc R:=(p.1,K.sub K.zero p.2.1,p.2.2)
theorem LF (p:Jc R):vB K inv (FX K p)=NI K (vB K inv p):=by
 by_cases h:p.2.2=K.zero
 ·rw[iB h,iB (p:=FX K p) h]; rfl
 ·rw[kB h,kB (p:=FX K p) h];refine congrArg some (Prod.ext rfl ?_);show K.mul (K.sub K.zero p.2.1) _=K.neg (K.mul p.2.1 _);rw[←K.neg_mul];congr 1;exact K.zero_add _
end
namespace AG
variable {G:Type} (A:AG G)
theorem addz (a:G):A.add a A.zero=a:=by rw[A.comm,A.zadd]
theorem addn (a:G):A.add a (A.neg a)=A.zero:=by rw[A.comm,A.nadd]
theorem left_comm (a b c:G):A.add a (A.add b c)=A.add b (A.add a c):=by rw[←A.assoc,A.comm a b,A.assoc]
theorem cancel {a b c:G} (h:A.add a b=A.add a c):b=c:=by
 have:=congrArg (A.add (A.neg a)) h
 rwa [←A.assoc,←A.assoc,A.nadd,A.zadd,A.zadd]at this
theorem neg_add (a b:G):A.neg (A.add a b)=A.add (A.neg a) (A.neg b):=by
 apply A.cancel (a:=A.add a b);rw[A.addn,A.assoc,A.left_comm b,A.addn,A.addz,A.addn]
def ns:Nat→G→G
 | 0,_=>A.zero
 | n+1,g=>A.add (ns n g) g
theorem ns_add (m:Nat) (g:G):∀n,A.ns (m+n) g=A.add (A.ns m g) (A.ns n g)
 | 0=>(A.addz _).symm
 | n+1=>by show A.add (A.ns (m+n) g) g=A.add _ (A.add _ _); rw[ns_add m g n,A.assoc]
theorem ns_zero:∀n,A.ns n A.zero=A.zero
 | 0=>rfl
 | n+1=>by show A.add (A.ns n _) _=_; rw[ns_zero n,A.zadd]
theorem ns_mul (m:Nat) (g:G):∀n,A.ns (m*n) g=A.ns n (A.ns m g)
 | 0=>rfl
 | n+1=>by rw[Nat.mul_add,Nat.mul_one,ns_add,ns_mul m g n]; rfl
def zs:Int→G→G
 | .ofNat n,g=>A.ns n g
 | .negSucc n,g=>A.neg (A.ns (n+1) g)
end AG
def WM (w:Nat):Int:=((w+1)/2:Nat)-(if 16≤w then 16 else 0:Int)
def ZR (x p:Nat):Nat:=(if p=0 then x*2 else x/2^(p*4-1))%32
def iU (x PL:Nat):Nat→Int
 | 0=>0
 | i+1=>16*iU x PL i+WM (ZR x (PL-1-i))
open Classical
section
variable {R:Type} {K:CR R} {inv:R→R} {b:R}
def Rp (E:EC K inv b) (p:Jc R) (P:{p:Pt R // On K b p}):Prop:=vB K inv p=P.1
theorem Rp.on {E:EC K inv b} {p:Jc R} {P:{p:Pt R // On K b p}} (h:Rp E p P):On K b (vB K inv p):=by
 rw[show vB K inv p=P.1 from h]; exact P.2
theorem Rp.dbl {E:EC K inv b} {p:Jc R} {P:{p:Pt R // On K b p}} (h:Rp E p P):Rp E (LK K p) (E.grp.add P P):=by
 show vB K inv (LK K p)=vA K inv P.1 P.1;rw[LG E h.on,show vB K inv p=P.1 from h]
theorem Rp.neg {E:EC K inv b} {p:Jc R} {P:{p:Pt R // On K b p}} (h:Rp E p P):Rp E (FX K p) (E.grp.neg P):=by
 show vB K inv (FX K p)=NI K P.1;rw[LF,show vB K inv p=P.1 from h]
theorem Rp.zero {E:EC K inv b} {p:Jc R} (h:p.2.2=K.zero):Rp E p E.grp.zero:=iB h
end
namespace AG
variable {G:Type} (A:AG G)
end AG
namespace AG
variable {G:Type} (A:AG G)
theorem ns_modz {g:G} {n:Nat} (h:A.ns n g=A.zero) (m:Nat):A.ns (m%n) g=A.ns m g:=by
 conv=>rhs; rw[←Nat.div_add_mod m n,A.ns_add,A.ns_mul,h,A.ns_zero,A.zadd]
theorem ns_gcd {g:G} (a b:Nat):A.ns a g=A.zero→A.ns b g=A.zero→A.ns (Nat.gcd a b) g=A.zero:=by
 induction a,b using Nat.gcd.induction with
 | H0 n=>intro _ h; rw[Nat.gcd_zero_left]; exact h
 | H1 m n hm ih =>
  intro h1 h2;rw[Nat.gcd_rec];exact ih (by rw[A.ns_modz h1]; exact h2) h1
theorem exact {g:G} {N:Nat} {l:List Nat} (hl:l.foldr (· * ·) 1=N) (hp:∀q,q∈l→dO q) (h0:A.ns N g=A.zero) (hq:∀q,q∈l→A.ns (N/q) g≠A.zero) (k:Nat) (hk:0<k) (hN:k<N):A.ns k g≠A.zero:=fun h=>by
 have hd:=A.ns_gcd k N h h0;obtain⟨e,he⟩:=Nat.gcd_dvd_right k N;have hdk:Nat.gcd k N≤k:=Nat.le_of_dvd hk (Nat.gcd_dvd_left k N);have hd0:0<Nat.gcd k N:=Nat.gcd_pos_of_pos_left N hk;have he1:1<e:=by
  rcases Nat.lt_or_ge 1 e with q|q
  ·exact q
  ·have:Nat.gcd k N*e≤Nat.gcd k N*1:=Nat.mul_le_mul_left _ q;omega
 obtain⟨q,hql,f,hf⟩:=jU l e (by rw[hl]; exact⟨Nat.gcd k N,by rw[Nat.mul_comm]; exact he⟩) he1 hp;refine hq q hql ?_;have hq0:0<q:=Nat.lt_trans Nat.zero_lt_one (hp q hql).1;have e1:N/q=Nat.gcd k N*f:=by
  rw[Nat.div_eq_of_eq_mul_left hq0];rw[Nat.mul_assoc,Nat.mul_comm f q,←hf];exact he
 rw[e1,A.ns_mul,hd,A.ns_zero]
end AG
end Go.Proofs.Ytjeplinbleofnaa.Ex
namespace Go.Proofs.Ytjeplinbleofnaa
open Go.Proofs.Try
open Go.RowKit
theorem KIs.set4 {w:World} {b d:Nat} {F:FC} (h:KIs w b F) (hd:d≠b) (d0 d1 d2 d3:Nat):KIs (Go.Proofs.Ytjeplinbleofnaa.set4 w d d0 d1 d2 d3) b F:=(((h.other hd _).other hd _).other hd _).other hd _
theorem pZ {a0 a1 a2 a3 b0 b1 b2 b3:Nat} (h:¬rR a0 a1 a2 a3 b0 b1 b2 b3=true):rR a0 a1 a2 a3 b0 b1 b2 b3=false:=by cases q:rR a0 a1 a2 a3 b0 b1 b2 b3 with|false=>rfl|true=>exact absurd q h
end Go.Proofs.Ytjeplinbleofnaa
