/- Jz09 -/
import Derived.Laws.MakeOwn
import Derived.Laws.BitsAllLaws
import Derived.Shelf.Spec.TrailingZeros
import Derived.Laws.ComplexArith
import Derived.Test.YtjeplinbleofnaaGreatJz08
import Derived.Test.YtjeplinbleofnaaGreatJz02
import Derived.Test.YtjeplinbleofnaaGreatJz00
import Derived.Test.YtjeplinbleofnaaGreatJz01
import Derived.Test.YtjeplinbleofnaaGreatJz07
import Derived.Test.YtjeplinbleofnaaGreatJz05
import Derived.Test.YtjeplinbleofnaaGreatProg
set_option maxRecDepth 100000
set_option linter.unusedVariables false
set_option linter.unusedSimpArgs false
set_option linter.unnecessarySimpa false
noncomputable section
namespace Go.Proofs.YtjeplinbleofnaaGreat.Ex
open Go.Proofs.Tryz
open Go.RowKit
theorem GY {w:World} {l l':List At} {n m:Nat} {args:List Value} (e:aD l=aD l') (h:cE w [.s l n m] args):cE w [.s l' n m] args:=by
 match args,h with
 | [v],h =>
  obtain⟨⟨b,o,rfl,hb,hr⟩,_⟩:=h;exact⟨⟨b,o,rfl,hb,e▸hr⟩,trivial⟩
 | [],h=>exact h.elim
 | _::_::_,h=>exact h.2.elim
def Gl (k:Nat) (c:List Nat→List Prop×RV):gH
 | [.s l n m]=>bif Nat.beq n k then (match CO l with|some x=>some (c x)|none=>none)else none
 | _=>none
theorem QH {f:FuncId} {k:Nat} {c:List Nat→List Prop×RV} (h:∀x m,aP (c x).1→∀args w,cE w [.s (x.map .q) k m] args→bE prog f (c x).2 args w) :
  ∀cs pre r,Gl k c cs=some (pre,r)→aP pre→∀(args:List Value) (w:World),cE w cs args→bE prog f r args w:=by
 intro cs pre r hg hp args w ha;unfold Gl at hg;split at hg
 ·rename_i l n m;cases hb:Nat.beq n k<;>rw[hb]at hg
  ·cases hg
  ·cases Nat.eq_of_beq_eq_true hb;simp only[cond_true]at hg;split at hg
   ·rename_i x hx;have e:c x=(pre,r):=by simpa using hg
    have:=h x m (by rw[e]; exact hp) args w (GY (nL hx) ha);rw[e]at this;exact this
   ·cases hg
 ·cases hg
def wX (x y:Nat):Bool:=decide (x<RM∧y<RM)
theorem LI (x y m:Nat):cK prog (qG prog) (fun _=>⟨fun _=>lE,fun _=>true,assoc [(13,.bool false)]⟩) f68 60 [.s [.q x,.q y] 2 m]=some ([x<aU,bD .neq .i64 (RS x) 0=some (.bool false),y<aU,bD .neq .i64 (RS y) 0=some (.bool false)],.one (.im (.bool true))):=by kernel_rfl
theorem LK (x y m:Nat):cK prog (qG prog) (fun _=>⟨fun _=>lE,fun _=>true,assoc [(13,.bool true)]⟩) f68 60 [.s [.q x,.q y] 2 m]=some ([x<aU,bD .neq .i64 (RS x) 0=some (.bool true)],.one (.im (.bool false))):=by kernel_rfl
theorem LJ (x y m:Nat):cK prog (qG prog) (fun n=>⟨fun _=>lE,fun _=>true,assoc [(13,.bool (Nat.blt n 48))]⟩) f68 60 [.s [.q x,.q y] 2 m]=some ([x<aU,bD .neq .i64 (RS x) 0=some (.bool false),y<aU,bD .neq .i64 (RS y) 0=some (.bool true)],.one (.im (.bool false))):=by kernel_rfl
theorem LL (x y m:Nat) (hx:x<aU) (hy:y<aU) (args:List Value) (w:World) (ha:cE w [.s [.q x,.q y] 2 m] args):bE prog 68 (.one (.im (.bool (wX x y)))) args w:=by
 unfold wX
 by_cases h1:x<RM
 ·by_cases h2:y<RM
  ·rw[decide_eq_true ⟨h1,h2⟩];exact aH aT (fun _ _=>gD) (aW _) func68 (LI x y m) ⟨hx,DY h1,hy,DY h2,trivial⟩ ha
  ·rw[decide_eq_false (fun h=>h2 h.2)];exact aH aT (fun _ _=>gD) (aW _) func68 (LJ x y m) ⟨hx,DY h1,hy,GX h2,trivial⟩ ha
 ·rw[decide_eq_false (fun h=>h1 h.1)];exact aH aT (fun _ _=>gD) (aW _) func68 (LK x y m) ⟨hx,GX h1,trivial⟩ ha
def Mf (b:Bool):List Nat→List Prop×RV
 | [x,y]=>([x<aU,y<aU,wX x y=b],.one (.im (.bool b)))
 | _=>([False],.one (.im (.bool b)))
theorem Lu (b:Bool):∀cs pre r,Gl 2 (Mf b) cs=some (pre,r)→aP pre→∀(args:List Value) (w:World),cE w cs args→bE prog 68 r args w :=
 QH fun x m hp args w ha=>by
  match x,hp,ha with
  | [x,y],hp,ha =>
   have h:=LL x y m hp.1 hp.2.1 args w ha;rw[hp.2.2.1]at h;exact h
  | [],hp,_=>exact hp.1.elim
  | [_],hp,_=>exact hp.1.elim
  | _::_::_::_,hp,_=>exact hp.1.elim
theorem Jl (x y:Nat):cK prog (qG prog) (fun _=>⟨fun _=>lE,fun _=>true,fun _=>none⟩) f69 60 [.v (.fl [.q x]),.v (.fl [.q y])]=some ([x<RM,y<RM,aI x x<RM,aI 168700 (aI x x)<RM,aI y y<RM,1<18446744073709551616,aI x x<RM,aI y y<RM,aI (aI x x) (aI y y)<RM,1<RM,aI 168696 (aI (aI x x) (aI y y))<RM,aD [At.q (eG (aI 168700 (aI x x)) (aI y y))]=aD [At.q (eG 1 (aI 168696 (aI (aI x x) (aI y y))))]],.one (.im (.bool true))):=by kernel_rfl
theorem Jm (x y:Nat):cK prog (qG prog) (fun _=>⟨fun _=>lE,fun _=>false,fun _=>none⟩) f69 60 [.v (.fl [.q x]),.v (.fl [.q y])]=some ([x<RM,y<RM,aI x x<RM,aI 168700 (aI x x)<RM,aI y y<RM,1<18446744073709551616,aI x x<RM,aI y y<RM,aI (aI x x) (aI y y)<RM,1<RM,aI 168696 (aI (aI x x) (aI y y))<RM,aD [At.q (eG (aI 168700 (aI x x)) (aI y y))]≠aD [At.q (eG 1 (aI 168696 (aI (aI x x) (aI y y))))]],.one (.im (.bool false))):=by kernel_rfl
theorem YV {a b:Nat} (ha:a<RM) (hb:b<RM) (h:aD [At.q a]=aD [At.q b]):a=b:=by
 have h:[Value.int .u64 (fw a 0:Nat),.int .u64 (fw a 1:Nat),.int .u64 (fw a 2:Nat),.int .u64 (fw a 3:Nat)]=[Value.int .u64 (fw b 0:Nat),.int .u64 (fw b 1:Nat),.int .u64 (fw b 2:Nat),.int .u64 (fw b 3:Nat)]:=h;simp only[List.cons.injEq,Value.int.injEq,true_and,and_true,Int.natCast_inj]at h;rw[←gT ha,←gT hb,h.1,h.2.1,h.2.2.1,h.2.2.2]
theorem JT (x y:Nat) (hx:x<RM) (hy:y<RM) (args:List Value) (w:World) (ha:cE w [.v (.fl [.q x]),.v (.fl [.q y])] args):bE prog 69 (.one (.im (.bool (decide (FJ x y))))) args w:=by
 by_cases h:FJ x y
 ·rw[decide_eq_true h];exact aH aT (fun _ _=>gD) (aW _) func69 (Jl x y) ⟨hx,hy,aE _ _,aE _ _,aE _ _,by decide,aE _ _,aE _ _,aE _ _,cT,aE _ _,by rw[h],trivial⟩ ha
 ·rw[decide_eq_false h];exact aH aT (fun _ _=>gD) (aW _) func69 (Jm x y) ⟨hx,hy,aE _ _,aE _ _,aE _ _,by decide,aE _ _,aE _ _,aE _ _,cT,aE _ _,fun e=>h (YV (cC _ _) (cC _ _) e),trivial⟩ ha
def Ds (b:Bool):gH
 | [.v (.fl l),.v (.fl m)]=>match lX l,lX m with|some x,some y=>some ([x<RM,y<RM,decide (FJ x y)=b],.one (.im (.bool b)))|_,_=>none
 | _=>none
theorem Lm (b:Bool):∀cs pre r,Ds b cs=some (pre,r)→aP pre→∀(args:List Value) (w:World),cE w cs args→bE prog 69 r args w:=by
 intro cs pre r hg hp args w ha;unfold Ds at hg;split at hg
 ·rename_i l m;split at hg
  ·rename_i x y hx hy;cases hg;have h:=JT x y hp.1 hp.2.1 args w (by
    match args,ha with
    | [v,u],ha =>
     refine⟨?_,?_,trivial⟩
     ·show v=.agg (aD (q1 x)).toArray;rw[←bZ l x hx]; exact ha.1
     ·show u=.agg (aD (q1 y)).toArray;rw[←bZ m y hy]; exact ha.2.1
    | [],ha=>exact ha.elim
    | [_],ha=>exact ha.2.elim
    | _::_::_::_,ha=>exact ha.2.2.elim)
   rw[hp.2.2.1]at h;exact h
  ·cases hg
 ·cases hg
def XO (b c:Bool):Tab:=(lE.add 68 (Gl 2 (Mf b))).add 69 (Ds c)
theorem PC (b c:Bool):TabOk prog (XO b c):=(gD.add func68 (by kernel_rfl) (by kernel_rfl) (Lu b)).add func69 (by kernel_rfl) (by kernel_rfl) (Lm c)
theorem Mq (x y m:Nat):cK prog (qG prog) (fun n=>⟨fun _=>XO true true,fun _=>true,fun _=>none⟩) f32 60 [.s [.q x,.q y] 1 m]=some ([x<aU,y<aU,wX x y=true,x<RM,y<RM,decide (FJ x y)=true],.one (.im (.bool true))):=by kernel_rfl
theorem Mr (x y m:Nat):cK prog (qG prog) (fun n=>⟨fun _=>XO true false,fun _=>true,fun _=>none⟩) f32 60 [.s [.q x,.q y] 1 m]=some ([x<aU,y<aU,wX x y=true,x<RM,y<RM,decide (FJ x y)=false],.one (.im (.bool false))):=by kernel_rfl
theorem Ms (x y m:Nat):cK prog (qG prog) (fun n=>⟨fun _=>XO false false,fun _=>true,fun _=>none⟩) f32 60 [.s [.q x,.q y] 1 m]=some ([x<aU,y<aU,wX x y=false],.one (.im (.bool false))):=by kernel_rfl
def jX (x y:Nat):Bool:=decide (OnJ x y)
theorem FK {x y:Nat} (h:OnJ x y):jX x y=true:=decide_eq_true h
theorem qQ {x y:Nat}:jX x y=true↔OnJ x y:=⟨of_decide_eq_true,decide_eq_true⟩
theorem JV (x y:Nat):(jX x y=true∧wX x y=true∧x<RM∧y<RM∧decide (FJ x y)=true)∨(jX x y=false∧wX x y=true∧x<RM∧y<RM∧decide (FJ x y)=false)∨(jX x y=false∧wX x y=false):=by
 by_cases h:x<RM∧y<RM
 ·by_cases k:FJ x y
  ·exact Or.inl ⟨decide_eq_true ⟨h,k⟩,decide_eq_true h,h.1,h.2,decide_eq_true k⟩
  ·exact Or.inr (Or.inl ⟨decide_eq_false fun q=>k q.2,decide_eq_true h,h.1,h.2,decide_eq_false k⟩)
 ·exact Or.inr (Or.inr ⟨decide_eq_false fun q=>h q.1,decide_eq_false h⟩)
theorem LQ (x y m:Nat) (hx:x<aU) (hy:y<aU) (args:List Value) (w:World) (ha:cE w [.s [.q x,.q y] 1 m] args):bE prog 32 (.one (.im (.bool (jX x y)))) args w:=by
 rcases JV x y with⟨e,h1,h2,h3,h4⟩|⟨e,h1,h2,h3,h4⟩|⟨e,h1⟩
 ·rw[e];exact aH aT (fun _ _=>PC _ _) (aW _) func32 (Mq x y m) ⟨hx,hy,h1,h2,h3,h4,trivial⟩ ha
 ·rw[e];exact aH aT (fun _ _=>PC _ _) (aW _) func32 (Mr x y m) ⟨hx,hy,h1,h2,h3,h4,trivial⟩ ha
 ·rw[e];exact aH aT (fun _ _=>PC _ _) (aW _) func32 (Ms x y m) ⟨hx,hy,h1,trivial⟩ ha
def Mg (b:Bool):List Nat→List Prop×RV
 | [x,y]=>([x<aU,y<aU,jX x y=b],.one (.im (.bool b)))
 | _=>([False],.one (.im (.bool b)))
theorem Lv (b:Bool):∀cs pre r,Gl 1 (Mg b) cs=some (pre,r)→aP pre→∀(args:List Value) (w:World),cE w cs args→bE prog 32 r args w :=
 QH fun x m hp args w ha=>by
  match x,hp,ha with
  | [x,y],hp,ha =>
   have h:=LQ x y m hp.1 hp.2.1 args w ha;rw[hp.2.2.1]at h;exact h
  | [],hp,_=>exact hp.1.elim
  | [_],hp,_=>exact hp.1.elim
  | _::_::_::_,hp,_=>exact hp.1.elim
def SV (b:Bool):Tab:=lE.add 32 (Gl 1 (Mg b))
theorem PF (b:Bool):TabOk prog (SV b):=gD.add func32 (by kernel_rfl) (by kernel_rfl) (Lv b)
abbrev kC:List At:=[.f ⟨0,cP⟩,.f ⟨0,cP⟩]
abbrev w2 (p:NP):Prop:=p.1<aU∧p.2<aU
def fD (p:NP) (e:Int):RV:=.many [.fl [.q p.1,.q p.2],.im (.int .i64 e)]
theorem Ch (p:NP) (b:Bool):cK prog (qG prog) (fun n=>⟨fun _=>SV b,fun _=>true,fun _=>none⟩) f31 60 [.v (.fl [.q p.1,.q p.2])]=some ([p.1<aU,p.2<aU,jX p.1 p.2=b],.one (.im (.bool b))):=by kernel_rfl
def cj (P:JP):NP:=(P.1.1.1,P.1.2.1)
theorem OnJ.w {x y:Nat} (h:OnJ x y):x<aU∧y<aU:=⟨fH h.1.1,fH h.1.2⟩
theorem JU (p:NP) (hp:w2 p) (args:List Value) (w:World) (ha:cE w [.v (.fl (q2 p))] args):bE prog 31 (.one (.im (.bool (jX p.1 p.2)))) args w :=
 aH aT (fun _ _=>PF _) (aW _) func31 (Ch p _) ⟨hp.1,hp.2,rfl,trivial⟩ ha
def Nx (a b c:NJ):gH
 | [.v (.fl l),.v (.fl m)]=>some ([aD l=aD (q3 a),aD m=aD (q3 b)],.one (.fl (q3 c)))
 | _=>none
def KA (p:NJ):Prop:=p.1<RM∧p.2.1<RM∧p.2.2<RM
theorem Ln {a b c:NJ} (ha:KA a) (hb:KA b) (hc:c=kB a b):∀cs pre r,Nx a b c cs=some (pre,r)→aP pre→∀(args:List Value) (w:World),cE w cs args→bE prog 74 r args w:=by
 intro cs pre r hg hp args w h;unfold Nx at hg;split at hg
 ·rename_i l m;cases hg
  match args,h with
  | [v,u],h =>
   have h1:v=.agg (aD l).toArray:=h.1;have h2:u=.agg (aD m).toArray:=h.2.1;rw[hp.1]at h1;rw[hp.2.1]at h2;subst h1; subst h2; subst hc;exact bR aT pK (aW _) func74 (zI a b) (⟨ha.2.2,hb.2.2,ha.1,hb.1,ha.2.1,hb.2.1,(aE _ _),(aE _ _),(aE _ _),(aE _ _),(aE _ _),(aE _ _),(aE _ _),(aE _ _),ha.1,ha.2.1,hb.1,hb.2.1,(cC _ _),(cC _ _),(aE _ _),(aE _ _),(bI _ _),(aE _ _),(aE _ _),(bI _ _),(aE _ _),(bI _ _),(aE _ _),(cC _ _),(aE _ _),(aE _ _),(aE _ _),(aE _ _),(bI _ _),(bI _ _),(cC _ _),trivial⟩) (args:=[_,_]) ⟨rfl,rfl,trivial⟩
  | [],h=>exact h.elim
  | [_],h=>exact h.2.elim
  | _::_::_::_,h=>exact h.2.2.elim
 ·cases hg
def Po (a c:NJ):gH
 | [.v (.fl l)]=>some ([aD l=aD (q3 a)],.one (.fl (q3 c)))
 | _=>none
theorem Qb {a c:NJ} (ha:KA a) (hc:c=QA a):∀cs pre r,Po a c cs=some (pre,r)→aP pre→∀(args:List Value) (w:World),cE w cs args→bE prog 72 r args w:=by
 intro cs pre r hg hp args w h;unfold Po at hg;split at hg
 ·rename_i l;cases hg
  match args,h with
  | [v],h =>
   have h1:v=.agg (aD l).toArray:=h.1;rw[hp.1]at h1;subst h1; subst hc;exact bR aT pK (aW _) func72 (sG a) (⟨ha.1,ha.2.1,ha.2.2,ha.1,ha.2.1,(cC _ _),(aE _ _),(aE _ _),(bI _ _),(aE _ _),(aE _ _),(aE _ _),(aE _ _),(aE _ _),(aE _ _),(cC _ _),(cC _ _),(bI _ _),(bI _ _),(aE _ _),(aE _ _),(cC _ _),(bI _ _),(cC _ _),(bI _ _),trivial⟩) (args:=[_]) ⟨rfl,trivial⟩
  | [],h=>exact h.elim
  | _::_::_,h=>exact h.2.elim
 ·cases hg
end Go.Proofs.YtjeplinbleofnaaGreat.Ex
namespace Go.Proofs.YtjeplinbleofnaaGreat
open Go.Proofs.Tryz
open Go.ChangeShapes Go.WideShapes Go.ChangeAt Go.RowKit
def LAt (w:World) (g off len:Nat) (A:Nat→Nat→Nat):Prop:=∀k,k<len →
 w.cell? ⟨g,off+k*4,none⟩=some (.int .u64 (A k 0))∧w.cell? ⟨g,off+k*4+1,none⟩=some (.int .u64 (A k 1)) ∧
 w.cell? ⟨g,off+k*4+2,none⟩=some (.int .u64 (A k 2))∧w.cell? ⟨g,off+k*4+3,none⟩=some (.int .u64 (A k 3))
def Su (len:Nat) (A:Nat→Nat→Nat):Prop:=∀k,k<len→aX (A k 0) (A k 1) (A k 2) (A k 3)
theorem LAt.same {w w':World} {g off len:Nat} {A:Nat→Nat→Nat} {B:Nat} (h:LAt w g off len A) (hg:0<len→g<B) (hb:Below B w w'):LAt w' g off len A :=
 fun k hk=>have hg:=hg (Nat.lt_of_le_of_lt (Nat.zero_le _) hk); ⟨(hb.cell (p:=⟨g,off+k*4,none⟩) hg).trans (h k hk).1,(hb.cell (p:=⟨g,off+k*4+1,none⟩) hg).trans (h k hk).2.1,
  (hb.cell (p:=⟨g,off+k*4+2,none⟩) hg).trans (h k hk).2.2.1,(hb.cell (p:=⟨g,off+k*4+3,none⟩) hg).trans (h k hk).2.2.2⟩
open Go.RowKit
def FIs (W:World) (o:Option Addr) (len:Nat) (A:Nat→Nat→Nat):Prop:=len*32≤140737488351232∧Su len A∧(0<len→∃g off,o=some ⟨g,off,none⟩∧g<W.heap.size∧LAt W g off len A)
theorem FIs.on {W w:World} {o:Option Addr} {len:Nat} {A:Nat→Nat→Nat} (h:FIs W o len A) (hb:Below W.heap.size W w):FIs w o len A:=by
 refine⟨h.1,h.2.1,fun hl => ?_⟩;obtain⟨g,off,e,hg,hc⟩:=h.2.2 hl;exact⟨g,off,e,Nat.lt_of_lt_of_le hg hb.size,hc.same (fun _=>hg) hb⟩
def FwPost (x:Nat) (w:World) (e:Ending) (w':World):Prop:=e=.returned (.agg #[.int .u64 (fw x 0:Nat),.int .u64 (fw x 1:Nat),.int .u64 (fw x 2:Nat),.int .u64 (fw x 3:Nat)])∧Below w.heap.size w w'
theorem FwPost.of {x:Nat} {w:World} {e:Ending} {w':World} (hx:x<FP.M) (h:dQ x w e w'):FwPost x w e w':=by
 obtain⟨s0,s1,s2,s3,rfl,hs,hv,hb⟩:=h;obtain⟨rfl,rfl,rfl,rfl⟩:=eW hs (Kv hx) hv;exact⟨rfl,hb⟩
end Go.Proofs.YtjeplinbleofnaaGreat
namespace Go.Proofs.YtjeplinbleofnaaGreat.Ex
open Go.Proofs.Tryz
open Go.RowKit
theorem SI {l:List At} {args:List Value} {w:World} (h:cE w [.v (.fl l)] args):args=[.agg (aD l).toArray]:=by
 match args,h with
 | [v],h=>rw[show v=_ from h.1]; rfl
 | [],h=>exact h.elim
 | _::_::_,h=>exact h.2.elim
theorem Mn {l m:List At} {args:List Value} {w:World} (h:cE w [.v (.fl l),.v (.fl m)] args):args=[.agg (aD l).toArray,.agg (aD m).toArray]:=by
 match args,h with
 | [v,u],h=>rw[show v=_ from h.1,show u=_ from h.2.1]; rfl
 | [],h=>exact h.elim
 | [_],h=>exact h.2.elim
 | _::_::_::_,h=>exact h.2.2.elim
def bW (n:Nat):Nat:=if wv n=0 then 0 else Nat.log2 (wv n)+1
theorem nM (n:Nat):LenIs (wv n) (bW n):=by
 unfold bW
 by_cases h:wv n=0
 ·rw[if_pos h,h]; exact⟨by decide,fun h=>by cases h⟩
 ·rw[if_neg h];exact⟨Nat.lt_log2_self,fun _=>by rw[Nat.add_sub_cancel]; exact Nat.log2_self_le h⟩
theorem EN (n:Nat):wv n<2^256:=by
 obtain⟨h0,h1,h2,h3⟩:=cJ n;unfold wv aA;have:(2:Nat)^256=115792089237316195423570985008687907853269984665640564039457584007913129639936:=by decide
 omega
theorem wC (n:Nat):bW n≤256:=by
 rcases Nat.lt_or_ge 256 (bW n)with h|h
 ·have h1:=(nM n).2 (by omega);have h2:=Nat.pow_le_pow_right (show 0<2 by omega) (show 256≤bW n-1 by omega);have:=EN n;omega
 ·exact h
def KO:gH
 | [.v (.fl l)]=>match lX l with
  | some n=>some ([],.one (.im (.int .i64 (bW n:Nat))))
  | none=>none
 | _=>none
theorem Cs:∀cs pre r,KO cs=some (pre,r)→aP pre→∀(args:List Value) (w:World),cE w cs args→bE prog 71 r args w:=by
 intro cs pre r hg hp args w ha;unfold KO at hg;split at hg
 ·rename_i l;split at hg
  ·rename_i n hn;cases hg;rw[SI ha,bZ l _ hn];refine (uG _ _ _ _ (cJ n) w).mono ?_
   rintro e w' ⟨L,rfl,_,h,hbl⟩
   cases h.uniq (nM n);exact⟨rfl,hbl⟩
  ·cases hg
 ·cases hg
def Ee:gH
 | [.v (.fl l),.v (.im (.int .i64 (.ofNat i)))]=>match lX l with
  | some n=>some ([i<256],.one (.im (.int .i64 (cI (wv n) i:Nat))))
  | none=>none
 | _=>none
def Dm:gH
 | [.v (.fl l),.v (.im (.int .i64 (.ofNat k)))]=>match lX l with
  | some n=>some ([k<9223372036854775808],.one (.fl (q1 (wv n/2^k))))
  | none=>none
 | _=>none
theorem Ah:∀cs pre r,Dm cs=some (pre,r)→aP pre→∀(args:List Value) (w:World),cE w cs args→bE prog 73 r args w:=by
 intro cs pre r hg hp args w ha;unfold Dm at hg;split at hg
 ·rename_i l k;split at hg
  ·rename_i n hn;cases hg
   match args,ha with
   | [v,u],ha =>
    have h1:v=.agg (aD l).toArray:=ha.1;have h2:u=.int .i64 (Int.ofNat k):=ha.2.1;rw[bZ l _ hn]at h1;subst h1; subst h2;have hk:k<9223372036854775808:=hp.1;refine (iO _ _ _ _ (Int.ofNat k) (cJ n) (by simp) (by simp; omega) w).mono ?_
    rintro e w' ⟨s0,s1,s2,s3,rfl,hs,hv,hb⟩
    have hlt:wv n/2^k<115792089237316195423570985008687907853269984665640564039457584007913129639936:=by
     refine Nat.lt_of_le_of_lt (Nat.div_le_self _ _) ?_;have:=EN n;have e:(2:Nat)^256=115792089237316195423570985008687907853269984665640564039457584007913129639936:=by decide
     omega
    obtain⟨rfl,rfl,rfl,rfl⟩:=eW hs hlt hv;exact⟨rfl,hb⟩
   | [],ha=>exact ha.elim
   | [_],ha=>exact ha.2.elim
   | _::_::_::_,ha=>exact ha.2.2.elim
  ·cases hg
 ·cases hg
def mt (p:NJ):Nat→NJ
 | 0=>(0,1,1)
 | k+1=>kB (mt p k) p
theorem YN (p:NJ):∀k,KA (mt p k)
 | 0=>⟨cW,cT,cT⟩
 | k+1=>⟨aE _ _,aE _ _,aE _ _⟩
def VN (p:NJ):List At:=[.q (mt p 0).1,.q (mt p 0).2.1,.q (mt p 0).2.2,.q (mt p 1).1,.q (mt p 1).2.1,.q (mt p 1).2.2,.q (mt p 2).1,.q (mt p 2).2.1,.q (mt p 2).2.2,.q (mt p 3).1,.q (mt p 3).2.1,.q (mt p 3).2.2,.q (mt p 4).1,.q (mt p 4).2.1,.q (mt p 4).2.2,.q (mt p 5).1,.q (mt p 5).2.1,.q (mt p 5).2.2,.q (mt p 6).1,.q (mt p 6).2.1,.q (mt p 6).2.2,.q (mt p 7).1,.q (mt p 7).2.1,.q (mt p 7).2.2,.q (mt p 8).1,.q (mt p 8).2.1,.q (mt p 8).2.2,.q (mt p 9).1,.q (mt p 9).2.1,.q (mt p 9).2.2,.q (mt p 10).1,.q (mt p 10).2.1,.q (mt p 10).2.2,.q (mt p 11).1,.q (mt p 11).2.1,.q (mt p 11).2.2,.q (mt p 12).1,.q (mt p 12).2.1,.q (mt p 12).2.2,.q (mt p 13).1,.q (mt p 13).2.1,.q (mt p 13).2.2,.q (mt p 14).1,.q (mt p 14).2.1,.q (mt p 14).2.2,.q (mt p 15).1,.q (mt p 15).2.1,.q (mt p 15).2.2]
def Mv (p:NJ) (n:Nat):Tab:=lE.add 74 (Nx (mt p (49-n)) p (mt p (49-n+1)))
theorem Jn {p:NJ} (h:KA p) (n:Nat):TabOk prog (Mv p n):=gD.add func74 (by kernel_rfl) (by kernel_rfl) (Ln (YN p _) h rfl)
theorem Cp (p:NJ):cK prog (qG prog) (fun n=>⟨fun _=>Mv p n,fun _=>true,fun _=>none⟩) f70 60 [.v (.fl (q3 p))]=some ([aD (q3 (mt p 0))=aD (q3 (mt p 0)),aD (q3 p)=aD (q3 p),aD (q3 (mt p 1))=aD (q3 (mt p 1)),aD (q3 p)=aD (q3 p),aD (q3 (mt p 2))=aD (q3 (mt p 2)),aD (q3 p)=aD (q3 p),aD (q3 (mt p 3))=aD (q3 (mt p 3)),aD (q3 p)=aD (q3 p),aD (q3 (mt p 4))=aD (q3 (mt p 4)),aD (q3 p)=aD (q3 p),aD (q3 (mt p 5))=aD (q3 (mt p 5)),aD (q3 p)=aD (q3 p),aD (q3 (mt p 6))=aD (q3 (mt p 6)),aD (q3 p)=aD (q3 p),aD (q3 (mt p 7))=aD (q3 (mt p 7)),aD (q3 p)=aD (q3 p),aD (q3 (mt p 8))=aD (q3 (mt p 8)),aD (q3 p)=aD (q3 p),aD (q3 (mt p 9))=aD (q3 (mt p 9)),aD (q3 p)=aD (q3 p),aD (q3 (mt p 10))=aD (q3 (mt p 10)),aD (q3 p)=aD (q3 p),aD (q3 (mt p 11))=aD (q3 (mt p 11)),aD (q3 p)=aD (q3 p),aD (q3 (mt p 12))=aD (q3 (mt p 12)),aD (q3 p)=aD (q3 p),aD (q3 (mt p 13))=aD (q3 (mt p 13)),aD (q3 p)=aD (q3 p),aD (q3 (mt p 14))=aD (q3 (mt p 14)),aD (q3 p)=aD (q3 p)],.one (.fl (VN p))):=by kernel_rfl
def Rb:gH:=g1 LX fun p=>([p.1<RM,p.2.1<RM,p.2.2<RM],.one (.fl (VN p)))
theorem Qc:∀cs pre r,Rb cs=some (pre,r)→aP pre→∀(args:List Value) (w:World),cE w cs args→bE prog 70 r args w :=
 gO (op:=fun p=>([p.1<RM,p.2.1<RM,p.2.2<RM],.one (.fl (VN p)))) iB fun p h args w ha=>aH aT (fun n _=>Jn ⟨h.1,h.2.1,h.2.2.1⟩ n) (aW _) func70 (Cp p) ⟨rfl,rfl,rfl,rfl,rfl,rfl,rfl,rfl,rfl,rfl,rfl,rfl,rfl,rfl,rfl,rfl,rfl,rfl,rfl,rfl,rfl,rfl,rfl,rfl,rfl,rfl,rfl,rfl,rfl,rfl,trivial⟩ ha
def XN:Tab:=((lE.add 70 Rb).add 71 KO).add 73 Dm
theorem YI:TabOk prog XN:=((gD.add func70 (by kernel_rfl) (by kernel_rfl) Qc).add func71 (by kernel_rfl) (by kernel_rfl) Cs).add func73 (by kernel_rfl) (by kernel_rfl) Ah
def eR:Code:=(f34.body).getD .skip
def BB:Code:=Ob (Ob (cB (cA (cB (cB (cB (cB eR)))))))
theorem TK:eR=.seq (cA eR) (.seq (cA (cB eR)) (.seq (cA (cB (cB eR))) (.seq (cA (cB (cB (cB eR)))) (.seq (.seq (cA (cA (cB (cB (cB (cB eR)))))) (.block 0 (.loop BB))) (cB (cB (cB (cB (cB eR))))))))):=by kernel_rfl
def Od:List At:=[.f ⟨0,cP⟩,.f ⟨0,cP⟩,.f ⟨0,cP⟩]
def Nl (p:NJ) (n:Nat):List Fact:=[.slot 2 (.pt 2 0),.row 2 true (q3 p),.slot 3 (.pt 3 0),.row 3 true [.q n],.slot 4 (.pt 4 0),.row 4 true Od]
def Nk (p:NJ) (n:Nat):List Fact:=Nl p n++[.slot 5 (.pt 5 0),.row 5 true (VN p)]
def Nj (p:NJ) (n:Nat) (s:NJ):List Fact:=Nk p n++[.slot 6 (.pt 6 0),.row 6 true (q3 s)]
def Ni (p:NJ) (n PL:Nat) (s:NJ):List Fact:=Nj p n s++[.slot 7 (.im (iI PL))]
def MX (p:NJ) (n PL i:Nat) (s:NJ):List Fact:=Ni p n PL s++[.slot 20 (.im (iI PL)),.slot 21 (.im (iI i))]
def Ab (num:Nat→Option Value) (_:Nat):Cfg:=⟨fun _=>XN,fun _=>true,num⟩
def dk (s:NJ):Nat→NJ
 | 0=>s
 | j+1=>QA (dk s j)
theorem ZA {s:NJ} (h:KA s):∀j,KA (dk s j)
 | 0=>h
 | j+1=>⟨aE _ _,aE _ _,aE _ _⟩
def ZK (p s:NJ) (k m:Nat):Tab:=(XN.add 72 (Po (dk s (46-m)) (dk s (46-m+1)))).add 74 (Nx (dk s 4) (mt p k) (kB (dk s 4) (mt p k)))
theorem Cm {p s:NJ} (hs:KA s) (k m:Nat):TabOk prog (ZK p s k m):=(YI.add func72 (by kernel_rfl) (by kernel_rfl) (Qb (ZA hs _) rfl)).add func74 (by kernel_rfl) (by kernel_rfl) (Ln (ZA hs _) (YN p _) rfl)
def Sl (p s:NJ) (PL i k m:Nat):Cfg:=⟨fun _=>ZK p s k m,fun _=>true,assoc [(22,.bool true),(30,iI (PL-1)),(32,iI (PL-1-i)),(35,iI ((PL-1-i)*4)),(38,.int .u64 (Int.ofNat k)),(44,iI (i+1))]⟩
def Gn (s:NJ):Prop:=aD (q3 s)=aD (q3 s)
def Sk (p s:NJ) (n PL i k:Nat):List Prop:=[bD .lss .i64 (Int.ofNat i) (Int.ofNat PL)=some (.bool true),Gn s,Gn (dk s 1),Gn (dk s 2),Gn (dk s 3),bD .sub .i64 (Int.ofNat PL) 1=some (iI (PL-1)),bD .sub .i64 (Int.ofNat (PL-1)) (Int.ofNat i)=some (iI (PL-1-i)),bD .mul .i64 (Int.ofNat (PL-1-i)) 4=some (iI ((PL-1-i)*4)),(PL-1-i)*4<9223372036854775808,bD .rem .u64 (fw (wv n/2^((PL-1-i)*4)) 0:Nat) 16=some (.int .u64 (Int.ofNat k)),Int.ofNat k=Int.ofNat k,k<16,Gn (dk s 4),Gn (mt p k),bD .add .i64 (Int.ofNat i) 1=some (iI (i+1))]
theorem Hs (w:World) (p s:NJ) (n PL i:Nat):∀k,k<16→bT prog { qG prog with x:=xO w (assoc [(41,k)]) (fun _=>none) (fun _=>none) } f34.ntmps (Sl p s PL i k) 60 BB (MX p n PL i s) (MX p n PL (i+1) (kB (dk s 4) (mt p k)))=some (Sk p s n PL i k,.nrm,MX p n PL (i+1) (kB (dk s 4) (mt p k)))
 | 0,_=>by kernel_rfl
 | 1,_=>by kernel_rfl
 | 2,_=>by kernel_rfl
 | 3,_=>by kernel_rfl
 | 4,_=>by kernel_rfl
 | 5,_=>by kernel_rfl
 | 6,_=>by kernel_rfl
 | 7,_=>by kernel_rfl
 | 8,_=>by kernel_rfl
 | 9,_=>by kernel_rfl
 | 10,_=>by kernel_rfl
 | 11,_=>by kernel_rfl
 | 12,_=>by kernel_rfl
 | 13,_=>by kernel_rfl
 | 14,_=>by kernel_rfl
 | 15,_=>by kernel_rfl
 | k+16,h=>absurd h (by omega)
theorem Hr (p:NJ) (n:Nat):bT prog (qG prog) f34.ntmps (Ab fun _=>none) 40 (cA eR) (jZ 0 [.v (.fl (q3 p)),.v (.fl [.q n])]) (Nl p n)=some ([],.nrm,Nl p n):=by kernel_rfl
theorem Hq (p:NJ) (n:Nat):bT prog (qG prog) f34.ntmps (Ab fun _=>none) 40 (cA (cB eR)) (Nl p n) (Nk p n)=some ([p.1<RM,p.2.1<RM,p.2.2<RM],.nrm,Nk p n):=by kernel_rfl
theorem Hp (p:NJ) (n:Nat):bT prog (qG prog) f34.ntmps (Ab fun _=>none) 40 (cA (cB (cB eR))) (Nk p n) (Nj p n (0,1,1))=some ([],.nrm,Nj p n (0,1,1)):=by kernel_rfl
theorem Hn (p:NJ) (n PL:Nat):bT prog (qG prog) f34.ntmps (Ab (assoc [(17,iI (bW n+4)),(18,iI (bW n+4-1)),(19,iI PL)])) 40 (cA (cB (cB (cB eR)))) (Nj p n (0,1,1)) (Ni p n PL (0,1,1))=some ([bD .add .i64 (bW n:Nat) 4=some (iI (bW n+4)),bD .sub .i64 (Int.ofNat (bW n+4)) 1=some (iI (bW n+4-1)),bD .quo .i64 (Int.ofNat (bW n+4-1)) 4=some (iI PL)],.nrm,Ni p n PL (0,1,1)):=by kernel_rfl
theorem Hm (p:NJ) (n PL:Nat):bT prog (qG prog) f34.ntmps (Ab fun _=>none) 40 (cA (cA (cB (cB (cB (cB eR)))))) (Ni p n PL (0,1,1)) (MX p n PL 0 (0,1,1))=some ([],.nrm,MX p n PL 0 (0,1,1)):=by kernel_rfl
theorem Aa (p:NJ) (n PL i:Nat) (s:NJ):bT prog (qG prog) f34.ntmps (Ab (assoc [(22,.bool false)])) 60 BB (MX p n PL i s) (MX p n PL i s)=some ([bD .lss .i64 (Int.ofNat i) (Int.ofNat PL)=some (.bool false)],.ex 0,MX p n PL i s):=by kernel_rfl
theorem TJ (p:NJ) (n PL i:Nat) (s:NJ):bT prog (qG prog) f34.ntmps (Ab fun _=>none) 40 (cB (cB (cB (cB (cB eR))))) (MX p n PL i s) [.slot 4 (.pt 4 0),.row 4 true (q3 s)]=some ([],.rt,[.slot 4 (.pt 4 0),.row 4 true (q3 s)]):=by kernel_rfl
def Gq (n pl:Nat):Nat:=fw (wv n/2^(pl*4)) 0%16
def Gf (p:NJ) (n PL:Nat):Nat→NJ
 | 0=>(0,1,1)
 | i+1=>kB (dk (Gf p n PL i) 4) (mt p (Gq n (PL-1-i)))
theorem Ae (p:NJ) (n PL:Nat):∀i,KA (Gf p n PL i)
 | 0=>⟨cW,cT,cT⟩
 | i+1=>⟨aE _ _,aE _ _,aE _ _⟩
theorem VG {x:Nat} (h:x<18446744073709551616):bD .rem .u64 (x:Nat) 16=some (.int .u64 (Int.ofNat (x%16))):=by
 show (if (16:Int)=0 then none else some (Value.int .u64 ((Int.ofNat x).tmod 16)))=_;rw[if_neg (by decide)];rfl
def rT (n:Nat):Nat:=(bW n+3)/4
theorem By (n:Nat):rT n≤64:=by
 have:=wC n;unfold rT;omega
def tD (p:NJ) (n:Nat):NJ:=Gf p n (rT n) (rT n)
theorem vE (p:NJ) (n:Nat) (hp:KA p) (args:List Value) (w0:World) (ha:cE w0 [.v (.fl (q3 p)),.v (.fl [.q n])] args):bE prog 34 (.one (.fl (q3 (tD p n)))) args w0:=by
 have hG:dH prog (qG prog) w0.heap.size w0:=(aW _).w _ _;have hT:∀n d:Nat,TabOkW prog XN w0.heap.size w0:=fun _ _=>YI.w _ _
 refine fQ func34 (c:=eR) rfl ha (Nat.le_of_ble_eq_true (by kernel_rfl)) fun a w' hA => ?_
 have hl:=wC n;have hPL:=By n;rw[TK];refine wp_seq (aF aT hT hG (Hr p n) trivial hA fun a w' hA => ?_);refine wp_seq (aF aT hT hG (Hq p n) ⟨hp.1,hp.2.1,hp.2.2,trivial⟩ hA fun a w' hA => ?_);refine wp_seq (aF aT hT hG (Hp p n) trivial hA fun a w' hA => ?_);refine wp_seq (aF aT hT hG (Hn p n (rT n)) ⟨YM (k:=4) (by omega),zA (k:=1) (by omega) (by omega),Js (k:=4) (by omega) (by omega),trivial⟩ hA fun a w' hA => ?_);refine wp_seq (wp_seq (aF aT hT hG (Hm p n (rT n)) trivial hA fun a w' hA => ?_));refine wp_block ?_;refine PR aT (fun i=>MX p n (rT n) i (Gf p n (rT n) i)) (rT n) (fun i hi => ?_) (.ex 0) (by simp) (MX p n (rT n) (rT n) (tD p n)) ⟨_,_,_,_,hG,hT,Aa p n (rT n) (rT n) _,VI (Nat.le_refl _),trivial⟩ hA fun a w hA => ?_
 ·exact⟨_,_,_,_,XW w0 _ _ _,fun m _=>(Cm (p:=p) (Ae p n (rT n) i) (Gq n (rT n-1-i)) m).w _ _,Hs w0 p (Gf p n (rT n) i) n (rT n) i (Gq n (rT n-1-i)) (Nat.mod_lt _ (by decide)),VH hi,rfl,rfl,rfl,rfl,zA (k:=1) (by omega) (by omega),zA (by omega) (by omega),Jt (k:=4) (by omega),by omega,VG (cJ _).1,rfl,Nat.mod_lt _ (by decide),rfl,rfl,YM (k:=1) (by omega),trivial⟩
 ·show (cB (cB (cB (cB (cB eR))))).wp _ _ _ _;exact aF aT hT hG (TJ p n (rT n) (rT n) _) trivial hA fun a w' hA=>gP (l:=[.fl (q3 (tD p n))]) (r:=.one (.fl (q3 (tD p n)))) (by kernel_rfl) (by kernel_rfl) hA
theorem JRep.lt {p:NJ} {P:JP} (h:JRep p P):KA p:=⟨h.x,h.y,h.z⟩
theorem PM {p:NJ} {P:JP} (h:JRep p P):∀k,JRep (mt p k) (iG.grp.ns k P)
 | 0=>wD
 | k+1=>(PM h k).pl h
theorem En {s:NJ} {P:JP} {m:Nat} (h:JRep s (iG.grp.ns m P)):JRep (dk s 4) (iG.grp.ns (16*m) P):=by
 have h4:=h.db.db.db.db;rw[←iG.grp.ns_add,←iG.grp.ns_add,←iG.grp.ns_add,←iG.grp.ns_add,show m+m+(m+m)+(m+m+(m+m))+(m+m+(m+m)+(m+m+(m+m)))=16*m by omega]at h4;exact h4
theorem Sq (x:Nat):fw x 0=x%18446744073709551616:=by
 unfold fw;rw[Nat.pow_zero,Nat.div_one]
theorem EU {p:NJ} {P:JP} (h:JRep p P) (n PL:Nat) (hn:wv n<2^(4*PL)):∀i,i≤PL→JRep (Gf p n PL i) (iG.grp.ns (wv n/2^(4*(PL-i))) P)
 | 0,_=>by
  rw[Nat.sub_zero,Nat.div_eq_of_lt hn];exact wD
 | i+1,hi=>by
  have ih:=(En (EU h n PL hn i (by omega))).pl (PM h (Gq n (PL-1-i)));rw[←iG.grp.ns_add]at ih;have e1:Gq n (PL-1-i)=wv n/2^(4*(PL-(i+1)))%16:=by
   unfold Gq;rw[Sq,show (PL-1-i)*4=4*(PL-(i+1)) by omega];omega
  have e2:wv n/2^(4*(PL-i))=wv n/2^(4*(PL-(i+1)))/16:=by
   rw[show 4*(PL-i)=4*(PL-(i+1))+4 by omega,Nat.pow_add,←Nat.div_div_eq_div_mul]
  rw[e1,e2]at ih;rw[show wv n/2^(4*(PL-(i+1)))=16*(wv n/2^(4*(PL-(i+1)))/16)+wv n/2^(4*(PL-(i+1)))%16 by omega];rw[←e1]at ih ⊢;exact ih
theorem qK {p:NJ} {P:JP} (h:JRep p P) (n:Nat):JRep (tD p n) (iG.grp.ns (wv n) P):=by
 have h1:=EU h n (rT n) (Nat.lt_of_lt_of_le (nM n).1 (Nat.pow_le_pow_right (by decide) (by unfold rT; omega))) (rT n) (Nat.le_refl _);rw[Nat.sub_self,Nat.mul_zero,Nat.pow_zero,Nat.div_one]at h1;exact h1
def iT (p:NP) (n:Nat):NP:=tld (tD (p.1,p.2,1) n)
theorem wB {p:NP} (hp:OnJ p.1 p.2) (n:Nat):iT p n=cj (iG.grp.ns (wv n) (jp hp)):=(qK (mL hp) n).tld
def Qy:gH:=g2 LX lX fun p n=>([p.1<RM,p.2.1<RM,p.2.2<RM],.one (.fl (q3 (tD p n))))
theorem Py:∀cs pre r,Qy cs=some (pre,r)→aP pre→∀(args:List Value) (w:World),cE w cs args→bE prog 34 r args w :=
 zP (op:=fun p n=>([p.1<RM,p.2.1<RM,p.2.2<RM],.one (.fl (q3 (tD p n))))) iB bZ fun p n h args w ha=>vE p n ⟨h.1,h.2.1,h.2.2.1⟩ args w ha
theorem Kj (p:NJ):cK prog (qG prog) (fun n=>⟨fun _=>lE,fun _=>true,fun _=>none⟩) f35 60 [.v (.fl (q3 p))]=some ([aD [At.q p.1]=aD [At.f ⟨0,cP⟩],aD [At.q p.2.1]=aD [At.q p.2.2]],.one (.im (.bool true))):=by kernel_rfl
theorem Kl (p:NJ):cK prog (qG prog) (fun n=>⟨fun _=>lE,fun s=>Nat.beq s 6,fun _=>none⟩) f35 60 [.v (.fl (q3 p))]=some ([aD [At.q p.1]=aD [At.f ⟨0,cP⟩],aD [At.q p.2.1]≠aD [At.q p.2.2]],.one (.im (.bool false))):=by kernel_rfl
theorem Kk (p:NJ):cK prog (qG prog) (fun n=>⟨fun _=>lE,fun _=>false,fun _=>none⟩) f35 60 [.v (.fl (q3 p))]=some ([aD [At.q p.1]≠aD [At.f ⟨0,cP⟩]],.one (.im (.bool false))):=by kernel_rfl
theorem CY (p:NJ) (hp:KA p) (args:List Value) (w:World) (ha:cE w [.v (.fl (q3 p))] args):bE prog 35 (.one (.im (.bool (kT p)))) args w:=by
 by_cases h1:p.1=0
 ·by_cases h2:p.2.1=p.2.2
  ·rw[show kT p=true by unfold kT; rw[Bool.and_eq_true]; exact⟨by rw[h1]; rfl,by rw[h2]; exact Nat.beq_refl _⟩];exact aH aT (fun _ _=>gD) (aW _) func35 (Kj p) ⟨by rw[h1]; rfl,by rw[h2],trivial⟩ ha
  ·rw[show kT p=false by unfold kT; rw[Bool.and_eq_false_iff]; exact Or.inr (Bool.eq_false_iff.2 fun q=>h2 (Nat.eq_of_beq_eq_true q))];exact aH aT (fun _ _=>gD) (aW _) func35 (Kl p) ⟨by rw[h1]; rfl,fun e=>h2 (YV hp.2.1 hp.2.2 e),trivial⟩ ha
 ·rw[show kT p=false by unfold kT; rw[Bool.and_eq_false_iff]; exact Or.inl (Bool.eq_false_iff.2 fun q=>h1 (Nat.eq_of_beq_eq_true q))];exact aH aT (fun _ _=>gD) (aW _) func35 (Kk p) ⟨fun e=>h1 (YV hp.1 cW e),trivial⟩ ha
def Kr (b:Bool):gH:=g1 LX fun p=>([p.1<RM,p.2.1<RM,p.2.2<RM,kT p=b],.one (.im (.bool b)))
theorem Lq (b:Bool):∀cs pre r,Kr b cs=some (pre,r)→aP pre→∀(args:List Value) (w:World),cE w cs args→bE prog 35 r args w :=
 gO (op:=fun p=>([p.1<RM,p.2.1<RM,p.2.2<RM,kT p=b],.one (.im (.bool b)))) iB fun p h args w ha=>by
  have h':=CY p ⟨h.1,h.2.1,h.2.2.1⟩ args w ha;rw[h.2.2.2.1]at h';exact h'
theorem Kg:lJ<FP.M:=of_decide_eq_true (by kernel_rfl)
theorem Mm:bX<FP.M:=of_decide_eq_true (by kernel_rfl)
theorem Ml:bY<FP.M:=of_decide_eq_true (by kernel_rfl)
theorem TW:cK prog (qG prog) (fun n=>⟨fun _=>lE,fun _=>true,fun _=>none⟩) f29 60 []=some ([],.one (.fl [.f ⟨lJ,Kg⟩])):=by kernel_rfl
theorem NT:cK prog (qG prog) (fun n=>⟨fun _=>lE,fun _=>true,fun _=>none⟩) f28 60 []=some ([],.one (.fl [.f ⟨bX,Mm⟩,.f ⟨bY,Ml⟩])):=by kernel_rfl
theorem OS:aD [At.f ⟨lJ,Kg⟩]=aD [At.q lJ]:=rfl
theorem LM:aD [At.f ⟨bX,Mm⟩,.f ⟨bY,Ml⟩]=aD [At.q bX,.q bY]:=rfl
theorem rW (w:World):bE prog 29 (.one (.fl [.q lJ])) [] w:=by
 have h:=aH aT (fun _ _=>gD) (aW _) func29 TW trivial (w:=w) (args:=[]) trivial;unfold bE;rw[show RV.den (.one (.fl [.q lJ]))=Value.agg (aD [At.q lJ]).toArray from rfl,←OS];exact h
theorem AL (w:World):bE prog 28 (.one (.fl [.q bX,.q bY])) [] w:=by
 have h:=aH aT (fun _ _=>gD) (aW _) func28 NT trivial (w:=w) (args:=[]) trivial;unfold bE;rw[show RV.den (.one (.fl [.q bX,.q bY]))=Value.agg (aD [At.q bX,.q bY]).toArray from rfl,←LM];exact h
def uY (b c:Bool):Tab:=(((SV b).add 34 Qy).add 35 (Kr c)).add 29 (g0 (.one (.fl [.q lJ])))
theorem sB (b c:Bool):TabOk prog (uY b c):=(((PF b).add func34 (by kernel_rfl) (by kernel_rfl) Py).add func35 (by kernel_rfl) (by kernel_rfl) (Lq c)).add func29 (by kernel_rfl) (by kernel_rfl) (pO rW)
theorem Jv (p:NP) (n:Nat):cK prog (qG prog) (fun n=>⟨fun _=>uY false true,fun _=>true,fun _=>none⟩) f27 60 [.v (.fl [.q p.1,.q p.2]),.v (.fl [.q n])]=some ([p.1<aU,p.2<aU,jX p.1 p.2=false],.many [.fl kC,.im (.int .i64 41)]):=by kernel_rfl
theorem Ju (p:NP) (n:Nat):cK prog (qG prog) (fun n=>⟨fun _=>uY true true,fun _=>true,fun _=>none⟩) f27 60 [.v (.fl [.q p.1,.q p.2]),.v (.fl [.q n])]=some ([p.1<aU,p.2<aU,jX p.1 p.2=true,p.1<RM,p.2<RM,1<RM,(tD (p.1,p.2,1) n).1<RM,(tD (p.1,p.2,1) n).2.1<RM,(tD (p.1,p.2,1) n).2.2<RM,(tD (p.1,p.2,1) n).2.2≠0],fD (iT p n) 0):=by kernel_rfl
theorem Mc (p:NP):cK prog (qG prog) (fun n=>⟨fun _=>uY false true,fun _=>true,fun _=>none⟩) f12 60 [.v (.fl [.q p.1,.q p.2])]=some ([p.1<aU,p.2<aU,jX p.1 p.2=false],.one (.im (.int .i64 41))):=by kernel_rfl
theorem Ma (p:NP):cK prog (qG prog) (fun n=>⟨fun _=>uY true true,fun _=>true,fun _=>none⟩) f12 60 [.v (.fl [.q p.1,.q p.2])]=some ([p.1<aU,p.2<aU,jX p.1 p.2=true,p.1<RM,p.2<RM,1<RM,(tD (p.1,p.2,1) lJ).1<RM,(tD (p.1,p.2,1) lJ).2.1<RM,(tD (p.1,p.2,1) lJ).2.2<RM,kT (tD (p.1,p.2,1) lJ)=true],.one (.im (.int .i64 0))):=by kernel_rfl
theorem Mb (p:NP):cK prog (qG prog) (fun n=>⟨fun _=>uY true false,fun _=>true,fun _=>none⟩) f12 60 [.v (.fl [.q p.1,.q p.2])]=some ([p.1<aU,p.2<aU,jX p.1 p.2=true,p.1<RM,p.2<RM,1<RM,(tD (p.1,p.2,1) lJ).1<RM,(tD (p.1,p.2,1) lJ).2.1<RM,(tD (p.1,p.2,1) lJ).2.2<RM,kT (tD (p.1,p.2,1) lJ)=false],.one (.im (.int .i64 111))):=by kernel_rfl
theorem CP (p:NP) (n:Nat) (hp:w2 p) (args:List Value) (w:World) (ha:cE w [.v (.fl (q2 p)),.v (.fl (q1 n))] args):bE prog 27 (if jX p.1 p.2=true then fD (iT p n) 0 else fD (0,0) 41) args w:=by
 cases h:jX p.1 p.2
 ·exact aH aT (fun _ _=>sB _ _) (aW _) func27 (Jv p n) ⟨hp.1,hp.2,h,trivial⟩ ha
 ·have h1:=qQ.1 h;have hr:=qK (mL h1) n;exact aH aT (fun _ _=>sB _ _) (aW _) func27 (Ju p n) ⟨hp.1,hp.2,h,h1.1.1,h1.1.2,cT,hr.x,hr.y,hr.z,hr.nz,trivial⟩ ha
def cQ (p:NP):Int:=if jX p.1 p.2=true then (if kT (tD (p.1,p.2,1) lJ)=true then 0 else 111)else 41
theorem mP (p:NP) (hp:w2 p) (args:List Value) (w:World) (ha:cE w [.v (.fl (q2 p))] args):bE prog 12 (.one (.im (.int .i64 (cQ p)))) args w:=by
 unfold cQ;cases h:jX p.1 p.2
 ·exact aH aT (fun _ _=>sB _ _) (aW _) func12 (Mc p) ⟨hp.1,hp.2,h,trivial⟩ ha
 ·have h1:=qQ.1 h;have hr:=qK (mL h1) lJ;rw[if_pos rfl];cases h2:kT (tD (p.1,p.2,1) lJ)
  ·exact aH aT (fun _ _=>sB _ _) (aW _) func12 (Mb p) ⟨hp.1,hp.2,h,h1.1.1,h1.1.2,cT,hr.x,hr.y,hr.z,h2,trivial⟩ ha
  ·exact aH aT (fun _ _=>sB _ _) (aW _) func12 (Ma p) ⟨hp.1,hp.2,h,h1.1.1,h1.1.2,cT,hr.x,hr.y,hr.z,h2,trivial⟩ ha
theorem ME:wv lJ=lJ:=by kernel_rfl
theorem nZ {p:NP} (h:OnJ p.1 p.2):cQ p=if iG.grp.ns lJ (jp h)=iG.grp.zero then 0 else 111:=by
 unfold cQ;rw[if_pos (FK h)];have hr:=qK (mL h) lJ;rw[ME]at hr
 by_cases e:iG.grp.ns lJ (jp h)=iG.grp.zero
 ·rw[if_pos e,if_pos ((nP hr).2 e)]
 ·rw[if_neg e,if_neg fun q=>e ((nP hr).1 q)]
theorem AF {p:NP} (h:¬OnJ p.1 p.2):cQ p=41:=by
 unfold cQ;rw[if_neg fun q=>h (qQ.1 q)]
theorem sU:cj iG.grp.zero=(0,1):=rfl
theorem Kw {a b c d:Nat} (ha:a<RM) (hb:b<RM) (hc:c<RM) (hd:d<RM):aD [At.q a,.q b]=aD [At.q c,.q d]↔a=c∧b=d:=by
 constructor
 ·intro h;have h:aD [At.q a]++aD [At.q b]=aD [At.q c]++aD [At.q d]:=h;obtain⟨h1,h2⟩:=List.append_inj h rfl;exact⟨YV ha hc h1,YV hb hd h2⟩
 ·rintro⟨rfl,rfl⟩; rfl
theorem pU (P:JP):(cj P).1<RM∧(cj P).2<RM:=⟨P.1.1.2,P.1.2.2⟩
theorem Fa {P Q:JP} (h:cj P=cj Q):P=Q:=Subtype.ext (Prod.ext (Fin.ext (congrArg Prod.fst h)) (Fin.ext (congrArg Prod.snd h)))
theorem XC {P Q:JP}:aD [At.q (cj P).1,.q (cj P).2]=aD [At.q (cj Q).1,.q (cj Q).2]↔P=Q :=
 ⟨fun h=>Fa (Prod.ext ((Kw (pU P).1 (pU P).2 (pU Q).1 (pU Q).2).1 h).1 ((Kw (pU P).1 (pU P).2 (pU Q).1 (pU Q).2).1 h).2),fun h=>by rw[h]⟩
def b8 (n k:Nat):At:=.c (.int .u8 (Int.ofNat (bH n k)))
def bl (n:Nat):List At:=[b8 n 0,b8 n 1,b8 n 2,b8 n 3,b8 n 4,b8 n 5,b8 n 6,b8 n 7,b8 n 8,b8 n 9,b8 n 10,b8 n 11,b8 n 12,b8 n 13,b8 n 14,b8 n 15,b8 n 16,b8 n 17,b8 n 18,b8 n 19,b8 n 20,b8 n 21,b8 n 22,b8 n 23,b8 n 24,b8 n 25,b8 n 26,b8 n 27,b8 n 28,b8 n 29,b8 n 30,b8 n 31]
theorem XG (n:Nat):∀k,k<32→(aD (bl n))[k]?=some (.int .u8 (Int.ofNat (bH n k)))
 | 0,_=>by kernel_rfl
 | 1,_=>by kernel_rfl
 | 2,_=>by kernel_rfl
 | 3,_=>by kernel_rfl
 | 4,_=>by kernel_rfl
 | 5,_=>by kernel_rfl
 | 6,_=>by kernel_rfl
 | 7,_=>by kernel_rfl
 | 8,_=>by kernel_rfl
 | 9,_=>by kernel_rfl
 | 10,_=>by kernel_rfl
 | 11,_=>by kernel_rfl
 | 12,_=>by kernel_rfl
 | 13,_=>by kernel_rfl
 | 14,_=>by kernel_rfl
 | 15,_=>by kernel_rfl
 | 16,_=>by kernel_rfl
 | 17,_=>by kernel_rfl
 | 18,_=>by kernel_rfl
 | 19,_=>by kernel_rfl
 | 20,_=>by kernel_rfl
 | 21,_=>by kernel_rfl
 | 22,_=>by kernel_rfl
 | 23,_=>by kernel_rfl
 | 24,_=>by kernel_rfl
 | 25,_=>by kernel_rfl
 | 26,_=>by kernel_rfl
 | 27,_=>by kernel_rfl
 | 28,_=>by kernel_rfl
 | 29,_=>by kernel_rfl
 | 30,_=>by kernel_rfl
 | 31,_=>by kernel_rfl
 | k+32,h=>absurd h (by omega)
theorem Mi (n:Nat):fI (bl n)=32:=by kernel_rfl
theorem SE {w:World} {b n:Nat} (h:∀k,k<32→w.cell? ⟨b,k,none⟩=some (.int .u8 (bH n k:Nat))):w.rangeAt b 0 (aD (bl n)):=fun j v hj=>by
 have hlt:j<32:=by have:=(List.getElem?_eq_some_iff.1 hj).1; rwa [aM,Mi]at this
 rw[Nat.zero_add,h j hlt,←hj,XG n j hlt];rfl
def Dq:List CA→Option (List Prop×FS)
 | [.v (.fl l)]=>match lX l with
  | some n=>some ([],⟨bl (wv n),32,5,1,true,[],[]⟩)
  | none=>none
 | _=>none
theorem WB:∀cs pre r,Dq cs=some (pre,r)→aP pre→∀(args:List Value) (w:World),cE w cs args→Calls prog 17 args.toArray w (fun e w'=>r.ok w e w'):=by
 intro cs pre r hg hp args w ha;unfold Dq at hg;split at hg
 ·rename_i l;split at hg
  ·rename_i n hn;cases hg;rw[SI ha,bZ l _ hn];refine (qD _ _ _ _ (cJ n) w).mono ?_
   rintro e w' ⟨b,cap,rfl,h1,h2,h3,h4,h5,h6⟩
   exact⟨b,cap,rfl,h4,h1,h2,SE h3,h5,fun _=>h6⟩
  ·cases hg
 ·cases hg
def x3 (T:Tab3) (T4:Tab4) (gen:Nat→Option Value) (mks:Nat→Option (Nat×List At)):Ext:={ Ext.none with T3:=T,T4:=T4,gen:=gen,mks:=mks }
def Nc (op:BinOp) (t:Nat) (x y:Operand) (v u r:Value):Prop:=∀w:World,(do eqGuard op t x y v u; binOp op t v u:Sem Value).run prog w=.ok r w
theorem SG {t:Nat} {x y:Operand} {a b:Nat} (ha:a<256) (hb:b<256):Nc .or t x y (.int .u8 (Int.ofNat a)) (.int .u8 (Int.ofNat b)) (.int .u8 (Int.ofNat (a ||| b))):=fun w=>by
 have h:=u8_or_nat a b ha hb;simp only[Int.ofNat_eq_natCast];exact congrArg (fun z=>Result.ok (Value.int .u8 z) w) h
theorem XI {t:Nat} {x y:Operand} {a b:Nat} (ha:a<256) (hb:b<256):Nc .and t x y (.int .u8 (Int.ofNat a)) (.int .u8 (Int.ofNat b)) (.int .u8 (Int.ofNat (a &&& b))):=fun w=>by
 have h:=u8_and_nat a b ha hb;simp only[Int.ofNat_eq_natCast];exact congrArg (fun z=>Result.ok (Value.int .u8 z) w) h
set_option maxHeartbeats 1000000 in
theorem NL (b1 o1 c1 b2 o2 c2 n:Nat) (hn:n<4611686018427387904) (P:Nat→Int) (w:World) (h1:∀k,k<n→w.cell? ⟨b1,o1+k,none⟩=some (.int .u8 (P k))) (h2:∀k,k<n→w.cell? ⟨b2,o2+k,none⟩=some (.int .u8 (P k))) :
  Calls prog 9 #[.slice (some ⟨b1,o1,none⟩) n c1,.slice (some ⟨b2,o2,none⟩) n c2] w fun e w'=>e=.returned (.bool true)∧Below w.heap.size w w':=by
 have H1:=Lib.hid h1;have H2:=Lib.hid h2;clear h1 h2;have tn:((n:Int) != (n:Int))=false:=by simp
 go_enter func9,ntmps9
 go_wp2_with fail
 go_loopw [5] (fun x wr=>∃k m:Nat,k≤n∧x=.int .i64 k∧wr=w.drewN m) (fun x _=>n-(intOf x).toNat)
 case atStart=>exact⟨0,0,by omega,rfl,rfl⟩
 case round =>
  obtain⟨k,m,hk,rfl,rfl⟩:=hrel
  by_cases hlt:k<n
  ·have e1:(w.drewN m).cell? ⟨b1,o1+k,none⟩=_:=H1.out k hlt;have e2:(w.drewN m).cell? ⟨b2,o2+k,none⟩=_:=H2.out k hlt;have e3:=H1.out k hlt;have e4:=H2.out k hlt;have t1:decide ((k:Int)<(n:Int))=true:=decide_eq_true (by omega);generalize P k=p at *;go_wp2_with fail
   go_quiet (fail)
   go_wp2_with fail
   go_roundw
   case rel=>exact⟨k+1,_,by omega,by go_num,rfl⟩
   case measure=>first|(simp[intOf]; done)|(simp[intOf]; omega)
  ·obtain rfl:k=n:=by omega
   have t1:decide ((k:Int)<(k:Int))=false:=decide_eq_false (by omega);go_wp2_with fail;go_ret;exact⟨rfl,aJ _ _ _⟩
def Mu (l:List At) (n:Nat) (P:Nat→Int):Prop:=∀k,k<n→(aD l)[k]?=some (.int .u8 (P k))
def Cu:CA→Option (List At×Nat)
 | .s l n _=>some (l,n)
 | .so l n=>some (l,n)
 | _=>none
theorem FZ {c:CA} {l:List At} {n:Nat} (h:Cu c=some (l,n)) {w:World} {v:Value} (hc:c.ok w v):∃b o m,v=.slice (some ⟨b,o,none⟩) n m∧w.rangeAt b o (aD l):=by
 cases c with
 | v x=>cases h
 | p=>cases h
 | s l' n' m =>
  cases h;obtain⟨b,o,e,_,hr⟩:=hc;exact⟨b,o,m,e,hr⟩
 | so l' n' =>
  cases h;obtain⟨b,o,m,e,_,hr⟩:=hc;exact⟨b,o,m,e,hr⟩
def QG:gH
 | [c,d]=>match Cu c,Cu d with
  | some (l,n),some (l',n')=>some ([n'=n,n<4611686018427387904,∃P,Mu l n P∧Mu l' n P],.one (.im (.bool true)))
  | _,_=>none
 | _=>none
theorem QF:∀cs pre r,QG cs=some (pre,r)→aP pre→∀(args:List Value) (w:World),cE w cs args→bE prog 9 r args w:=by
 intro cs pre r hg hp args w ha;unfold QG at hg;split at hg
 ·rename_i c d;split at hg
  ·rename_i l n l' n' h1 h2;cases hg;obtain⟨rfl,hn,⟨P,hl,hl'⟩,_⟩:=hp
   match args,ha with
   | [u,v],ha =>
    obtain⟨b1,o1,m1,rfl,r1⟩:=FZ h1 (by have:=ha; cases c<;>exact this.1);obtain⟨b2,o2,m2,rfl,r2⟩:=FZ h2 (by have:=ha; cases c<;>cases d<;>exact this.2.1);exact NL b1 o1 m1 b2 o2 m2 _ hn P w (fun k hk=>r1 k _ (hl k hk)) (fun k hk=>r2 k _ (hl' k hk))
   | [],ha=>cases c<;>exact ha.elim
   | [_],ha=>cases c<;>cases d<;>exact ha.2.elim
   | _::_::_::_,ha=>cases c<;>cases d<;>exact ha.2.2.elim
  ·cases hg
 ·cases hg
def NI:List (Nat×TV)→List Fact
 | []=>[]
 | (s,t)::r=>.slot s t.av::NI r
theorem lI:∀{l:List (Nat×TV)} {φ:Fact},φ∈NI l→∃x∈l,φ=.slot x.1 x.2.av
 | x::r,φ,h=>by
  rcases List.mem_cons.1 h with rfl|h
  ·exact⟨x,List.mem_cons_self,rfl⟩
  ·obtain⟨y,h1,h2⟩:=lI h;exact⟨y,List.mem_cons_of_mem _ h1,h2⟩
theorem Holds.fresh {nt base:Nat} {w0:World} {A:List Fact} {a:Act} {w:World} (h:Holds nt base w0 A a w) (l:List (Nat×TV)) (hl:∀x∈l,a.tmps[x.1]?=some x.2.den):Holds nt w.heap.size w (NI l) a w:=by
 refine⟨h.defers,h.size,Below.refl _ _,Nat.le_refl _,fun _=>(w.heap.size,0,0),fun φ hφ => ?_,fun k k' o' l1 l2 h1 => ?_,fun k l1 h1 => ?_,Nat.le_refl _,fun p h1 h2=>⟨rfl,rfl⟩,Shape.refl _⟩
 ·obtain⟨x,hx,rfl⟩:=lI hφ;show a.tmps[x.1]?=_;rw[TV.av_den];exact hl x hx
 ·obtain⟨x,_,e⟩:=lI h1; cases e
 ·obtain⟨x,_,e⟩:=lI h1; cases e
theorem FR.ok.older {r:FR} {w w1 w2:World} {e:Ending} (h:r.ok w1 e w2) (hb:Below w.heap.size w w1):r.ok w e w2:=by
 obtain⟨b,h1,h2,h3,h4⟩:=h;exact⟨b,h1,hb.trans (h2.mono hb.size),Nat.le_trans hb.size h3,h4⟩
def hd (vs:Nat→Value) (j:Nat):List At:=[.c (vs j)]
def HV (w:World) (v:Value) (K:Nat) (vs:Nat→Value):Prop:=∃b o m,v=.slice (some ⟨b,o,none⟩) K m∧b<w.heap.size∧w.rangeAt b o (aD (oB (hd vs) 0 K))
def Ai (K:Nat) (Ns:Nat→Nat):Prop:=∀j,j<K→Ns j≤65536
def Fm (K:Nat) (Ns:Nat→Nat) (fs:Nat→Nat→Nat):Prop:=∀j,j<K→Fo (Ns j) (fs j)
instance (K:Nat) (Ns:Nat→Nat):Decidable (Ai K Ns):=Nat.decidableBallLT K fun j _=>Ns j≤65536
instance (K:Nat) (Ns:Nat→Nat) (fs:Nat→Nat→Nat):Decidable (Fm K Ns fs):=Nat.decidableBallLT K fun j _=>Fo (Ns j) (fs j)
def cN (f:Nat→Nat) (i x:Nat) (j:Nat):Nat:=if j=i then x else f j
structure FQ where
 l:List At
 n:Nat
 l':List At
 n':Nat
def FQ.ok (r:FQ) (w:World) (e:Ending) (w':World):Prop:=∃b b',e=.returned (.tuple #[jS b 0 r.n r.n,jS b' 0 r.n' r.n'])∧Below w.heap.size w w'∧(w.heap.size≤b∧b<w'.heap.size∧w'.rangeAt b 0 (aD r.l)∧∀j,w'.frozen? ⟨b,j,none⟩=false)∧(w.heap.size≤b'∧b'<w'.heap.size∧w'.rangeAt b' 0 (aD r.l')∧∀j,w'.frozen? ⟨b',j,none⟩=false)∧b≠b'
theorem FQ.ok.older {r:FQ} {w w1 w2:World} {e:Ending} (h:r.ok w1 e w2) (hb:Below w.heap.size w w1):r.ok w e w2:=by
 obtain⟨b,b',h1,h2,h3,h4,h5⟩:=h;exact⟨b,b',h1,hb.trans (h2.mono hb.size),⟨Nat.le_trans hb.size h3.1,h3.2⟩,⟨Nat.le_trans hb.size h4.1,h4.2⟩,h5⟩
theorem LV.from {w:World} {b o N m i:Nat} {f:Nat→Nat} (hb:b<w.heap.size) (hr:w.rangeAt b o (aD (oB (el f) 0 N))) (hi:i≤N) (hm:N≤m) (h256:∀j,j<N→f j<aU):LV w (jS b (if m=i then o else o+i*4) (N-i) (m-i)) (N-i) (fun j=>f (i+j)):=by
 refine⟨_,_,rfl,by omega,fun j hj=>h256 _ (by omega),fun h => ?_⟩;rw[if_neg (by omega)];refine⟨b,o+i*4,rfl,hb,?_⟩;have e:oB (el f) 0 N=oB (el f) 0 i++oB (el (fun j=>f (i+j))) 0 (N-i):=by
  have key:∀(n s:Nat),oB (el f) (i+s) n=oB (el (fun j=>f (i+j))) s n:=fun n=>by
   induction n with
   | zero=>intro s; rfl
   | succ n ih =>
    intro s;show el f (i+s)++oB (el f) (i+s+1) n=_;rw[Nat.add_assoc,ih (s+1)];rfl
  have sp:∀(i n s:Nat),i≤n→oB (el f) s n=oB (el f) s i++oB (el f) (s+i) (n-i):=fun i=>by
   induction i with
   | zero=>intro n s _; rfl
   | succ i ih =>
    intro n s h;obtain⟨n,rfl⟩:∃k,n=k+1:=⟨n-1,by omega⟩
    show el f s++oB (el f) (s+1) n=(el f s++oB (el f) (s+1) i)++_;rw[ih n (s+1) (by omega),List.append_assoc,show s+1+i=s+(i+1) by omega,show n+1-(i+1)=n-i by omega]
  rw[sp i N 0 hi,Nat.zero_add,←key (N-i) 0,Nat.add_zero]
 intro j u hj;have h2:=hr (i*4+j) u (by
  rw[e,aO,List.getElem?_append_right (by rw[aM,oA (c:=4) fun _=>rfl]; omega),aM,oA (c:=4) fun _=>rfl,Nat.add_sub_cancel_left];exact hj)
 rwa [←Nat.add_assoc]at h2
theorem LV.one {w:World} {b x:Nat} (h:oldOf w b 0 [.q x]) (hx:x<aU):LV w (jS b 0 1 1) 1 (fun _=>x) :=
 ⟨_,_,rfl,Nat.le_refl _,fun _ _=>hx,fun _=>⟨b,0,rfl,h.1,h.2⟩⟩
structure Own (w:World) (b:Nat) (l:List At):Prop where
 lt:b<w.heap.size
 row:w.rangeAt b 0 (aD l)
 free:∀j,w.frozen? ⟨b,j,none⟩=false
theorem Holds.wrc {nt b:Nat} {w w':World} {A:List Fact} {a:Act} (h:Holds nt b w A a w') {l:List At} (h1:Fact.row 0 true l∈A) (h2:Fact.at 0 b∈A) (h3:Fact.at nt w.heap.size∈A):WrC w w' b∧w'.rangeAt b 0 (aD l):=by
 obtain⟨β,g1,g2,g3,gt⟩:=h.facts;obtain⟨e1,e2,e4,_⟩:=g1 _ h1;obtain⟨e5,e6,e7⟩:=e4 rfl;have e3:=g1 _ h2;have e8:=g1 _ h3;simp only[Fact.ok]at e3 e8;rw[e6]at e2;rw[e3.1]at e2;refine⟨⟨h.below,fun p hp hne => ?_,gt.shape,fun j => ?_⟩,e2⟩
 ·rcases Nat.lt_or_ge p.block b with q|q
  ·exact⟨h.below.cell q,h.below.frozen q⟩
  ·exact gt.mem p (by omega) (by rw[e8.1]; exact hp)
 ·have:=e7 j
  rwa [e3.1]at this
section
variable {P:Program} {w:World} {R:Ending→World→Prop}
end
def IB:Nat→List AV→List Fact
 | _,[]=>[]
 | i,v::r=>.slot i v::IB (i+1) r
theorem AM {base:Nat} {β:Nat→Bk} (a:Act) (w:World):∀(xs:List AV) (i:Nat),(∀j v,xs[j]?=some v→a.tmps[i+j]?=some (v.den β))→∀φ∈IB i xs,φ.ok base β a w
 | [],i,_,φ,h=>by cases h
 | t::r,i,ha,φ,h=>by
  rcases List.mem_cons.1 h with rfl|h
  ·exact ha 0 t rfl
  ·exact AM a w r (i+1) (fun j u hj=>by have:=ha (j+1) u (by simpa using hj); rwa [show i+(j+1)=i+1+j by omega]at this) φ h
theorem uX:∀(xs:List AV) (i:Nat) (k:Nat) (o:Bool) (l:List At),Fact.row k o l∈IB i xs→False
 | [],i,k,o,l,h=>by cases h
 | t::r,i,k,o,l,h=>by
  rcases List.mem_cons.1 h with h|h
  ·cases h
  ·exact uX r (i+1) k o l h
def SJ (nt b N:Nat) (l:List At) (xs:List AV):List Fact:=.row 0 true l :: .at 0 b :: .at nt N::IB 0 xs
section
variable {P:Program} {w:World} {R:Ending→World→Prop}
theorem KU {f:FuncId} {fn:Func} (hf:P.funcs[f]?=some fn) {c:Code} (hb:fn.body=some c) {b:Nat} {l:List At} {xs:List AV} {vs:List Value} (hx:∀β:Nat→Bk,β 0=(b,0,0)→xs.map (AV.den β)=vs) (hO:Own w b l) (hn:xs.length≤fn.ntmps) (h0n:0<fn.ntmps)
  (h:∀a w',Holds fn.ntmps b w (SJ fn.ntmps b w.heap.size l xs) a w'→c.wp P (bodyPost P fn R) a w'):Calls P f vs.toArray w R:=by
 refine calls_of_wp hf hb (h _ _ ?_);have hlen:vs.length=xs.length:=by rw[←hx (fun _=>(b,0,0)) rfl,List.length_map]
 have hg:∀j u,vs[j]?=some u→(vs.toArray++Array.replicate (fn.ntmps-vs.toArray.size) undef)[j]?=some u:=fun j u hj=>by
  have hlt:=(List.getElem?_eq_some_iff.1 hj).1;rw[Array.getElem?_append_left (by simpa using hlt)];simpa using hj
 have hz:(fun k=>if k=fn.ntmps then ((w.heap.size,0,0):Bk)else (b,0,0)) 0=(b,0,0):=if_neg (by omega);have hz2:(fun k=>if k=fn.ntmps then ((w.heap.size,0,0):Bk)else (b,0,0)) fn.ntmps=(w.heap.size,0,0):=if_pos rfl;generalize (fun k=>if k=fn.ntmps then ((w.heap.size,0,0):Bk)else (b,0,0))=β at hz hz2;have h0:∀k o l0,Fact.row k o l0∈SJ fn.ntmps b w.heap.size l xs→k=0∧o=true:=fun k o l0 hk=>by
  simp only[SJ,List.mem_cons,reduceCtorEq,false_or]at hk
  rcases hk with hk|hk
  ·cases hk; exact⟨rfl,rfl⟩
  ·exact (uX xs 0 k o l0 hk).elim
 refine⟨rfl,by simp; omega,Below.refl _ _,Nat.le_of_lt hO.lt,β,fun φ hφ => ?_,fun k k' o' l1 l2 h1 h2 hne => ?_,fun k l1 h1=>Or.inl ?_,by rw[hz2]; exact Nat.le_refl _,fun p q1 q2=>⟨rfl,rfl⟩,Shape.refl _⟩
 ·simp only[SJ,List.mem_cons]at hφ
  rcases hφ with rfl|rfl|rfl|hφ
  ·exact⟨by rw[hz]; exact hO.lt,by rw[hz]; exact hO.row,fun _=>⟨by rw[hz]; exact Nat.le_refl _,by rw[hz],by rw[hz]; exact hO.free⟩,fun h=>by cases h⟩
  ·exact⟨by rw[hz],by rw[hz]⟩
  ·exact⟨by rw[hz2],by rw[hz2]⟩
  ·refine AM _ _ xs 0 (fun j v hj => ?_) φ hφ;rw[Nat.zero_add];exact hg j _ (by rw[←hx β hz,List.getElem?_map,hj]; rfl)
 ·exact (hne ((h0 k true l1 h1).1.trans (h0 k' o' l2 h2).1.symm)).elim
 ·rw[(h0 k true l1 h1).1,hz]
end
def bj (f:Nat→Nat):List At:=[.c (.int .u8 (Int.ofNat (f 0))),.c (.int .u8 (Int.ofNat (f 1))),.c (.int .u8 (Int.ofNat (f 2))),.c (.int .u8 (Int.ofNat (f 3))),.c (.int .u8 (Int.ofNat (f 4))),.c (.int .u8 (Int.ofNat (f 5))),.c (.int .u8 (Int.ofNat (f 6))),.c (.int .u8 (Int.ofNat (f 7))),.c (.int .u8 (Int.ofNat (f 8))),.c (.int .u8 (Int.ofNat (f 9))),.c (.int .u8 (Int.ofNat (f 10))),.c (.int .u8 (Int.ofNat (f 11))),.c (.int .u8 (Int.ofNat (f 12))),.c (.int .u8 (Int.ofNat (f 13))),.c (.int .u8 (Int.ofNat (f 14))),.c (.int .u8 (Int.ofNat (f 15))),.c (.int .u8 (Int.ofNat (f 16))),.c (.int .u8 (Int.ofNat (f 17))),.c (.int .u8 (Int.ofNat (f 18))),.c (.int .u8 (Int.ofNat (f 19))),.c (.int .u8 (Int.ofNat (f 20))),.c (.int .u8 (Int.ofNat (f 21))),.c (.int .u8 (Int.ofNat (f 22))),.c (.int .u8 (Int.ofNat (f 23))),.c (.int .u8 (Int.ofNat (f 24))),.c (.int .u8 (Int.ofNat (f 25))),.c (.int .u8 (Int.ofNat (f 26))),.c (.int .u8 (Int.ofNat (f 27))),.c (.int .u8 (Int.ofNat (f 28))),.c (.int .u8 (Int.ofNat (f 29))),.c (.int .u8 (Int.ofNat (f 30))),.c (.int .u8 (Int.ofNat (f 31)))]
def cV (f:Nat→Nat):Nat→Nat:=fun k=>f (31-k)
def NS:Code:=(f14.body).getD .skip
theorem Aj (f:Nat→Nat) (b N m:Nat):bT prog (qG prog) f14.ntmps (fun _=>⟨fun _=>T0,fun _=>true,fun _=>none⟩) 80 NS (SJ f14.ntmps b N (bj f) [.sl 0 0 32 m]) [.row 0 true (bj (cV f)),.at 0 b,.at f14.ntmps N]=some ([],.nrm,[.row 0 true (bj (cV f)),.at 0 b,.at f14.ntmps N]):=by kernel_rfl
theorem NQ {w:World} {b:Nat} {f:Nat→Nat} (m:Nat) (hO:Own w b (bj f)):Calls prog 14 #[jS b 0 32 m] w (SP b w (.many []) (bj (cV f))):=by
 have hG:dH prog (qG prog) b w:=(aW _).w _ _;have hT:∀n d:Nat,TabOkW prog T0 b w:=fun _ _=>(fV _).w _ _
 refine KU func14 (xs:=[.sl 0 0 32 m]) (vs:=[jS b 0 32 m]) (c:=NS) rfl (fun β e0=>by simp[AV.den,e0,jS]) hO (Nat.le_of_ble_eq_true (by kernel_rfl)) (by decide) fun a w' hA => ?_
 refine aF aT hT hG (Aj f b w.heap.size m) trivial hA fun a w1 hA => ?_
 obtain⟨q1,q2⟩:=hA.wrc (List.mem_of_getElem? (i:=0) rfl) (List.mem_of_getElem? (i:=1) rfl) (List.mem_of_getElem? (i:=2) rfl);have hres:(results f14 a.tmps).run prog w1=.ok (.tuple #[]) w1:=by
  show ((f14.results.mapM (qC a.tmps)) >>= fun vs=>pure (if h:vs.size=1 then vs[0]else .tuple vs):Sem Value).run prog w1=_;have hr:f14.results = #[]:=rfl;rw[hr];simp
 exact⟨hA.defers,.tuple #[],hres,rfl,q1,q2⟩
def Qz (f:Nat→Nat) (b:Nat) (row:List At):List CB→Option (List Prop×RV×List At)
 | [.sl o n m]=>some ([o=0,n=32,aD row=aD (bj f)],.many [],bj (cV f))
 | _=>none
def B6 (f:Nat→Nat):Tab6:=Gw.add 14 (Qz f)
theorem ZQ (f:Nat→Nat):PbOk prog (B6 f):=(mS _).add func14 (by kernel_rfl) (by kernel_rfl) fun b row cs pre r l hg hp args w h1 h2 h3 h4=>by
 unfold Qz at hg;split at hg
 ·rename_i o n m;cases hg;obtain⟨rfl,rfl,hr,_⟩:=hp
  match args,h4 with
  | [v],h4 =>
   have e:v=jS b 0 32 m:=h4.1;subst e;exact NQ m ⟨h1,hr▸h2,h3⟩
  | [],h4=>exact h4.elim
  | _::_::_,h4=>exact h4.2.elim
 ·cases hg
end Go.Proofs.YtjeplinbleofnaaGreat.Ex
namespace Go.Proofs.YtjeplinbleofnaaGreat
open Go.Proofs.Tryz
open Go.RowKit
def XT (A:Nat) (w:World) (e:Ending) (w':World):Prop :=
 ∃b:Nat,e=.returned (.tuple #[.slice (some ⟨b,0,none⟩) 32 32,.int .i64 0])∧w.heap.size≤b∧b<w'.heap.size∧RowB w' b 32 (bH A)∧Below w.heap.size w w'∧∀j,w'.frozen? ⟨b,j,none⟩=false
set_option maxHeartbeats 2000000 in
theorem DJ (f:Int) (F:FC) (hf:FieldIs f F) (a0 a1 a2 a3:Nat) (ha:aX a0 a1 a2 a3) (la:aA a0 a1 a2 a3<F.M) (w:World) :
  Calls prog 13 #[.int .i64 f,.agg #[.int .u64 a0,.int .u64 a1,.int .u64 a2,.int .u64 a3]] w (XT (aA a0 a1 a2 a3) w):=by
 go_enter func13,ntmps13
 go_wp2_with fail;refine (dA f F hf _).mono ?_
 rintro e w1 ⟨rfl,hbl⟩
 have M1:=((Mem.nil w).new (w.heap.size) a0 a1 a2 a3 24 (by simp)).on hbl;clear hbl;have z0:w.heap.size<w1.heap.size:=M1.lt (c0:=a0) (c1:=a1) (c2:=a2) (c3:=a3) (by simp);have HM:=Lib.hid (M1.on ((Below.refl _ _).alloc (Nat.le_refl _) (.cells #[.int .u64 F.m0,.int .u64 F.m1,.int .u64 F.m2,.int .u64 F.m3,.int .u64 F.inv,.int .u64 F.s0,.int .u64 F.s1,.int .u64 F.s2,.int .u64 F.s3] 70)));have KK:=Lib.hid (KIs.new w1 F 70);have kr:=M1.row (b:=w.heap.size) (c0:=a0) (c1:=a1) (c2:=a2) (c3:=a3) (by simp);have x0:=kr.c0; have x1:=kr.c1; have x2:=kr.c2; have x3:=kr.c3;clear kr;have xl:=M1.lt (b:=w.heap.size) (c0:=a0) (c1:=a1) (c2:=a2) (c3:=a3) (by simp);go_wp2_with fail;refine (cF F hf.ok w1.heap.size a0 a1 a2 a3 ha _ KK.out).mono ?_
 rintro e w2 ⟨he,hbl⟩
 rw[show sI (aA a0 a1 a2 a3) F.M=true from decide_eq_true la]at he;subst he;have HM':=Lib.hid (HM.out.on hbl);have KK':=Lib.hid (KK.out.same hbl);have zk:=KK'.out.lt;clear HM KK hbl M1;have HM:=HM';have KK:=KK';clear HM' KK';clear x0 x1 x2 x3 xl zk;have kr:=HM.out.row (b:=w.heap.size) (c0:=a0) (c1:=a1) (c2:=a2) (c3:=a3) (by simp);have x0:=kr.c0; have x1:=kr.c1; have x2:=kr.c2; have x3:=kr.c3;clear kr;have xl:=HM.out.lt (b:=w.heap.size) (c0:=a0) (c1:=a1) (c2:=a2) (c3:=a3) (by simp);go_wp2_with fail;have hsz:w.heap.size≤w2.heap.size:=HM.out.1.size;refine (wV a0 a1 a2 a3 ha _).mono ?_
 rintro e w4 ⟨bb,rfl,h1,h2,h3,hbl,hff⟩
 have HF:=Lib.hid hff;clear hff;have H3:=Lib.hid h3;clear h3;have HM':=Lib.hid (HM.out.on hbl);have KK':=Lib.hid (KK.out.same hbl);have zk:=KK'.out.lt;clear HM KK hbl;have HM:=HM';have KK:=KK';clear HM' KK';clear x0 x1 x2 x3 xl zk;go_wp2_with fail
 go_ret2
 exact⟨bb,rfl,by omega,h2,H3.out,HM.out.1,HF.out⟩
namespace Ex
theorem oE (f:Nat→Nat):∀k,k<32→(aD (bj f))[k]?=some (.int .u8 (Int.ofNat (f k)))
 | 0,_=>by kernel_rfl
 | 1,_=>by kernel_rfl
 | 2,_=>by kernel_rfl
 | 3,_=>by kernel_rfl
 | 4,_=>by kernel_rfl
 | 5,_=>by kernel_rfl
 | 6,_=>by kernel_rfl
 | 7,_=>by kernel_rfl
 | 8,_=>by kernel_rfl
 | 9,_=>by kernel_rfl
 | 10,_=>by kernel_rfl
 | 11,_=>by kernel_rfl
 | 12,_=>by kernel_rfl
 | 13,_=>by kernel_rfl
 | 14,_=>by kernel_rfl
 | 15,_=>by kernel_rfl
 | 16,_=>by kernel_rfl
 | 17,_=>by kernel_rfl
 | 18,_=>by kernel_rfl
 | 19,_=>by kernel_rfl
 | 20,_=>by kernel_rfl
 | 21,_=>by kernel_rfl
 | 22,_=>by kernel_rfl
 | 23,_=>by kernel_rfl
 | 24,_=>by kernel_rfl
 | 25,_=>by kernel_rfl
 | 26,_=>by kernel_rfl
 | 27,_=>by kernel_rfl
 | 28,_=>by kernel_rfl
 | 29,_=>by kernel_rfl
 | 30,_=>by kernel_rfl
 | 31,_=>by kernel_rfl
 | k+32,h=>absurd h (by omega)
theorem SF {w:World} {b:Nat} {f:Nat→Nat} (h:∀k,k<32→w.cell? ⟨b,k,none⟩=some (.int .u8 (f k:Nat))):w.rangeAt b 0 (aD (bj f)):=fun j v hj=>by
 have hlt:j<32:=by
  have h1:=(List.getElem?_eq_some_iff.1 hj).1
  rwa [aM,show fI (bj f)=32 by kernel_rfl]at h1
 rw[Nat.zero_add,h j hlt,←hj,oE f j hlt];rfl
def Dx:List CA→Option (List Prop×FR)
 | [.v (.im (.int .i64 2)),.v (.fl l)]=>match lX l with
  | some x=>some ([x<RM],⟨bj (bH x),32,32,[.im (.int .i64 0)]⟩)
  | none=>none
 | _=>none
theorem WG:∀cs pre r,Dx cs=some (pre,r)→aP pre→∀(args:List Value) (w:World),cE w cs args→Calls prog 13 args.toArray w (fun e w'=>r.ok w e w'):=by
 intro cs pre r hg hp args w ha;unfold Dx at hg;split at hg
 ·rename_i l;split at hg
  ·rename_i x hx;cases hg
   match args,ha with
   | [t,v],ha =>
    have h1:t=.int .i64 2:=ha.1;have h2:v=.agg (aD l).toArray:=ha.2.1;rw[bZ l x hx]at h2;subst h1; subst h2;refine (DJ 2 _ jK _ _ _ _ (cJ x) (by rw[gT hp.1]; exact hp.1) w).mono ?_
    rintro e w' ⟨b,rfl,h1,h2,h3,h4,h5⟩
    rw[gT hp.1]at h3;exact⟨b,rfl,h4,h1,h2,SF fun k hk=>(h3 k hk).1,h5⟩
   | [],ha=>exact ha.elim
   | [_],ha=>exact ha.2.elim
   | _::_::_::_,ha=>exact ha.2.2.elim
  ·cases hg
 ·cases hg
def Rx:Tab2:=ZO.add 13 Dx
theorem Ga:FrOk prog Rx:=(tC _).add func13 (by kernel_rfl) (by kernel_rfl) WG
end Ex
end Go.Proofs.YtjeplinbleofnaaGreat
namespace Go.Proofs.YtjeplinbleofnaaGreat.Ex
open Go.Proofs.Tryz
open Go.RowKit
def WD:gH
 | [.v (.im v)]=>some ([],.one (.im v))
 | _=>none
theorem Ak (v:Value):cK prog (qG prog) (fun _=>⟨fun _=>T0,fun _=>true,fun _=>none⟩) f10 60 [.v (.im v)]=some ([],.one (.im v)):=by kernel_rfl
theorem Lp:∀cs pre r,WD cs=some (pre,r)→aP pre→∀(args:List Value) (w:World),cE w cs args→bE prog 10 r args w:=by
 intro cs pre r hg hp args w ha;unfold WD at hg;split at hg
 ·rename_i v;cases hg;exact aH aT (fun _ _=>fV _) (aW prog) func10 (Ak v) trivial ha
 ·cases hg
def Bh (b:Bool) (p:NP):RV:=bif b then fD p 0 else fD (0,0) 41
def Kq (b:Bool):gH:=g2 IX lX fun p n=>([p.1<aU,p.2<aU,jX p.1 p.2=b],Bh b (iT p n))
def Kp (b:Bool):gH:=g1 IX fun p=>([p.1<aU,p.2<aU,jX p.1 p.2=b],.one (.im (.bool b)))
def WJ (c:Int):gH:=g1 IX fun p=>([p.1<aU,p.2<aU,cQ p=c],.one (.im (.int .i64 c)))
theorem UJ {b:Bool} {c:Bool} {p:NP} (h:c=b):(if c=true then fD p 0 else fD (0,0) 41)=Bh b p:=by
 subst h; cases c<;>rfl
theorem WE {f:FuncId} (h:∀(p:NP) (n:Nat),w2 p→∀(args:List Value) (w:World),cE w [.v (.fl (q2 p)),.v (.fl (q1 n))] args→bE prog f (if jX p.1 p.2=true then fD (iT p n) 0 else fD (0,0) 41) args w) (b:Bool):∀cs pre r,Kq b cs=some (pre,r)→aP pre→∀(args:List Value) (w:World),cE w cs args→bE prog f r args w :=
 zP (op:=fun p n=>([p.1<aU,p.2<aU,jX p.1 p.2=b],Bh b (iT p n))) fX bZ fun p n hp args w ha=>by
  have:=h p n ⟨hp.1,hp.2.1⟩ args w ha;rw[UJ hp.2.2.1]at this;exact this
theorem WC {f:FuncId} (h:∀(p:NP),w2 p→∀(args:List Value) (w:World),cE w [.v (.fl (q2 p))] args→bE prog f (.one (.im (.bool (jX p.1 p.2)))) args w) (b:Bool):∀cs pre r,Kp b cs=some (pre,r)→aP pre→∀(args:List Value) (w:World),cE w cs args→bE prog f r args w :=
 gO (op:=fun p=>([p.1<aU,p.2<aU,jX p.1 p.2=b],.one (.im (.bool b)))) fX fun p hp args w ha=>by
  have:=h p ⟨hp.1,hp.2.1⟩ args w ha;rw[hp.2.2.1]at this;exact this
theorem wJ {f:FuncId} (h:∀(p:NP),w2 p→∀(args:List Value) (w:World),cE w [.v (.fl (q2 p))] args→bE prog f (.one (.im (.int .i64 (cQ p)))) args w) (c:Int):∀cs pre r,WJ c cs=some (pre,r)→aP pre→∀(args:List Value) (w:World),cE w cs args→bE prog f r args w :=
 gO (op:=fun p=>([p.1<aU,p.2<aU,cQ p=c],.one (.im (.int .i64 c)))) fX fun p hp args w ha=>by
  have:=h p ⟨hp.1,hp.2.1⟩ args w ha;rw[hp.2.2.1]at this;exact this
def Mx (b:Bool) (c:Int):Tab:=(((((((T0.add 10 WD).add 28 (g0 (.one (.fl [.q bX,.q bY])))).add 29 (g0 (.one (.fl [.q lJ])))).add 30 (g0 (.one (.fl [.q 0,.q 1])))).add 27 (Kq b)).add 12 (WJ c)).add 31 (Kp b))
theorem Jp (b:Bool) (c:Int):TabOk prog (Mx b c):=((((((((fV _).add func10 (by kernel_rfl) (by kernel_rfl) Lp).add func28 (by kernel_rfl) (by kernel_rfl) (pO AL)).add func29 (by kernel_rfl) (by kernel_rfl) (pO rW)).add func30 (by kernel_rfl) (by kernel_rfl) (pO uH)).add func27 (by kernel_rfl) (by kernel_rfl) (WE CP b)).add func12 (by kernel_rfl) (by kernel_rfl) (wJ mP c)).add func31 (by kernel_rfl) (by kernel_rfl) (WC JU b))
def Qr (n:Nat):Cfg:=⟨fun s=>Mx (!Nat.beq s 36) (bif Nat.beq s 13 then 111 else 0),fun _=>true,fun _=>none⟩
theorem Fp:cK prog (qG prog) Qr f11 80 []=some ([bX<aU,bY<aU,jX bX bY=true,0<aU,mY<aU,cQ (0,mY)=111,bX<aU,bY<aU,cQ (bX,bY)=0,aD [At.q (iT (bX,bY) lJ).1,.q (iT (bX,bY) lJ).2]=aD [At.q 0,.q 1],1<aU,1<aU,jX 1 1=false],.one (.im (.bool true))):=by kernel_rfl
theorem Qp:cQ (0,mY)=111:=by
 rw[nZ (p:=(0,mY)) VQ,if_neg Jy]
theorem Qq:cQ (bX,bY)=0:=by
 rw[nZ (p:=(bX,bY)) wY];exact if_pos ZE
theorem Qn:iT (bX,bY) lJ=(0,1):=by
 rw[wB (p:=(bX,bY)) wY,ME];exact (congrArg cj ZE).trans sU
theorem Qo:jX 1 1=false:=by kernel_rfl
theorem SM (w:World):bE prog 11 (.one (.im (.bool true))) [] w :=
 aH aT (fun _ _=>Jp _ _) (aW _) func11 Fp ⟨(OnJ.w wY).1,(OnJ.w wY).2,FK wY,by decide,(OnJ.w VQ).2,Qp,(OnJ.w wY).1,(OnJ.w wY).2,Qq,by rw[Qn],by decide,by decide,Qo,trivial⟩ (args:=[]) trivial
def Pp (c:Bool):gH
 | [.v (.im (.int .i64 2)),.v (.fl l)]=>match lX l with
  | some x=>some ([x<RM,cH RM x=c],.many [.im (.bool c),.im (.int .i64 0)])
  | none=>none
 | _=>none
theorem Qd (c:Bool):∀cs pre r,Pp c cs=some (pre,r)→aP pre→∀(args:List Value) (w:World),cE w cs args→bE prog 40 r args w:=by
 intro cs pre r hg hp args w ha;unfold Pp at hg;split at hg
 ·rename_i l;split at hg
  ·rename_i x hx;cases hg
   match args,ha with
   | [t,v],ha =>
    have h1:t=.int .i64 2:=ha.1;have h2:v=.agg (aD l).toArray:=ha.2.1;rw[bZ l x hx]at h2;subst h1; subst h2;have h:=KV 2 _ jK _ _ _ _ (cJ x) (by rw[gT hp.1]; exact hp.1) w;rw[gT hp.1,hp.2.1]at h;exact h
   | [],ha=>exact ha.elim
   | [_],ha=>exact ha.2.elim
   | _::_::_::_,ha=>exact ha.2.2.elim
  ·cases hg
 ·cases hg
def My (c:Bool):Tab:=T0.add 40 (Pp c)
theorem Jq (c:Bool):TabOk prog (My c):=(fV _).add func40 (by kernel_rfl) (by kernel_rfl) (Qd c)
theorem Df (c:Bool) (x:Nat):jY prog (My c) (qG prog) (fun _=>true) f15 40 [.v (.fl [.q x])]=some ([x<RM,cH RM x=c],.one (.im (.bool c))):=by kernel_rfl
def Rc (c:Bool):gH:=g1 lX fun x=>([x<RM,cH RM x=c],.one (.im (.bool c)))
theorem Qe (c:Bool):∀cs pre r,Rc c cs=some (pre,r)→aP pre→∀(args:List Value) (w:World),cE w cs args→bE prog 15 r args w :=
 gO (op:=fun x=>([x<RM,cH RM x=c],.one (.im (.bool c)))) bZ fun x h args w ha=>bR aT (Jq c) (aW _) func15 (Df c x) h ha
def Fu (k:Int) (c:Bool):Tab:=(lE.add 12 (WJ k)).add 15 (Rc c)
theorem YK (k:Int) (c:Bool):TabOk prog (Fu k c):=(gD.add func12 (by kernel_rfl) (by kernel_rfl) (wJ mP k)).add func15 (by kernel_rfl) (by kernel_rfl) (Qe c)
theorem Fi (p:NP) (k:Int):cK prog (qG prog) (fun _=>⟨fun _=>Fu k true,fun _=>true,assoc [(10,.bool true)]⟩) f5 60 [.v (.fl [.q p.1,.q p.2])]=some ([p.1<aU,p.2<aU,cQ p=k,bD .neq .i64 k 0=some (.bool true)],.many [.im (.slice none 0 0),.im (.int .i64 k)]):=by kernel_rfl
def Nf (f:Nat→Nat) (ky:Nat→Option Nat) (gen:Nat→Option Value):Ext:={ Ext.none with ky:=ky,gen:=gen,T2:=Rx,T3:=ZN,T4:=Fs,T5:=Fx,T6:=B6 f }
theorem AW (f:Nat→Nat) (ky:Nat→Option Nat) (gen:Nat→Option Value) (w:World):dH prog (qY prog (Nf f ky gen)) w.heap.size w:=yC Ga (fun _ _ _ h=>h.elim) (tB _) (pC _) (lF _) (ZQ f)
def dW:Code:=(f5.body).getD .skip
theorem SC:dW=.seq (cA dW) (.seq (cA (cB dW)) (.seq (cA (cB (cB dW))) (.seq (cA (cB (cB (cB dW)))) (.seq (cA (cB (cB (cB (cB dW))))) (cB (cB (cB (cB (cB dW))))))))):=by kernel_rfl
def Gt (p:NP):List Fact:=[.slot 1 (.pt 1 0),.row 1 true [.q p.1,.q p.2]]
def LF (p:NP) (f:Nat→Nat):List Fact:=[.slot 1 (.pt 1 0),.row 1 true [.q p.1,.q p.2],.slot 5 (.sl 15 0 32 32),.row 15 true (bj f)]
def ZC (c:Bool) (_:Nat):Cfg:=⟨fun _=>Fu 0 c,fun _=>true,fun _=>none⟩
theorem Fh (p:NP) (c:Bool):bT prog (qG prog) f5.ntmps (ZC c) 60 (cA dW) (jZ 0 [.v (.fl [.q p.1,.q p.2])]) (Gt p)=some ([],.nrm,Gt p):=by kernel_rfl
theorem Fg (p:NP) (c:Bool):bT prog (qG prog) f5.ntmps (ZC c) 60 (cA (cB dW)) (Gt p) (Gt p)=some ([p.1<aU,p.2<aU,cQ p=0],.nrm,Gt p):=by kernel_rfl
theorem Ff (p:NP) (c:Bool) (f:Nat→Nat):bT prog (qY prog (Nf f (fun _=>none) (fun _=>none))) f5.ntmps (ZC c) 60 (cA (cB (cB dW))) (Gt p) (LF p (bH p.2))=some ([p.2<RM],.nrm,LF p (bH p.2)):=by kernel_rfl
theorem Fe (p:NP) (c:Bool) (f:Nat→Nat) (b:Nat):bT prog (qY prog (Nf f (assoc [(19,15)]) (fun _=>none))) f5.ntmps (ZC c) 60 (cA (cB (cB (cB dW)))) (.at 15 b::LF p f) (LF p (cV f))=some ([0=0,32=32,aD (bj f)=aD (bj f)],.nrm,LF p (cV f)):=by kernel_rfl
def CK (f:Nat→Nat):Nat→Nat:=fun k=>bif Nat.beq k 31 then f 31 ||| 128 else f k
theorem Fc (p:NP) (f:Nat→Nat):bT prog (qG prog) f5.ntmps (ZC true) 60 (cA (cB (cB (cB (cB dW))))) (LF p f) (LF p f)=some ([p.1<RM,cH RM p.1=true],.nrm,LF p f):=by kernel_rfl
theorem Fd (p:NP) (f:Nat→Nat):bT prog (qY prog (Nf f (fun _=>none) (assoc [(27,.int .u8 (Int.ofNat (f 31 ||| 128)))]))) f5.ntmps (ZC false) 60 (cA (cB (cB (cB (cB dW))))) (LF p f) (LF p (CK f))=some ([p.1<RM,cH RM p.1=false,Nc .or 5 (.tmp 26) (.const (.int .u8 128)) (.int .u8 (Int.ofNat (f 31))) (.int .u8 (Int.ofNat 128)) (.int .u8 (Int.ofNat (f 31 ||| 128)))],.nrm,LF p (CK f)):=by kernel_rfl
theorem SB (p:NP) (c:Bool) (f:Nat→Nat):bT prog (qG prog) f5.ntmps (ZC c) 60 (cB (cB (cB (cB (cB dW))))) (LF p f) [.slot 2 (.sl 15 0 32 32),.row 15 true (bj f),.slot 3 (.im (.int .i64 0))]=some ([],.rt,[.slot 2 (.sl 15 0 32 32),.row 15 true (bj f),.slot 3 (.im (.int .i64 0))]):=by kernel_rfl
def AI (p:NP):Nat→Nat:=bif cH RM p.1 then cV (bH p.2)else CK (cV (bH p.2))
theorem DZ (A k:Nat):bH A k<256:=Nat.mod_lt _ (by decide)
theorem LE (p:NP) (hp:OnJ p.1 p.2) (h0:cQ p=0) (args:List Value) (w:World) (ha:cE w [.v (.fl [.q p.1,.q p.2])] args):Calls prog 5 args.toArray w (fun e w'=>FR.ok ⟨bj (AI p),32,32,[.im (.int .i64 0)]⟩ w e w'):=by
 have hG:dH prog (qG prog) w.heap.size w:=(aW _).w _ _;have hT:∀c (n d:Nat),TabOkW prog ((ZC c n).T d) w.heap.size w:=fun c _ _=>(YK 0 c).w _ _
 refine fQ func5 (c:=dW) rfl ha (Nat.le_of_ble_eq_true (by kernel_rfl)) fun a w' hA => ?_
 rw[SC];refine wp_seq (aF aT (hT true) hG (Fh p true) trivial hA fun a w' hA => ?_);refine wp_seq (aF aT (hT true) hG (Fg p true) ⟨hp.w.1,hp.w.2,h0,trivial⟩ hA fun a w' hA => ?_);refine wp_seq (aF aT (hT true) (AW (bH p.2) _ _ w) (Ff p true (bH p.2)) ⟨hp.1.2,trivial⟩ hA fun a w' hA => ?_);obtain⟨b,hA⟩:=hA.at (k:=15) (l:=bj (bH p.2)) (by simp[LF]);refine wp_seq (aF aT (hT true) (AW (bH p.2) _ _ w) (Fe p true (bH p.2) b) ⟨rfl,rfl,rfl,trivial⟩ hA fun a w' hA => ?_);unfold AI;cases hl:cH RM p.1
 ·refine wp_seq (aF aT (hT false) (AW (cV (bH p.2)) _ _ w) (Fd p (cV (bH p.2))) ⟨hp.1.1,hl,SG (DZ _ _) (by decide),trivial⟩ hA fun a w' hA => ?_);exact aF aT (hT false) hG (SB p false _) trivial hA fun a w' hA=>lS (r:=⟨bj (CK (cV (bH p.2))),32,32,[.im (.int .i64 0)]⟩) (by kernel_rfl) hA
 ·refine wp_seq (aF aT (hT true) hG (Fc p (cV (bH p.2))) ⟨hp.1.1,hl,trivial⟩ hA fun a w' hA => ?_);exact aF aT (hT true) hG (SB p true _) trivial hA fun a w' hA=>lS (r:=⟨bj (cV (bH p.2)),32,32,[.im (.int .i64 0)]⟩) (by kernel_rfl) hA
def Ge (T:Tab) (num:Nat→Option Value):Cfg:=⟨fun _=>T,fun _=>true,num⟩
def ZM (op:BinOp) (t:Nat) (x y:Operand) (v u r:Value):Prop:=∀w:World,(do eqGuard op t x y v u; binOp op t v u:Sem Value).run prog w=.ok r w
theorem YX {a:Act} {s:Nat} {v:Value} (h:a.tmps[s]?=some v):a.eval (.tmp s)=v:=by simp[Act.eval,h]
theorem Bq {a:Act} {d s:Nat} {u v:Value} (h:a.tmps[s]?=some v) (hd:d≠s):(a.put (some d) u).tmps[s]?=some v:=by
 rw[iC _ _ _ _ (fun e=>hd (by injection e))]; exact h
theorem mZ {nt:Nat} {w:World} {a:Act} {ts:List (Nat×Value)} (hd:a.defers=[]) (hs:a.tmps.size=nt) (ht:∀x∈ts,a.tmps[x.1]?=some x.2):Holds nt w.heap.size w (ts.map fun x=>.slot x.1 (.im x.2)) a w:=by
 refine⟨hd,hs,Below.refl _ _,Nat.le_refl _,fun _=>(w.heap.size,0,0),fun φ hφ => ?_,fun k k' o' l l' h1 => ?_,fun k l h1 => ?_,Nat.le_refl _,fun p h1 h2=>⟨rfl,rfl⟩,Shape.refl _⟩
 ·obtain⟨x,hx,rfl⟩:=List.mem_map.1 hφ;exact ht x hx
 ·obtain⟨x,_,e⟩:=List.mem_map.1 h1; cases e
 ·obtain⟨x,_,e⟩:=List.mem_map.1 h1; cases e
theorem Holds.shapeJ {nt base:Nat} {w0:World} {A:List Fact} {a:Act} {w:World} (h:Holds nt base w0 A a w):Shape w0 w:=by
 obtain⟨_,_,_,_,gt⟩:=h.facts;exact gt.shape
theorem Own.onJ {w w':World} {b:Nat} {l:List At} (h:Own w b l) (hb:Below w.heap.size w w'):Own w' b l :=
 ⟨Nat.lt_of_lt_of_le h.lt hb.size,fun j v hj=>(hb.cell (p:=⟨b,0+j,none⟩) h.lt).trans (h.row j v hj),fun j=>(hb.frozen (p:=⟨b,j,none⟩) h.lt).trans (h.free j)⟩
theorem Ha:Mo prog 27=some (5,1,1):=by kernel_rfl
noncomputable abbrev Qi:Func:=f48
def jO:Code:=(f48.body).getD .skip
def DX:Code:=cA (cB (cB jO))
theorem RR:jO=.seq (cA jO) (.seq (cA (cB jO)) (.seq (.region 3 (rZ DX) false) .ret)):=by kernel_rfl
theorem Ez:Qi.ntmps=8:=by kernel_rfl
theorem Ey (v:Value):bT prog (qG prog) 8 (fun _=>Ge T0 fun _=>none) 60 (cA jO) (jZ 0 [.v (.im v)]) [.slot 0 (.im v)]=some ([],.nrm,[.slot 0 (.im v)]):=by kernel_rfl
theorem Ew (w:World) (v:Value):bT prog { qG prog with x:=xO w (fun _=>none) (fun _=>none) (assoc [(4,.bool false)]) } 8 (fun _=>Ge T0 fun _=>none) 60 (cA (cB jO)) [.slot 0 (.im v)] [.slot 0 (.im v)]=some ([ZM .eql 27 (.tmp 3) (.const (.slice none 0 0)) v (.slice none 0 0) (.bool false)],.nrm,[.slot 0 (.im v)]):=by kernel_rfl
theorem Ev (v u:Value):OA prog (qG prog) 8 (Ge T0 fun _=>none) ((rZ DX).extract 1 2) [.slot 5 (.im u),.slot 0 (.im v)] [.slot 6 (.im v),.slot 5 (.im u)]=some ([],[.slot 6 (.im v),.slot 5 (.im u)]):=by kernel_rfl
theorem Eu (v:Value):OA prog (qG prog) 8 (Ge T0 fun _=>none) ((rZ DX).extract 3 4) [.slot 7 (.im v)] [.slot 2 (.im v)]=some ([],[.slot 2 (.im v)]):=by kernel_rfl
theorem WU (d:Nat) (b o n m:Nat) (w:World):(Op.equalIn (d+1) 27 (jS b o n m) (.slice none 0 0)).run prog w=.ok false w:=by
 have hu:prog.underlying 27=some (.slice 5):=underlying27;simp[Op.equalIn,jS,run_underlying hu]
theorem TU (x y:Operand) (b o n m:Nat):ZM .eql 27 x y (jS b o n m) (.slice none 0 0) (.bool false):=fun w=>by
 have hu:prog.underlying 27=some (.slice 5):=underlying27;have h:=WU 9999 b o n m w;have e:Op.maxDepth=9999+1:=rfl;simp[eqGuard,binOp,go_sem,run_underlying hu,Op.equal,e,h,show jS b o n m=Value.slice (some ⟨b,o,none⟩) n m from rfl]at h ⊢;simp[h]
theorem SD (w:World):(Instr.buildSlice 27 0 #[]).run prog w=.ok (jS w.heap.size 0 0 0) (w.alloc (.cells #[] 5)):=by
 obtain⟨ht,i,z,hi,hz,hsize,hby,hzs,hsz⟩:=AO Ha;simp[Instr.buildSlice,run_underlying ht,sizeOf,typeInfo,hi,newRow,jS,Instr.fill,show Array.range 0 = #[] by simp[Array.range]]
theorem Fj (f:Nat→Nat):∀v∈aD (bj f),v.oneCell'=true:=fun v hv=>by
 obtain⟨k,hk,e⟩:=List.mem_iff_getElem.1 hv;have hl:k<32:=by rwa [aM,show fI (bj f)=32 by kernel_rfl]at hk
 have h1:=oE f k hl;rw[List.getElem?_eq_getElem hk,e]at h1;cases h1;rfl
theorem LD {w0:World} {b o m:Nat} {f:Nat→Nat} (hbw:b<w0.heap.size) (hrw:w0.rangeAt b o (aD (bj f))) :
  Calls prog 48 [jS b o 32 m].toArray w0 fun e w'=>FS.ok ⟨bj f,32,5,1,true,[],[]⟩ w0 e w':=by
 have hG:∀base w,dH prog (qG prog) base w:=fun _ _=>(aW _).w _ _
 have hT:∀base w,∀n d:Nat,TabOkW prog T0 base w:=fun _ _ _ _=>(fV _).w _ _
 have hnt:f48.ntmps=8:=Ez;refine fQ func48 (cs:=[.v (.im (jS b o 32 m))]) (args:=[jS b o 32 m]) (c:=jO) rfl ⟨rfl,trivial⟩ (Nat.le_of_ble_eq_true (by kernel_rfl)) fun a w hA => ?_
 rw[hnt]at hA;rw[RR];refine wp_seq (aF aT (hT _ _) (hG _ _) (Ey _) trivial hA fun a w hA => ?_);refine wp_seq (aF aT (hT _ _) (XW w0 _ _ _) (Ew w0 _) ⟨TU _ _ _ _ _ _,trivial⟩ hA fun a w hA => ?_);have t0:=hA.slot (s:=0) (v:=jS b o 32 m) (by simp);have hd:=hA.defers;have hsz:=hA.size;have hbl:=hA.below;clear hA;refine wp_seq (IM (l:=0::(List.range' 1 ((rZ DX).extract 1 2).size++(2::(List.range' 3 ((rZ DX).extract 3 4).size++[])))) (by kernel_rfl) ?_);obtain⟨o0,ho0,hop0,hd0,hg0⟩:∃x,(rZ DX)[0]?=some x∧x.op=.buildSlice 27 0 #[]∧x.dst=some 5∧x.guard=none:=⟨_,rfl,rfl,rfl,rfl⟩
 have hrun0:(execOp a.eval o0).run prog w=.ok (.value (jS w.heap.size 0 0 0)) (w.alloc (.cells #[] 5)):=by
  simp[execOp,hop0,SD w]
 refine tN ho0 hg0 (iH hrun0 ?_);rw[hd0];have hb1:Below w.heap.size w (w.alloc (.cells #[] 5)):=(Below.refl _ w).alloc (Nat.le_refl _) _;have hap:AppAt (w.alloc (.cells #[] 5)) w.heap.size 5 4 0 0:=⟨#[],World.alloc_heap_new _ _,Nat.le_refl _,Nat.zero_le _,rfl⟩;generalize hc0:w.heap.size=c0 at hap;have hc0':w0.heap.size≤c0:=by rw[←hc0]; exact hbl.size
 generalize w.alloc (.cells #[] 5)=w1 at *;have hb1:Below w0.heap.size w0 w1:=hbl.trans (hb1.mono (by rw[hc0]; exact hc0'));have hS:=mZ (nt:=8) (w:=w1) (a:=a.put (some 5) (jS c0 0 0 0)) (ts:=[(5,jS c0 0 0 0),(0,jS b o 32 m)]) hd (by rw[dO]; exact hsz) (fun x hx=>by
  simp only[List.mem_cons,List.not_mem_nil,or_false]at hx
  rcases hx with rfl|rfl
  ·exact eT _ _ _ (by rw[hsz]; decide)
  ·exact Bq t0 (by simp))
 refine pI (c:=Ge T0 _) (hT _ _ 0) (hG _ _) (Ev _ _) trivial (by kernel_rfl) hS fun a2 w2 hA => ?_
 obtain⟨o2,ho2,⟨ty,hop2⟩,hd2,hg2⟩:∃x,(rZ DX)[2]?=some x∧(∃ty:Nat,x.op=.call ⟨.builtin .append,#[.tmp 5,.tmp 6],#[27,27]⟩∧x.type=ty)∧x.dst=some 7∧x.guard=none:=⟨_,rfl,⟨_,rfl,rfl⟩,rfl,rfl⟩
 have hb':=Nat.lt_of_lt_of_le hbw (hb1.trans (hA.below.mono hb1.size)).size;have hr:=fS (hb1.trans (hA.below.mono hb1.size)) hbw hrw;obtain⟨c,cap,w3,hr',a1,q2,q3,q4,a5,a6,a7⟩:=rF (P:=prog) w2 (ty:=o2.type) Ha (u:=jS c0 0 0 0) (n:=0) (xs:=[]) (Or.inr ⟨c0,0,rfl,hap.shape hA.shapeJ,fun j v hj=>by simp at hj,rfl⟩) (ad:=⟨b,o,none⟩) (m:=32) (c:=m) (news:=aD (bj f)) (by rw[aM]; kernel_rfl) (fun j v hj=>by
  have e:(⟨b,o,none⟩:Addr).add j=⟨b,o+j,none⟩:=by simp[Addr.add]
  rw[e];exact hr j v hj) (Fj f) (by decide) (by omega) (by unfold maxLen; omega)
 rw[Nat.zero_add]at hr';have hcap:32≤cap:=by obtain⟨_,_,h,_⟩:=a1; omega
 have hrun2:(execOp a2.eval o2).run prog w2=.ok (.value (jS c 0 32 cap)) w3:=by
  unfold execOp;simp only[hop2.1,resolve,invoke,builtin,Sem.run_bind,Sem.run_pure,Result.andThen_ok,List.map_toArray,List.map_cons,List.map_nil,YX (hA.slot (s:=5) (v:=jS c0 0 0 0) (by simp)),YX (hA.slot (s:=6) (v:=jS b o 32 m) (by simp))];rw[show jS b o 32 m=Value.slice (some ⟨b,o,none⟩) 32 m from rfl,hr'];rfl
 refine tN ho2 hg2 (iH hrun2 ?_);rw[hd2];have hb2:Below w0.heap.size w0 w2:=hb1.trans (hA.below.mono hb1.size);have hb3:Below w0.heap.size w0 w3:=hb2.grown a5 hb2.size (fun k hk=>by
  have:k=c0:=by simpa[jS,Value.ownBlock,eq_comm]using hk
  omega)
 have hcge:w0.heap.size≤c:=by
  rcases a7 with h|⟨cap0,h⟩
  ·exact Nat.le_trans hb2.size h
  ·have:c0=c:=by simp only[jS,Value.slice.injEq,Option.some.injEq,Addr.mk.injEq]at h; exact h.1.1
   omega
 have hS3:=mZ (nt:=8) (w:=w3) (a:=a2.put (some 7) (jS c 0 32 cap)) (ts:=[(7,jS c 0 32 cap)]) hA.defers (by rw[dO]; exact hA.size) (fun x hx=>by
  cases List.mem_singleton.1 hx;exact eT _ _ _ (by rw[hA.size]; decide))
 refine pI (c:=Ge T0 _) (hT _ _ 0) (hG _ _) (Eu _) trivial (by kernel_rfl) hS3 fun a4 w4 hA4 => ?_
 have hO:Own w3 c (bj f):=⟨q2,q3,q4⟩;exact wp_ret (KT (l:=[.im (jS c 0 32 cap)]) (r:=.one (.im (jS c 0 32 cap))) (by kernel_rfl) (by kernel_rfl) hA4 ⟨c,cap,rfl,hb3.trans (hA4.below.mono hb3.size),hcge,(hO.onJ hA4.below).lt,(hO.onJ hA4.below).row,(hO.onJ hA4.below).free,fun _=>a1.shape hA4.shapeJ⟩)
def Pq (f:Nat→Nat):List CA→Option (List Prop×FS)
 | [.s l n m]=>some ([n=32,aD l=aD (bj f)],⟨bj f,32,5,1,true,[],[]⟩)
 | _=>none
theorem Ea (f:Nat→Nat):∀cs pre r,Pq f cs=some (pre,r)→aP pre→∀(args:List Value) (w:World),cE w cs args→Calls prog 48 args.toArray w (fun e w'=>r.ok w e w'):=by
 intro cs pre r hg hp args w ha;unfold Pq at hg;split at hg
 ·rename_i l n m;cases hg;obtain⟨rfl,he,_⟩:=hp
  match args,ha with
  | [v],ha =>
   obtain⟨b,o,rfl,hb,hr⟩:=ha.1;exact LD hb (he▸hr)
  | [],ha=>exact ha.elim
  | _::_::_,ha=>exact ha.2.elim
 ·cases hg
theorem Holds.anew {nt base:Nat} {w0:World} {A:List Fact} {a:Act} {w:World} (h:Holds nt base w0 A a w) {w':World} (hb:Below base w0 w') (hs:Shape w w') (hh:base≤w'.heap.size) {d k b n:Nat} {l:List At} (hd:d<nt) (h1:base≤b) (h2:b<w'.heap.size) (h3:w'.rangeAt b 0 (aD l)) (h4:∀j,w'.frozen? ⟨b,j,none⟩=false) (hk:k≠nt) :
  Holds nt base w0 [.slot d (.sl k 0 n n),.row k true l] (a.put (some d) (jS b 0 n n)) w':=by
 obtain⟨β,g1,g2,g3,gt⟩:=h.facts;refine⟨by rw[gL]; exact h.defers,by rw[dO]; exact h.size,hb,hh,fun j=>if j=nt then (0,0,0)else (b,0,0),fun φ hφ => ?_,fun k1 k2 o2 l1 l2 q1 q2 hne => ?_,fun k1 l1 q1=>Or.inr ?_,?_,fun p p1 p2 => ?_,gt.shape.trans hs⟩
 ·simp only[List.mem_cons,List.not_mem_nil,or_false]at hφ
  rcases hφ with rfl|rfl
  ·show (a.put (some d) _).tmps[d]?=_;rw[eT _ _ _ (by rw[h.size]; exact hd)];simp[AV.den,hk,jS]
  ·refine⟨by simp[hk,h2],?_,fun _=>⟨by simp[hk,h1],by simp[hk],fun j=>by simp[hk,h4]⟩,fun h=>by cases h⟩;show w'.rangeAt (if k=nt then ((0,0,0):Bk)else (b,0,0)).1 (if k=nt then ((0,0,0):Bk)else (b,0,0)).2.1 _;rw[if_neg hk]; exact h3
 ·simp only[List.mem_cons,List.not_mem_nil,or_false,reduceCtorEq,false_or]at q1 q2;cases q1; cases q2; exact (hne rfl).elim
 ·show (if nt=nt then ((0,0,0):Bk)else (b,0,0)).1≤_;rw[if_pos rfl]; exact Nat.zero_le _
 ·show (if nt=nt then ((0,0,0):Bk)else (b,0,0)).1≤_;rw[if_pos rfl]; exact Nat.zero_le _
 ·exfalso;have h2:p.block<(if nt=nt then ((0,0,0):Bk)else (b,0,0)).1:=p2;rw[if_pos rfl]at h2;exact absurd h2 (Nat.not_lt_zero _)
def u3 (n:Nat):Value:=.int .u32 (Int.ofNat n)
def FL (z:Int) (b:Nat):Prop:=∃(s:Bool) (k:Nat),Ieee.double.read b=.number s (z.natAbs*2^k) (-(k:Int))∧(z=0∨s=decide (z<0))
theorem Es:Ieee.double.signWeight=2^63:=by decide
theorem GS:Ieee.double.binade=2^52:=by decide
theorem GR:Ieee.double.infRung=2047*2^52:=by decide
theorem DR:Ieee.double.leastPlace = -1074:=by decide
theorem JF (s:Bool) {e m:Nat} (he:e<2046) (hm:m<2^52):Ieee.double.read (Ieee.double.word s ((e+1)*2^52+m))=.number s (2^52+m) (-1074+(e:Int)):=by
 have h1:(e+1)*2^52+m<2^63:=by omega
 unfold Ieee.Format.read Ieee.Format.word;simp only[Es,GS,GR,DR];have h2:(if s=true then 2^63+((e+1)*2^52+m)else (e+1)*2^52+m)%2^63=(e+1)*2^52+m:=by cases s<;>simp<;>omega
 have h3:((if s=true then 2^63+((e+1)*2^52+m)else (e+1)*2^52+m)/2^63%2==1)=s:=by cases s<;>simp<;>omega
 rw[h2,h3,if_neg (by omega),if_pos (by omega)];have h4:((e+1)*2^52+m)%2^52=m:=by omega
 have h5:((e+1)*2^52+m)/2^52-1=e:=by omega
 rw[h4,h5]
theorem JE (s:Bool):Ieee.double.read (Ieee.double.word s 0)=.number s 0 (-1074):=by
 cases s<;>decide
theorem FL.write {s:Bool} {z:Int} {k:Nat} (hz:z.natAbs<2^53) (hs:z=0∨s=decide (z<0)):FL z (Ieee.double.write (.number s (z.natAbs*2^k) (-(k:Int)))):=by
 by_cases h0:z=0
 ·subst h0;refine⟨s,1074,?_,Or.inl rfl⟩;show Ieee.double.read (Ieee.double.nearest s (0*2^k) _)=_;unfold Ieee.Format.nearest;rw[Nat.zero_mul,if_pos rfl,JE];have e:∀n:Nat,(0:Int).natAbs*n=0:=fun n=>Nat.zero_mul n
  rw[e]<;>rfl
 ·have hn:z.natAbs≠0:=by omega
  obtain⟨L,hL1,hL2⟩:∃L,2^L≤z.natAbs∧z.natAbs<2^(L+1):=⟨z.natAbs.log2,Nat.log2_self_le hn,Nat.lt_log2_self⟩
  have hL:L≤52:=by
   rcases Nat.lt_or_ge 52 L with h|h
   ·have:=Nat.pow_le_pow_right (n:=2) (by omega) (show 53≤L by omega);omega
   ·exact h
  have hpos:z.natAbs*2^k≠0:=Nat.mul_ne_zero hn (Nat.pos_iff_ne_zero.1 (Nat.two_pow_pos k));have hlog:(z.natAbs*2^k).log2=L+k:=by
   refine (Nat.log2_eq_iff hpos).2 ⟨?_,?_⟩
   ·rw[Nat.pow_add]; exact Nat.mul_le_mul_right _ hL1
   ·rw[show L+k+1=(L+1)+k by omega,Nat.pow_add]; exact (Nat.mul_lt_mul_right (Nat.two_pow_pos k)).2 hL2
  have hkept:Ieee.Toward.even.cut s ((z.natAbs*2^k) <<< (-(k:Int)-((L:Int)-52)).toNat) (((L:Int)-52) - -(k:Int)).toNat=z.natAbs*2^(52-L):=by
   rcases Nat.lt_or_ge (52-L) k with h|h
   ·
    have e1:(-(k:Int)-((L:Int)-52)).toNat=0:=by omega
    have e2:(((L:Int)-52) - -(k:Int)).toNat=k-(52-L):=by omega
    rw[e1,e2,Nat.shiftLeft_zero];have e3:z.natAbs*2^k=z.natAbs*2^(52-L)*2^(k-(52-L)):=by rw[Nat.mul_assoc,←Nat.pow_add,show 52-L+(k-(52-L))=k by omega]
    unfold Ieee.Toward.cut;have e4:min (k-(52-L)) ((z.natAbs*2^k).log2+2)=k-(52-L):=by rw[hlog]; omega
    simp only[e4,Nat.one_shiftLeft];have e5:z.natAbs*2^k/2^(k-(52-L))=z.natAbs*2^(52-L):=by rw[e3,Nat.mul_div_cancel _ (Nat.two_pow_pos _)]
    have e6:z.natAbs*2^k%2^(k-(52-L))=0:=by rw[e3,Nat.mul_mod_left]
    rw[e5,e6];have hg:=Nat.two_pow_pos (k-(52-L));have e7:decide (2^(k-(52-L))<2*0)=false:=decide_eq_false (by omega);have e8:(2^(k-(52-L))==2*0)=false:=by rw[beq_eq_false_iff_ne]; omega
    rw[e7,e8];rfl
   ·have e1:(-(k:Int)-((L:Int)-52)).toNat=52-L-k:=by omega
    have e2:(((L:Int)-52) - -(k:Int)).toNat=0:=by omega
    rw[e1,e2,Nat.shiftLeft_eq,Nat.mul_assoc,←Nat.pow_add,show k+(52-L-k)=52-L by omega];unfold Ieee.Toward.cut;simp[Nat.mod_one]
  have hk1:2^52≤z.natAbs*2^(52-L):=by
   have:=Nat.mul_le_mul_right (2^(52-L)) hL1
   rwa [←Nat.pow_add,show L+(52-L)=52 by omega]at this
  have hk2:z.natAbs*2^(52-L)<2^53:=by
   have:=(Nat.mul_lt_mul_right (Nat.two_pow_pos (52-L))).2 hL2
   rwa [←Nat.pow_add,show L+1+(52-L)=53 by omega]at this
  refine⟨s,52-L,?_,Or.inr (hs.resolve_left h0)⟩;show Ieee.double.read (Ieee.double.nearest s (z.natAbs*2^k) (-(k:Int)))=_;unfold Ieee.Format.nearest;rw[if_neg hpos];have hfb:((Ieee.double.fractionBits:Nat):Int)=52:=rfl;have elast:max (-(k:Int)+((z.natAbs*2^k).log2:Int)-(Ieee.double.fractionBits:Int)) Ieee.double.leastPlace=(L:Int)-52:=by
   rw[hlog,hfb,DR]; omega
  simp only[elast];rw[hkept,DR,GS,GR];generalize z.natAbs*2^(52-L)=K at hk1 hk2 ⊢;have e9:((L:Int)-52 - -1074).toNat=L+1022:=by omega
  rw[e9];have hB:(2:Nat)^53=2*2^52:=by rw[Nat.pow_succ,Nat.mul_comm]
  rw[hB]at hk2;have hr:=JF s (e:=L+1022) (m:=K-2^52) (by omega);generalize (2:Nat)^52=B at hk1 hk2 hr ⊢;have hr:=hr (by omega);have Sr:(L+1022)*B≤1074*B:=Nat.mul_le_mul_right _ (by omega);have e13:(L+1022)*B+K≤2047*B:=by omega
  have e14:(L+1022+1)*B=(L+1022)*B+B:=by rw[Nat.add_mul _ 1,Nat.one_mul]
  have e10:min ((L+1022)*B+K) (2047*B)=(L+1022+1)*B+(K-B):=by rw[Nat.min_eq_left e13,e14]; omega
  rw[e10,hr];have e11:B+(K-B)=K:=by omega
  rw[e11];congr 1;omega
theorem tS {s:Bool} {z:Int} {k K:Nat} (hk:k≤K) (hs:z=0∨s=decide (z<0)):Ieee.signed s (z.natAbs*2^k) (K-k)=z*(2^K:Nat):=by
 have e:(z.natAbs*2^k) <<< (K-k)=z.natAbs*2^K:=by rw[Nat.shiftLeft_eq,Nat.mul_assoc,←Nat.pow_add,show k+(K-k)=K by omega]
 unfold Ieee.signed;rw[e];generalize 2^K=B
 rcases hs with rfl|rfl
 ·cases s<;>simp
 ·by_cases h:z<0
  ·rw[decide_eq_true h,if_pos rfl];have:((z.natAbs*B:Nat):Int) = -z*(B:Int):=by rw[Int.natCast_mul,show ((z.natAbs:Nat):Int) = -z by omega]
   rw[this,Int.neg_mul,Int.neg_neg]
  ·rw[decide_eq_false h,if_neg (by simp)];rw[Int.natCast_mul,show ((z.natAbs:Nat):Int)=z by omega]
theorem FL.sum {z y:Int} {s t:Bool} {k l:Nat} (hs:z=0∨s=decide (z<0)) (ht:y=0∨t=decide (y<0)) (hb:(z+y).natAbs<2^53):∃d,Ieee.Datum.sum (.number s (z.natAbs*2^k) (-(k:Int))) (.number t (y.natAbs*2^l) (-(l:Int)))=some d∧FL (z+y) (Ieee.double.write d):=by
 have ebase:min (-(k:Int)) (-(l:Int)) = -((max k l:Nat):Int):=by omega
 have e1:(-(k:Int) - -((max k l:Nat):Int)).toNat=max k l-k:=by omega
 have e2:(-(l:Int) - -((max k l:Nat):Int)).toNat=max k l-l:=by omega
 refine⟨_,rfl,?_⟩;simp only[ebase,e1,e2,tS (Nat.le_max_left k l) hs,tS (Nat.le_max_right k l) ht];rw[←Int.add_mul];have hp:0<2^(max k l):=Nat.two_pow_pos _;have ea:((z+y)*((2^(max k l):Nat):Int)).natAbs=(z+y).natAbs*2^(max k l):=by rw[Int.natAbs_mul,Int.natAbs_natCast]
 rw[ea];refine FL.write hb ?_
 by_cases h0:z+y=0
 ·exact Or.inl h0
 ·right;have hB:(0:Int)<((2^(max k l):Nat):Int):=by omega
  have hne:(z+y)*((2^(max k l):Nat):Int)≠0:=Int.mul_ne_zero h0 (by omega);rw[if_neg hne];congr 1;exact propext ⟨fun h=>by
   rcases (show z+y<0∨0≤z+y by omega)with q|q
   ·exact q
   ·exact absurd h (Int.not_lt.2 (Int.mul_nonneg q (Int.le_of_lt hB))),fun h=>Int.mul_neg_of_neg_of_pos h hB⟩
theorem FL.add {z y:Int} {a b:Nat} (h1:FL z a) (h2:FL y b) (hb:(z+y).natAbs<2^53):∃r,floatBits .add .f64 a b=some r∧FL (z+y) r:=by
 obtain⟨s,k,e1,hs⟩:=h1;obtain⟨t,l,e2,ht⟩:=h2;obtain⟨d,hd,hf⟩:=FL.sum (k:=k) (l:=l) hs ht hb;refine⟨_,?_,hf⟩;show ((Ieee.double.read a).sum (Ieee.double.read b)).map Ieee.double.write=_;rw[e1,e2,hd];rfl
theorem FL.sub {z y:Int} {a b:Nat} (h1:FL z a) (h2:FL y b) (hb:(z-y).natAbs<2^53):∃r,floatBits .sub .f64 a b=some r∧FL (z-y) r:=by
 obtain⟨s,k,e1,hs⟩:=h1;obtain⟨t,l,e2,ht⟩:=h2;have ht2 : -y=0∨(!t)=decide (-y<0):=by
  by_cases h0:y=0
  ·left; omega
  ·right;rw[ht.resolve_left h0]
   by_cases h:y<0
   ·rw[decide_eq_true h,decide_eq_false (by omega)]; rfl
   ·rw[decide_eq_false h,decide_eq_true (by omega)]; rfl
 obtain⟨d,hd,hf⟩:=FL.sum (k:=k) (l:=l) hs ht2 (by rw[←Int.sub_eq_add_neg]; exact hb);rw[←Int.sub_eq_add_neg]at hf;refine⟨_,?_,hf⟩;show ((Ieee.double.read a).sum (Ieee.double.read b).opposite).map Ieee.double.write=_;rw[e1,e2];rw[Int.natAbs_neg]at hd;show (Ieee.Datum.sum _ (.number (!t) _ _)).map Ieee.double.write=_;rw[hd];rfl
theorem FL.mul {z y:Int} {a b:Nat} (h1:FL z a) (h2:FL y b) (hb:(z*y).natAbs<2^53):∃r,floatBits .mul .f64 a b=some r∧FL (z*y) r:=by
 obtain⟨s,k,e1,hs⟩:=h1;obtain⟨t,l,e2,ht⟩:=h2;refine⟨Ieee.double.write (.number (s ^^ t) ((z*y).natAbs*2^(k+l)) (-((k+l:Nat):Int))),?_,FL.write hb ?_⟩
 ·show ((Ieee.double.read a).product (Ieee.double.read b)).map Ieee.double.write=_;rw[e1,e2];show some (Ieee.double.write (.number (s ^^ t) (z.natAbs*2^k*(y.natAbs*2^l)) (-(k:Int) + -(l:Int))))=_;have e3:z.natAbs*2^k*(y.natAbs*2^l)=(z*y).natAbs*2^(k+l):=by rw[Int.natAbs_mul,Nat.pow_add,Nat.mul_mul_mul_comm]
  have e4 : -(k:Int) + -(l:Int) = -((k+l:Nat):Int):=by omega
  rw[e3,e4]
 ·by_cases h0:z=0
  ·left; rw[h0,Int.zero_mul]
  ·by_cases h3:y=0
   ·left; rw[h3,Int.mul_zero]
   ·right;rw[hs.resolve_left h0,ht.resolve_left h3]
    rcases (show z<0∨0≤z by omega)with q|q<;>rcases (show y<0∨0≤y by omega)with q'|q'
    ·rw[decide_eq_true q,decide_eq_true q',decide_eq_false (Int.not_lt.2 (Int.le_of_lt (Int.mul_pos_of_neg_of_neg q q')))]; rfl
    ·rw[decide_eq_true q,decide_eq_false (Int.not_lt.2 q'),decide_eq_true (Int.mul_neg_of_neg_of_pos q (by omega))]; rfl
    ·rw[decide_eq_false (Int.not_lt.2 q),decide_eq_true q',decide_eq_true (Int.mul_neg_of_pos_of_neg (by omega) q')]; rfl
    ·rw[decide_eq_false (Int.not_lt.2 q),decide_eq_false (Int.not_lt.2 q'),decide_eq_false (Int.not_lt.2 (Int.mul_nonneg q q'))]; rfl
def iV (z:Int):Value:=.int .i64 z
def x4 (X:Nat→Int):List At:=[.c (iV (X 0)),.c (iV (X 1)),.c (iV (X 2)),.c (iV (X 3))]
def z4:Nat→Int:=fun _=>0
def Oo (X:Nat→Int):Prop:=∀k,k<4 → -1099511627776≤X k∧X k≤1099511627776
instance (X:Nat→Int):Decidable (Oo X):=Nat.decidableBallLT 4 fun k _ => -1099511627776≤X k∧X k≤1099511627776
theorem LV.take {w:World} {p:Option Addr} {N m T:Nat} {f:Nat→Nat} (h:LV w (.slice p N m) N f) (hT:T≤N):LV w (.slice p T m) T f:=by
 obtain⟨p',m',e,h2,h3,h4⟩:=h;cases e;refine⟨p,m,rfl,Nat.le_trans hT h2,fun j hj=>h3 j (by omega),fun h0 => ?_⟩;obtain⟨b,o,e,hb,hr⟩:=h4 (by omega);refine⟨b,o,e,hb,fun j x hj=>hr j x ?_⟩;have key:∀(i n s:Nat),i≤n→oB (el f) s n=oB (el f) s i++oB (el f) (s+i) (n-i):=fun i=>by
  induction i with
  | zero=>intro n s _; rfl
  | succ i ih =>
   intro n s h;obtain⟨n,rfl⟩:∃k,n=k+1:=⟨n-1,by omega⟩
   show el f s++oB (el f) (s+1) n=(el f s++oB (el f) (s+1) i)++_;rw[ih n (s+1) (by omega),List.append_assoc,show s+1+i=s+(i+1) by omega,show n+1-(i+1)=n-i by omega]
 rw[key T N 0 hT,aO,List.getElem?_append_left (List.getElem?_eq_some_iff.1 hj).1];exact hj
end Go.Proofs.YtjeplinbleofnaaGreat.Ex
namespace Go.Proofs.YtjeplinbleofnaaGreat
open Go.Proofs.Tryz
open Go.RowKit
def iK (a0 a1 a2 a3 a4 a5 a6 a7:Nat):Nat:=a0+4294967296*(a1+4294967296*(a2+4294967296*(a3+4294967296*(a4+4294967296*(a5+4294967296*(a6+4294967296*a7))))))
def JW (a0 a1 a2 a3 a4 a5 a6 a7:Nat):Prop:=a0<4294967296∧a1<4294967296∧a2<4294967296∧a3<4294967296∧a4<4294967296∧a5<4294967296∧a6<4294967296∧a7<4294967296
theorem eP {a:Nat} (ha:a<18446744073709551616):∃l h:Nat,bits .and .u64 (a:Int) 4294967295=(l:Int)∧(a:Int)/4294967296=(h:Int)∧l<4294967296∧h<4294967296∧Hid (l+4294967296*h=a):=by
 obtain⟨h,l,e1,e2,h1,h2,e⟩:=WY ha;exact⟨l,h,e2,e1,h2,h1,Lib.hid (by omega)⟩
def tA (A:Nat) (w:World) (e:Ending) (w':World):Prop :=
 ∃h0 h1 h2 h3 h4 h5 h6 h7:Nat,e=.returned (.agg #[.int .u64 h0,.int .u64 h1,.int .u64 h2,.int .u64 h3,.int .u64 h4,.int .u64 h5,.int .u64 h6,.int .u64 h7])∧JW h0 h1 h2 h3 h4 h5 h6 h7∧Hid (iK h0 h1 h2 h3 h4 h5 h6 h7=A)∧Below w.heap.size w w'
set_option maxHeartbeats 1000000 in
theorem jJ (a0 a1 a2 a3:Nat) (ha:aX a0 a1 a2 a3) (w:World) :
  Calls prog 112 #[.agg #[.int .u64 a0,.int .u64 a1,.int .u64 a2,.int .u64 a3]] w (tA (aA a0 a1 a2 a3) w):=by
 obtain⟨h0,h1,d0,d1,b0,b1,e0⟩:=eP ha.1;obtain⟨h2,h3,d2,d3,b2,b3,e1⟩:=eP ha.2.1;obtain⟨h4,h5,d4,d5,b4,b5,e2⟩:=eP ha.2.2.1;obtain⟨h6,h7,d6,d7,b6,b7,e3⟩:=eP ha.2.2.2
 go_enter func112,ntmps112
 go_wp2_with fail;refine wp_loop_rounds 5 ?_;rw[rounds_succ];go_wp2_with fail;rw[rounds_succ];go_wp2_with fail;rw[rounds_succ];go_wp2_with fail;rw[rounds_succ];go_wp2_with fail;rw[rounds_succ];go_wp2_with fail;refine bodyPost_ret (v:=.agg #[.int .u64 h0,.int .u64 h1,.int .u64 h2,.int .u64 h3,.int .u64 h4,.int .u64 h5,.int .u64 h6,.int .u64 h7]) (by simp[results,results112,go_sem]) rfl ?_;refine⟨h0,h1,h2,h3,h4,h5,h6,h7,rfl,⟨b0,b1,b2,b3,b4,b5,b6,b7⟩,?_,?_⟩
 ·have:=e0.out; have:=e1.out; have:=e2.out; have:=e3.out;exact Lib.hid (by unfold aA iK; omega)
 repeat (first|exact Below.refl _ _|refine Below.drew ?_|refine Below.alloc ?_ (by first|(simp; done)|(simp; omega)) _)
theorem nS {l h:Nat} (hl:l<4294967296) (hh:h<4294967296):∃u s:Nat,(h:Int)*4294967296=(u:Int)∧bits .or .u64 (l:Int) (u:Int)=(s:Int)∧u<18446744073709551616∧s<18446744073709551616∧Hid (s=l+4294967296*h):=by
 obtain⟨s,e,hs,f⟩:=kW (k:=32) (lo:=l) (up:=h*4294967296) (by omega) (by omega) (Lib.hid (by omega)) (Lib.hid ⟨h,by omega⟩);have:=f.out;exact⟨h*4294967296,s,by omega,e,by omega,hs,Lib.hid (by omega)⟩
set_option maxHeartbeats 1000000 in
theorem mM (h0 h1 h2 h3 h4 h5 h6 h7:Nat) (hh:JW h0 h1 h2 h3 h4 h5 h6 h7) (g o c:Nat) (w:World)
  (c0:w.cell? ⟨g,o,none⟩=some (.int .u64 h0)) (c1:w.cell? ⟨g,o+1,none⟩=some (.int .u64 h1)) (c2:w.cell? ⟨g,o+2,none⟩=some (.int .u64 h2)) (c3:w.cell? ⟨g,o+3,none⟩=some (.int .u64 h3))
  (c4:w.cell? ⟨g,o+4,none⟩=some (.int .u64 h4)) (c5:w.cell? ⟨g,o+5,none⟩=some (.int .u64 h5)) (c6:w.cell? ⟨g,o+6,none⟩=some (.int .u64 h6)) (c7:w.cell? ⟨g,o+7,none⟩=some (.int .u64 h7)) (hg:g<w.heap.size) :
  Calls prog 126 #[.slice (some ⟨g,o,none⟩) 8 c] w (fU (fun v=>v=iK h0 h1 h2 h3 h4 h5 h6 h7) w):=by
 obtain⟨k0,k1,k2,k3,k4,k5,k6,k7⟩:=hh;obtain⟨u0,s0,p0,q0,a0,b0,e0⟩:=nS k0 k1;obtain⟨u1,s1,p1,q1,a1,b1,e1⟩:=nS k2 k3;obtain⟨u2,s2,p2,q2,a2,b2,e2⟩:=nS k4 k5;obtain⟨u3,s3,p3,q3,a3,b3,e3⟩:=nS k6 k7
 go_enter func126,ntmps126
 go_wp2_with fail;refine wp_loop_rounds 5 ?_;rw[rounds_succ];go_wp2_with fail
 go_region
 go_wp2_with fail;rw[rounds_succ];go_wp2_with fail
 go_region
 go_wp2_with fail;rw[rounds_succ];go_wp2_with fail
 go_region
 go_wp2_with fail;rw[rounds_succ];go_wp2_with fail
 go_region
 go_wp2_with fail;rw[rounds_succ];go_wp2_with fail;refine bodyPost_ret (v:=.agg #[.int .u64 s0,.int .u64 s1,.int .u64 s2,.int .u64 s3]) (by simp[results,results126,go_sem]) rfl ?_;refine⟨s0,s1,s2,s3,rfl,⟨b0,b1,b2,b3⟩,?_,?_⟩
 ·have:=e0.out; have:=e1.out; have:=e2.out; have:=e3.out;unfold aA iK; omega
 repeat (first|exact Below.refl _ _|refine Below.drew ?_|refine Below.alloc ?_ (by first|(simp; done)|(simp; omega)) _)
end Go.Proofs.YtjeplinbleofnaaGreat
