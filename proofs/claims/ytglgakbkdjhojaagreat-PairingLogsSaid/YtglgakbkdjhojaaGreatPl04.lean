/- Pl04 -/
import Derived.KernelRfl
import Derived.Test.YtglgakbkdjhojaaGreatPl03
import Derived.Test.YtglgakbkdjhojaaGreatPl00
import Derived.Test.YtglgakbkdjhojaaGreatPl02
import Derived.Test.YtglgakbkdjhojaaGreatProg
set_option maxRecDepth 100000
set_option linter.unusedVariables false
set_option linter.unusedSimpArgs false
noncomputable section
namespace Go.Proofs.YtglgakbkdjhojaaGreat.Ex
open Go.Proofs.Tryz
open Go.RowKit
def aL (x:Q2):Q2:=(x.1,F1.neg x.2)
def qY (x:Q2) (k:Fq):Q2:=(F1.mul x.1 k,F1.mul x.2 k)
def qC (x:Q2):Fq:=F1.add (F1.mul x.1 x.1) (F1.mul x.2 x.2)
def eD (x:Q2):Q2:=qY (aL x) (cF (qC x))
theorem Jm (c:Bool) (x:Q2) (y:Q2):bM prog (qU c) qN (fun _=>true) f180 40 [.v (.fl (e2 x)),.v (.fl (e2 y))]=some ([],.one (.fl (e2 (F2.add x y)))):=by kernel_rfl
def MY (c:Bool):Tab:=(qU c).add 180 (g2 OM OM (fun x y=>([],.one (.fl (e2 (F2.add x y))))))
theorem PT (c:Bool) (hB:TabOk prog (qU c)):TabOk prog (MY c):=(bCq c hB).ad func180 (dS gM gM fun x y hp args w ha=>aH aE (bCq c hB) aM func180 (Jm c x y) hp ha)
theorem Ag (c:Bool) (x:Q2) (y:Q2):bM prog (MY c) qN (fun _=>true) f181 40 [.v (.fl (e2 x)),.v (.fl (e2 y))]=some ([],.one (.fl (e2 (F2.sub x y)))):=by kernel_rfl
def DY (c:Bool):Tab:=(MY c).add 181 (g2 OM OM (fun x y=>([],.one (.fl (e2 (F2.sub x y))))))
theorem KT (c:Bool) (hB:TabOk prog (qU c)):TabOk prog (DY c):=(PT c hB).ad func181 (dS gM gM fun x y hp args w ha=>aH aE (PT c hB) aM func181 (Ag c x y) hp ha)
theorem Jp (c:Bool) (x:Q2):bM prog (DY c) qN (fun _=>true) f186 40 [.v (.fl (e2 x))]=some ([],.one (.fl (e2 (aL x)))):=by kernel_rfl
def MZ (c:Bool):Tab:=(DY c).add 186 (g1 OM (fun x=>([],.one (.fl (e2 (aL x))))))
theorem PU (c:Bool) (hB:TabOk prog (qU c)):TabOk prog (MZ c):=(KT c hB).ad func186 (bP gM fun x hp args w ha=>aH aE (KT c hB) aM func186 (Jp c x) hp ha)
theorem TG (c:Bool) (x:Q2) (y:Fq):bM prog (MZ c) qN (fun _=>true) f184 40 [.v (.fl (e2 x)),.v (.fl (e1 y))]=some ([],.one (.fl (e2 (qY x y)))):=by kernel_rfl
def yU (c:Bool):Tab:=(MZ c).add 184 (g2 OM Sy (fun x y=>([],.one (.fl (e2 (qY x y))))))
theorem EI (c:Bool) (hB:TabOk prog (qU c)):TabOk prog (yU c):=(PU c hB).ad func184 (dS gM nB fun x y hp args w ha=>aH aE (PU c hB) aM func184 (TG c x y) hp ha)
theorem aEy (c:Bool) (x:Q2):bM prog (yU c) qN (fun _=>true) f178 40 [.v (.fl (e2 x))]=some ([],.one (.fl (e2 ((F1.sub (F1.mul x.1 (fm 9)) x.2,F1.add (F1.mul x.2 (fm 9)) x.1))))):=by kernel_rfl
theorem aFt (x:Q2):F2.mul x dJ=(F1.sub (F1.mul x.1 (fm 9)) x.2,F1.add (F1.mul x.2 (fm 9)) x.1):=by
 have h1:fm 1=F1.one:=by decide
 show (F1.add (F1.mul x.1 (fm 9)) (F1.mul (F1.neg F1.one) (F1.mul x.2 (fm 1))),F1.add (F1.mul x.1 (fm 1)) (F1.mul x.2 (fm 9)))=_;rw[h1,F1.mul_one,F1.mul_one,F1.neg_mul,F1.one_mul,F1.add_comm x.1];rfl
def Qf (c:Bool):Tab:=(yU c).add 178 (g1 OM (fun x=>([],.one (.fl (e2 (F2.mul x dJ))))))
theorem Tv (c:Bool) (hB:TabOk prog (qU c)):TabOk prog (Qf c):=(EI c hB).ad func178 (bP gM fun x hp args w ha=>by show Good _ _ (.one (.fl (e2 (F2.mul x dJ)))) _ _; rw[aFt x]; exact aH aE (EI c hB) aM func178 (aEy c x) hp ha)
theorem aER (c:Bool)  : bM prog (Qf c) qN (fun _=>true) f219 40 []=some ([],.one (.fl (e2 (F2.one)))):=by kernel_rfl
def Qu (c:Bool):Tab:=(Qf c).add 219 (g0 (.one (.fl (e2 (F2.one)))))
theorem Uo (c:Bool) (hB:TabOk prog (qU c)):TabOk prog (Qu c):=(Tv c hB).ad func219 (gT fun w=>aH aE (Tv c hB) aM func219 (aER c ) trivial (args:=[]) trivial)
theorem Jn (c:Bool) (x:Q2):bM prog (Qu c) qN (fun _=>true) f257 40 [.v (.fl (e2 x))]=some ([],.one (.fl (e1 (qC x)))):=by kernel_rfl
def BK (c:Bool):Tab:=(Qu c).add 257 (g1 OM (fun x=>([],.one (.fl (e1 (qC x))))))
theorem CP (c:Bool) (hB:TabOk prog (qU c)):TabOk prog (BK c):=(Uo c hB).ad func257 (bP gM fun x hp args w ha=>aH aE (Uo c hB) aM func257 (Jn c x) hp ha)
theorem aAt (x:Q2):bM prog (BK true) qN (fun _=>true) f246 40 [.v (.fl (e2 x))]=some ([qC x≠F1.zero],.many [.fl (e2 (eD x)),.im (.int .i64 0)]):=by kernel_rfl
theorem Jo (x:Q2):bM prog (BK false) qN (fun _=>true) f246 40 [.v (.fl (e2 x))]=some ([qC x=F1.zero],.many [.fl (e2 F2.zero),.im (.int .i64 22)]):=by kernel_rfl
def aHi (c:Bool) (x:Q2):List Prop×RV:=bif c then ([qC x≠F1.zero],.many [.fl (e2 (eD x)),.im (.int .i64 0)])else ([qC x=F1.zero],.many [.fl (e2 F2.zero),.im (.int .i64 22)])
theorem aOJ (c:Bool) (hB:TabOk prog (qU c)) (x:Q2) (hp:bC (aHi c x).1) (args:List Value) (w:World) (ha:bZ w [.v (.fl (e2 x))] args):Good prog 246 (aHi c x).2 args w:=by
 cases c
 ·exact aH aE (CP false hB) aM func246 (Jo x) hp ha
 ·exact aH aE (CP true hB) aM func246 (aAt x) hp ha
def BL (c:Bool):Tab:=(BK c).add 246 (g1 OM (aHi c))
theorem AI (c:Bool) (hB:TabOk prog (qU c)):TabOk prog (BL c):=(CP c hB).ad func246 (bP gM (aOJ c hB))
def Zc:Nat→List At→Option (List Q2)
 | 0,[]=>some []
 | n+1,.f a :: .f b::r=>match Zc n r with|some l=>some ((a,b)::l)|none=>none
 | _,_=>none
def e2s:List Q2→List At
 | []=>[]
 | x::r=>.f x.1 :: .f x.2::e2s r
theorem SE:∀{n:Nat} {l:List At} {x:List Q2},Zc n l=some x→l=e2s x∧x.length=n
 | 0,[],x,h=>by cases h; exact⟨rfl,rfl⟩
 | n+1,.f a :: .f b::r,x,h=>by
  unfold Zc at h;split at h
  ·rename_i l hl;cases h;obtain⟨h1,h2⟩:=SE hl;exact⟨by rw[h1]; rfl,by rw[List.length_cons,h2]⟩
  ·cases h
 | 0,_::_,x,h=>by cases h
 | n+1,[],x,h=>by cases h
 | n+1,[_],x,h=>by unfold Zc at h; split at h<;>first|(cases h; done)|(rename_i heq; cases heq)
 | n+1,.q _::_::_,x,h=>by cases h
 | n+1,.c _::_::_,x,h=>by cases h
 | n+1,.f _ :: .q _::_,x,h=>by cases h
 | n+1,.f _ :: .c _::_,x,h=>by cases h
def OU:List Q2→List Q2→Q2
 | [x],[y]=>F2.mul x y
 | [x,y],[z,t]=>F2.add (F2.mul x z) (F2.mul y t)
 | [x,y,z],[s,t,u]=>F2.add (F2.add (F2.mul x s) (F2.mul y t)) (F2.mul z u)
 | _,_=>F2.zero
def aXq:kC
 | [.s l n m,.s l' n' m']=>bif Nat.beq n n'&&(Nat.ble n 3&&Nat.ble 1 n)then (match Zc n l,Zc n' l' with
  | some x,some y=>some ([],.one (.fl (e2 (OU x y))))
  | _,_=>none)else none
 | _=>none
def sl2:List Q2→List Fq
 | []=>[]
 | x::r=>x.1::F1.neg x.2::sl2 r
def cr2:List Q2→List Fq
 | []=>[]
 | x::r=>x.2::x.1::cr2 r
def Zx:List Q2→List Fq
 | []=>[]
 | x::r=>x.1::x.2::Zx r
theorem aEB (c:Bool) (x s:Q2) (m m':Nat):bM prog (BL c) qN (fun _=>true) f179 40 [.s (e2s [x]) 1 m,.s (e2s [s]) 1 m']=some ([],.one (.fl (e2 (tD (sl2 [x]) (Zx [s]),tD (cr2 [x]) (Zx [s]))))):=by kernel_rfl
theorem aEA (c:Bool) (x y s t:Q2) (m m':Nat):bM prog (BL c) qN (fun _=>true) f179 40 [.s (e2s [x,y]) 2 m,.s (e2s [s,t]) 2 m']=some ([],.one (.fl (e2 (tD (sl2 [x,y]) (Zx [s,t]),tD (cr2 [x,y]) (Zx [s,t]))))):=by kernel_rfl
theorem aEz (c:Bool) (x y z s t u:Q2) (m m':Nat):bM prog (BL c) qN (fun _=>true) f179 40 [.s (e2s [x,y,z]) 3 m,.s (e2s [s,t,u]) 3 m']=some ([],.one (.fl (e2 (tD (sl2 [x,y,z]) (Zx [s,t,u]),tD (cr2 [x,y,z]) (Zx [s,t,u]))))):=by kernel_rfl
theorem CW (x s:Q2):(F2.mul x s).1=F1.add (F1.mul x.1 s.1) (F1.mul (F1.neg x.2) s.2):=by
 show F1.add (F1.mul x.1 s.1) (F1.mul (F1.neg F1.one) (F1.mul x.2 s.2))=_;rw[F1.neg_mul,F1.one_mul,F1.neg_mul]
theorem CU (x s:Q2):(F2.mul x s).2=F1.add (F1.mul x.2 s.1) (F1.mul x.1 s.2):=F1.add_comm _ _
theorem aFw (x s:Q2):OU [x] [s]=(tD (sl2 [x]) (Zx [s]),tD (cr2 [x]) (Zx [s])):=Prod.ext (CW x s) (CU x s)
theorem aFv (x y s t:Q2):OU [x,y] [s,t]=(tD (sl2 [x,y]) (Zx [s,t]),tD (cr2 [x,y]) (Zx [s,t])):=by
 refine Prod.ext ?_ ?_
 ·show F1.add (F2.mul x s).1 (F2.mul y t).1=F1.add (F1.add (F1.add (F1.mul x.1 s.1) (F1.mul (F1.neg x.2) s.2)) (F1.mul y.1 t.1)) (F1.mul (F1.neg y.2) t.2);rw[CW,CW]; simp only[F1.add_assoc]
 ·show F1.add (F2.mul x s).2 (F2.mul y t).2=F1.add (F1.add (F1.add (F1.mul x.2 s.1) (F1.mul x.1 s.2)) (F1.mul y.2 t.1)) (F1.mul y.1 t.2);rw[CU,CU]; simp only[F1.add_assoc]
theorem aFu (x y z s t u:Q2):OU [x,y,z] [s,t,u]=(tD (sl2 [x,y,z]) (Zx [s,t,u]),tD (cr2 [x,y,z]) (Zx [s,t,u])):=by
 refine Prod.ext ?_ ?_
 ·show F1.add (F1.add (F2.mul x s).1 (F2.mul y t).1) (F2.mul z u).1=F1.add (F1.add (F1.add (F1.add (F1.add (F1.mul x.1 s.1) (F1.mul (F1.neg x.2) s.2)) (F1.mul y.1 t.1)) (F1.mul (F1.neg y.2) t.2)) (F1.mul z.1 u.1)) (F1.mul (F1.neg z.2) u.2);rw[CW,CW,CW]; simp only[F1.add_assoc]
 ·show F1.add (F1.add (F2.mul x s).2 (F2.mul y t).2) (F2.mul z u).2=F1.add (F1.add (F1.add (F1.add (F1.add (F1.mul x.2 s.1) (F1.mul x.1 s.2)) (F1.mul y.2 t.1)) (F1.mul y.1 t.2)) (F1.mul z.2 u.1)) (F1.mul z.1 u.2);rw[CU,CU,CU]; simp only[F1.add_assoc]
theorem aTZ (c:Bool) (hB:TabOk prog (qU c)):∀cs pre r,aXq cs=some (pre,r)→bC pre→∀(args:List Value) (w:World),bZ w cs args→Good prog 179 r args w:=by
 intro cs pre r hg hp args w ha;unfold aXq at hg;split at hg
 ·rename_i l n m l' n' m';cases hb:(Nat.beq n n'&&(Nat.ble n 3&&Nat.ble 1 n))<;>rw[hb]at hg
  ·cases hg
  ·simp only[cond_true]at hg;split at hg
   ·rename_i x y hx hy;cases hg;obtain⟨e1,e2⟩:=SE hx;obtain⟨e3,e4⟩:=SE hy;subst e1; subst e3;simp only[Bool.and_eq_true]at hb;have hn:=Nat.eq_of_beq_eq_true hb.1;have h3:=Nat.le_of_ble_eq_true hb.2.1;have h1:=Nat.le_of_ble_eq_true hb.2.2;subst hn
    match x,y,n,e2,e4,h3,h1 with
    | [x],[s],1,_,_,_,_ =>
     rw[aFw];exact aH aE (AI c hB) aM func179 (aEB c x s m m') trivial ha
    | [x,y],[s,t],2,_,_,_,_ =>
     rw[aFv];exact aH aE (AI c hB) aM func179 (aEA c x y s t m m') trivial ha
    | [x,y,z],[s,t,u],3,_,_,_,_ =>
     rw[aFu];exact aH aE (AI c hB) aM func179 (aEz c x y z s t u m m') trivial ha
    | [],_,_,e2,_,_,h1=>exact absurd h1 (by rw[←e2]; decide)
    | _::_::_::_::l,_,_,e2,_,h3,_=>exact absurd h3 (by rw[←e2]; simp)
    | [_],[],_,e2,e4,_,_=>rw[←e2]at e4; cases e4
    | [_],_::_::_,_,e2,e4,_,_=>rw[←e2]at e4; simp at e4
    | [_,_],[],_,e2,e4,_,_=>rw[←e2]at e4; cases e4
    | [_,_],[_],_,e2,e4,_,_=>rw[←e2]at e4; cases e4
    | [_,_],_::_::_::_,_,e2,e4,_,_=>rw[←e2]at e4; simp at e4
    | [_,_,_],[],_,e2,e4,_,_=>rw[←e2]at e4; cases e4
    | [_,_,_],[_],_,e2,e4,_,_=>rw[←e2]at e4; cases e4
    | [_,_,_],[_,_],_,e2,e4,_,_=>rw[←e2]at e4; cases e4
    | [_,_,_],_::_::_::_::_,_,e2,e4,_,_=>rw[←e2]at e4; simp at e4
   ·cases hg
 ·cases hg
def Qg (c:Bool):Tab:=(BL c).add 179 aXq
theorem Tx (c:Bool) (hB:TabOk prog (qU c)):TabOk prog (Qg c):=(AI c hB).ad func179 (aTZ c hB)
theorem Af (c:Bool) (x:Q2) (y:Q2):bM prog (Qg c) qN (fun _=>true) f187 40 [.v (.fl (e2 x)),.v (.fl (e2 y))]=some ([],.one (.fl (e2 (F2.mul x y)))):=by kernel_rfl
def DX (c:Bool):Tab:=(Qg c).add 187 (g2 OM OM (fun x y=>([],.one (.fl (e2 (F2.mul x y))))))
theorem KR (c:Bool) (hB:TabOk prog (qU c)):TabOk prog (DX c):=(Tx c hB).ad func187 (dS gM gM fun x y hp args w ha=>aH aE (Tx c hB) aM func187 (Af c x y) hp ha)
theorem aAD (c:Bool) (x:N2):bM prog (DX c) qN (fun _=>true) f177 40 [.v (.fl (q2 x))]=some ([],.one (.fl (e2 (m2 x)))):=by kernel_rfl
def XQ (c:Bool):Tab:=(DX c).add 177 (g1 rq2 (fun x=>([],.one (.fl (e2 (m2 x))))))
theorem Ev (c:Bool) (hB:TabOk prog (qU c)):TabOk prog (XQ c):=(KR c hB).ad func177 (bP pU fun x hp args w ha=>aH aE (KR c hB) aM func177 (aAD c x) hp ha)
def pG (x:Q6):Q6:=(F2.sub (F2.mul x.1 x.1) (F2.mul (F2.mul x.2.1 x.2.2) dJ),F2.sub (F2.mul (F2.mul x.2.2 x.2.2) dJ) (F2.mul x.1 x.2.1),F2.sub (F2.mul x.2.1 x.2.1) (F2.mul x.1 x.2.2))
def n6 (x:Q6):Q2:=(F6.mul x (pG x)).1
def s6 (x:Q6) (k:Q2):Q6:=(F2.mul x.1 k,F2.mul x.2.1 k,F2.mul x.2.2 k)
def iv6 (x:Q6):Q6:=s6 (pG x) (eD (n6 x))
theorem Jl (c:Bool) (x:Q6) (y:Q6):bM prog (XQ c) qN (fun _=>true) f127 40 [.v (.fl (e6 x)),.v (.fl (e6 y))]=some ([],.one (.fl (e6 (F6.add x y)))):=by kernel_rfl
def MX (c:Bool):Tab:=(XQ c).add 127 (g2 rd6 rd6 (fun x y=>([],.one (.fl (e6 (F6.add x y))))))
theorem PS (c:Bool) (hB:TabOk prog (qU c)):TabOk prog (MX c):=(Ev c hB).ad func127 (dS oH oH fun x y hp args w ha=>aH aE (Ev c hB) aM func127 (Jl c x y) hp ha)
theorem Ae (c:Bool) (x:Q6) (y:Q6):bM prog (MX c) qN (fun _=>true) f129 40 [.v (.fl (e6 x)),.v (.fl (e6 y))]=some ([],.one (.fl (e6 (F6.sub x y)))):=by kernel_rfl
def DW (c:Bool):Tab:=(MX c).add 129 (g2 rd6 rd6 (fun x y=>([],.one (.fl (e6 (F6.sub x y))))))
theorem KQ (c:Bool) (hB:TabOk prog (qU c)):TabOk prog (DW c):=(PS c hB).ad func129 (dS oH oH fun x y hp args w ha=>aH aE (PS c hB) aM func129 (Ae c x y) hp ha)
theorem aMg (c:Bool) (x:Q6):bM prog (DW c) qN (fun _=>true) f128 40 [.v (.fl (e6 x))]=some ([],.one (.fl (e6 ((F2.mul x.2.2 dJ,x.1,x.2.1))))):=by kernel_rfl
theorem zW (x:Q6):F6.mul vE x=(F2.mul x.2.2 dJ,x.1,x.2.1):=by
 show (F2.add (F2.mul F2.zero x.1) (F2.mul dJ (F2.add (F2.mul F2.one x.2.2) (F2.mul F2.zero x.2.1))),F2.add (F2.add (F2.mul F2.zero x.2.1) (F2.mul F2.one x.1)) (F2.mul dJ (F2.mul F2.zero x.2.2)),F2.add (F2.add (F2.mul F2.zero x.2.2) (F2.mul F2.one x.2.1)) (F2.mul F2.zero x.1))=_;simp only[F2.zero_mul,F2.one_mul,F2.zero_add,F2.add_zero,F2.mul_zero,F2.mul_comm dJ]
def aKD (c:Bool):Tab:=(DW c).add 128 (g1 rd6 (fun x=>([],.one (.fl (e6 (F6.mul vE x))))))
theorem aGE (c:Bool) (hB:TabOk prog (qU c)):TabOk prog (aKD c):=(KQ c hB).ad func128 (bP oH fun x hp args w ha=>by show Good _ _ (.one (.fl (e6 (F6.mul vE x)))) _ _; rw[zW x]; exact aH aE (KQ c hB) aM func128 (aMg c x) hp ha)
theorem aAs (c:Bool) (x:Q6):bM prog (aKD c) qN (fun _=>true) f130 40 [.v (.fl (e6 x))]=some ([],.one (.fl (e6 (x)))):=by kernel_rfl
def XE (c:Bool):Tab:=(aKD c).add 130 (g1 rd6 (fun x=>([],.one (.fl (e6 (x))))))
theorem Ep (c:Bool) (hB:TabOk prog (qU c)):TabOk prog (XE c):=(aGE c hB).ad func130 (bP oH fun x hp args w ha=>aH aE (aGE c hB) aM func130 (aAs c x) hp ha)
theorem aEQ (c:Bool)  : bM prog (XE c) qN (fun _=>true) f176 40 []=some ([],.one (.fl (e6 (F6.one)))):=by kernel_rfl
def Qt (c:Bool):Tab:=(XE c).add 176 (g0 (.one (.fl (e6 (F6.one)))))
theorem Um (c:Bool) (hB:TabOk prog (qU c)):TabOk prog (Qt c):=(Ep c hB).ad func176 (gT fun w=>aH aE (Ep c hB) aM func176 (aEQ c ) trivial (args:=[]) trivial)
theorem aAC (c:Bool) (x:N6):bM prog (Qt c) qN (fun _=>true) f125 40 [.v (.fl (q6 x))]=some ([],.one (.fl (e6 (m6 x)))):=by kernel_rfl
def XP (c:Bool):Tab:=(Qt c).add 125 (g1 rq6 (fun x=>([],.one (.fl (e6 (m6 x))))))
theorem Eu (c:Bool) (hB:TabOk prog (qU c)):TabOk prog (XP c):=(Um c hB).ad func125 (bP aUF fun x hp args w ha=>aH aE (Um c hB) aM func125 (aAC c x) hp ha)
theorem Ad (c:Bool) (x:Q6) (y:Q6):bM prog (XP c) qN (fun _=>true) f126 40 [.v (.fl (e6 x)),.v (.fl (e6 y))]=some ([],.one (.fl (e6 ((OU [x.1,x.2.1,x.2.2] [y.1,F2.mul y.2.2 dJ,F2.mul y.2.1 dJ],OU [x.1,x.2.1,x.2.2] [y.2.1,y.1,F2.mul y.2.2 dJ],OU [x.1,x.2.1,x.2.2] [y.2.2,y.2.1,y.1]))))):=by kernel_rfl
theorem De (x:Q6) (y:Q6):F6.mul x y=(OU [x.1,x.2.1,x.2.2] [y.1,F2.mul y.2.2 dJ,F2.mul y.2.1 dJ],OU [x.1,x.2.1,x.2.2] [y.2.1,y.1,F2.mul y.2.2 dJ],OU [x.1,x.2.1,x.2.2] [y.2.2,y.2.1,y.1]):=by
 refine Prod.ext ?_ (Prod.ext ?_ rfl)
 ·show F2.add (F2.mul x.1 y.1) (F2.mul dJ (F2.add (F2.mul x.2.1 y.2.2) (F2.mul x.2.2 y.2.1)))=F2.add (F2.add (F2.mul x.1 y.1) (F2.mul x.2.1 (F2.mul y.2.2 dJ))) (F2.mul x.2.2 (F2.mul y.2.1 dJ));rw[F2.mul_add,F2.add_assoc,F2.mul_comm dJ,F2.mul_comm dJ,F2.mul_assoc,F2.mul_assoc]
 ·show F2.add (F2.add (F2.mul x.1 y.2.1) (F2.mul x.2.1 y.1)) (F2.mul dJ (F2.mul x.2.2 y.2.2))=F2.add (F2.add (F2.mul x.1 y.2.1) (F2.mul x.2.1 y.1)) (F2.mul x.2.2 (F2.mul y.2.2 dJ));rw[F2.mul_comm dJ,F2.mul_assoc]
def wZ (c:Bool):Tab:=(XP c).add 126 (g2 rd6 rd6 (fun x y=>([],.one (.fl (e6 (F6.mul x y))))))
theorem yF (c:Bool) (hB:TabOk prog (qU c)):TabOk prog (wZ c):=(Eu c hB).ad func126 (dS oH oH fun x y hp args w ha=>by show Good _ _ (.one (.fl (e6 (F6.mul x y)))) _ _; rw[De x y]; exact aH aE (Eu c hB) aM func126 (Ad c x y) hp ha)
def aHh (c:Bool) (x:Q6):List Prop×RV:=bif c then ([qC (n6 x)≠F1.zero],.many [.fl (e6 (iv6 x)),.im (.int .i64 0)])else ([qC (n6 x)=F1.zero],.many [.fl (e6 F6.zero),.im (.int .i64 22)])
theorem JL (x:Q6):bM prog (wZ true) qN (fun _=>true) f206 40 [.v (.fl (e6 x))]=some ([qC (n6 x)≠F1.zero],.many [.fl (e6 (iv6 x)),.im (.int .i64 0)]):=by kernel_rfl
theorem FK (x:Q6):bM prog (wZ false) qN (fun _=>true) f206 40 [.v (.fl (e6 x))]=some ([qC (n6 x)=F1.zero],.many [.fl (e6 F6.zero),.im (.int .i64 22)]):=by kernel_rfl
theorem aHg (c:Bool) (hB:TabOk prog (qU c)) (x:Q6) (hp:bC (aHh c x).1) (args:List Value) (w:World) (ha:bZ w [.v (.fl (e6 x))] args):Good prog 206 (aHh c x).2 args w:=by
 cases c
 ·exact aH aE (yF false hB) aM func206 (FK x) hp ha
 ·exact aH aE (yF true hB) aM func206 (JL x) hp ha
def XF (c:Bool):Tab:=(wZ c).add 206 (g1 rd6 (aHh c))
theorem Er (c:Bool) (hB:TabOk prog (qU c)):TabOk prog (XF c):=(yF c hB).ad func206 (bP oH (aHg c hB))
def cO (x:aQ):aQ:=(x.1,F6.sub F6.zero x.2)
def n12 (x:aQ):Q6:=F6.sub (F6.mul x.1 x.1) (F6.mul vE (F6.mul x.2 x.2))
def lZ (x:aQ):aQ:=(F6.mul x.1 (iv6 (n12 x)),F6.mul (F6.sub F6.zero x.2) (iv6 (n12 x)))
def xD (x:aQ):Fq:=qC (n6 (n12 x))
theorem TH (c:Bool) (x:aQ) (y:aQ):bM prog (XF c) qN (fun _=>true) f66 40 [.v (.fl (aP x)),.v (.fl (aP y))]=some ([],.one (.fl (aP ((F6.add (F6.mul x.1 y.1) (F6.mul vE (F6.mul x.2 y.2)),F6.sub (F6.sub (F6.mul (F6.add x.1 x.2) (F6.add y.1 y.2)) (F6.mul x.1 y.1)) (F6.mul x.2 y.2)))))):=by kernel_rfl
theorem TU (x:aQ) (y:aQ):aF.mul x y=(F6.add (F6.mul x.1 y.1) (F6.mul vE (F6.mul x.2 y.2)),F6.sub (F6.sub (F6.mul (F6.add x.1 x.2) (F6.add y.1 y.2)) (F6.mul x.1 y.1)) (F6.mul x.2 y.2)):=by
 refine Prod.ext rfl ?_;exact aG F6 (aV F6 [x.1,x.2,y.1,y.2]) (Z0*Z3+Z1*Z2) ((Z0+Z1)*(Z2+Z3)-Z0*Z2-Z1*Z3) (by decide)
def yV (c:Bool):Tab:=(XF c).add 66 (g2 sO sO (fun x y=>([],.one (.fl (aP (aF.mul x y))))))
theorem EJ (c:Bool) (hB:TabOk prog (qU c)):TabOk prog (yV c):=(Er c hB).ad func66 (dS fK fK fun x y hp args w ha=>by show Good _ _ (.one (.fl (aP (aF.mul x y)))) _ _; rw[TU x y]; exact aH aE (Er c hB) aM func66 (TH c x y) hp ha)
theorem Ah (c:Bool) (x:aQ):bM prog (yV c) qN (fun _=>true) f139 40 [.v (.fl (aP x))]=some ([],.one (.fl (aP (cO x)))):=by kernel_rfl
def DZ (c:Bool):Tab:=(yV c).add 139 (g1 sO (fun x=>([],.one (.fl (aP (cO x))))))
theorem KU (c:Bool) (hB:TabOk prog (qU c)):TabOk prog (DZ c):=(EJ c hB).ad func139 (bP fK fun x hp args w ha=>aH aE (EJ c hB) aM func139 (Ah c x) hp ha)
theorem Jq (c:Bool) (x:aQ):bM prog (DZ c) qN (fun _=>true) f67 40 [.v (.fl (aP x))]=some ([],.one (.fl (aP (x)))):=by kernel_rfl
def NA (c:Bool):Tab:=(DZ c).add 67 (g1 sO (fun x=>([],.one (.fl (aP (x))))))
theorem PV (c:Bool) (hB:TabOk prog (qU c)):TabOk prog (NA c):=(KU c hB).ad func67 (bP fK fun x hp args w ha=>aH aE (KU c hB) aM func67 (Jq c x) hp ha)
theorem Kv (c:Bool) (x:mX):bM prog (NA c) qN (fun _=>true) f65 40 [.v (.fl (rH x))]=some ([],.one (.fl (aP (gB x)))):=by kernel_rfl
def NE (c:Bool):Tab:=(NA c).add 65 (g1 Mn (fun x=>([],.one (.fl (aP (gB x))))))
theorem PZ (c:Bool) (hB:TabOk prog (qU c)):TabOk prog (NE c):=(PV c hB).ad func65 (bP zQ fun x hp args w ha=>aH aE (PV c hB) aM func65 (Kv c x) hp ha)
theorem aAO (c:Bool)  : bM prog (NE c) qN (fun _=>true) f122 40 []=some ([],.one (.fl (aP (aF.one)))):=by kernel_rfl
def IL (c:Bool):Tab:=(NE c).add 122 (g0 (.one (.fl (aP (aF.one)))))
theorem KX (c:Bool) (hB:TabOk prog (qU c)):TabOk prog (IL c):=(PZ c hB).ad func122 (gT fun w=>aH aE (PZ c hB) aM func122 (aAO c ) trivial (args:=[]) trivial)
def Nu (c:Bool) (x:aQ):List Prop×RV:=bif c then ([xD x≠F1.zero],.many [.fl (aP (lZ x)),.im (.int .i64 0)])else ([xD x=F1.zero],.many [.fl (aP aF.zero),.im (.int .i64 22)])
theorem FL (x:aQ):bM prog (IL true) qN (fun _=>true) f163 40 [.v (.fl (aP x))]=some ([xD x≠F1.zero],.many [.fl (aP (lZ x)),.im (.int .i64 0)]):=by kernel_rfl
theorem BY (x:aQ):bM prog (IL false) qN (fun _=>true) f163 40 [.v (.fl (aP x))]=some ([xD x=F1.zero],.many [.fl (aP aF.zero),.im (.int .i64 22)]):=by kernel_rfl
theorem aCc (c:Bool) (hB:TabOk prog (qU c)) (x:aQ) (hp:bC (Nu c x).1) (args:List Value) (w:World) (ha:bZ w [.v (.fl (aP x))] args):Good prog 163 (Nu c x).2 args w:=by
 cases c
 ·exact aH aE (KX false hB) aM func163 (BY x) hp ha
 ·exact aH aE (KX true hB) aM func163 (FL x) hp ha
def NB (c:Bool):Tab:=(IL c).add 163 (g1 sO (Nu c))
theorem PW (c:Bool) (hB:TabOk prog (qU c)):TabOk prog (NB c):=(KX c hB).ad func163 (bP fK (aCc c hB))
theorem aBx (c:Bool) (x:mX) (y:mX):bM prog (NB c) qN (fun _=>true) f26 40 [.v (.fl (rH x)),.v (.fl (rH y))]=some ([],.one (.fl (aP (aF.mul (gB x) (gB y))))):=by kernel_rfl
def IP (c:Bool):Tab:=(NB c).add 26 (g2 Mn Mn (fun x y=>([],.one (.fl (aP (aF.mul (gB x) (gB y)))))))
theorem LC (c:Bool) (hB:TabOk prog (qU c)):TabOk prog (IP c):=(PW c hB).ad func26 (dS zQ zQ fun x y hp args w ha=>aH aE (PW c hB) aM func26 (aBx c x y) hp ha)
def aHf (c:Bool) (x:mX):List Prop×RV:=bif c then ([xD (gB x)≠F1.zero],.many [.fl (aP (lZ (gB x))),.im (.int .i64 0)])else ([xD (gB x)=F1.zero],.many [.fl (aP aF.zero),.im (.int .i64 22)])
theorem JQ (x:mX):bM prog (IP true) qN (fun _=>true) f109 40 [.v (.fl (rH x))]=some ([xD (gB x)≠F1.zero],.many [.fl (aP (lZ (gB x))),.im (.int .i64 0)]):=by kernel_rfl
theorem FN (x:mX):bM prog (IP false) qN (fun _=>true) f109 40 [.v (.fl (rH x))]=some ([xD (gB x)=F1.zero],.many [.fl (aP aF.zero),.im (.int .i64 22)]):=by kernel_rfl
theorem aHe (c:Bool) (hB:TabOk prog (qU c)) (x:mX) (hp:bC (aHf c x).1) (args:List Value) (w:World) (ha:bZ w [.v (.fl (rH x))] args):Good prog 109 (aHf c x).2 args w:=by
 cases c
 ·exact aH aE (LC false hB) aM func109 (FN x) hp ha
 ·exact aH aE (LC true hB) aM func109 (JQ x) hp ha
def YI (c:Bool):Tab:=(IP c).add 109 (g1 Mn (aHf c))
theorem Fk (c:Bool) (hB:TabOk prog (qU c)):TabOk prog (YI c):=(LC c hB).ad func109 (bP zQ (aHe c hB))
theorem aBw (c:Bool)  : bM prog (YI c) qN (fun _=>true) f60 40 []=some ([],.one (.fl (aP (aF.one)))):=by kernel_rfl
def IN (c:Bool):Tab:=(YI c).add 60 (g0 (.one (.fl (aP (aF.one)))))
theorem LB (c:Bool) (hB:TabOk prog (qU c)):TabOk prog (IN c):=(Fk c hB).ad func60 (gT fun w=>aH aE (Fk c hB) aM func60 (aBw c ) trivial (args:=[]) trivial)
def aHd (c:Bool) (x:N2):List Prop×RV:=bif c then ([qC (m2 x)≠F1.zero],.many [.fl (e2 (eD (m2 x))),.im (.int .i64 0)])else ([qC (m2 x)=F1.zero],.many [.fl (e2 F2.zero),.im (.int .i64 22)])
theorem OK (x:N2):bM prog (IN true) qN (fun _=>true) f304 40 [.v (.fl (q2 x))]=some ([qC (m2 x)≠F1.zero],.many [.fl (e2 (eD (m2 x))),.im (.int .i64 0)]):=by kernel_rfl
theorem JP (x:N2):bM prog (IN false) qN (fun _=>true) f304 40 [.v (.fl (q2 x))]=some ([qC (m2 x)=F1.zero],.many [.fl (e2 F2.zero),.im (.int .i64 22)]):=by kernel_rfl
theorem aHc (c:Bool) (hB:TabOk prog (qU c)) (x:N2) (hp:bC (aHd c x).1) (args:List Value) (w:World) (ha:bZ w [.v (.fl (q2 x))] args):Good prog 304 (aHd c x).2 args w:=by
 cases c
 ·exact aH aE (LB false hB) aM func304 (JP x) hp ha
 ·exact aH aE (LB true hB) aM func304 (OK x) hp ha
def Rg (c:Bool):Tab:=(IN c).add 304 (g1 rq2 (aHd c))
theorem Uy (c:Bool) (hB:TabOk prog (qU c)):TabOk prog (Rg c):=(LB c hB).ad func304 (bP pU (aHc c hB))
theorem aFe (c:Bool) (x:N2) (y:N2):bM prog (Rg c) qN (fun _=>true) f213 40 [.v (.fl (q2 x)),.v (.fl (q2 y))]=some ([],.one (.fl (e2 (F2.mul (m2 x) (m2 y))))):=by kernel_rfl
def Rf (c:Bool):Tab:=(Rg c).add 213 (g2 rq2 rq2 (fun x y=>([],.one (.fl (e2 (F2.mul (m2 x) (m2 y)))))))
theorem Ux (c:Bool) (hB:TabOk prog (qU c)):TabOk prog (Rf c):=(Uy c hB).ad func213 (dS pU pU fun x y hp args w ha=>aH aE (Uy c hB) aM func213 (aFe c x y) hp ha)
theorem aFd (c:Bool) (x:N2):bM prog (Rf c) qN (fun _=>true) f171 40 [.v (.fl (q2 x))]=some ([],.one (.fl (e2 (F2.sub F2.zero (m2 x))))):=by kernel_rfl
def NQ (c:Bool):Tab:=(Rf c).add 171 (g1 rq2 (fun x=>([],.one (.fl (e2 (F2.sub F2.zero (m2 x)))))))
theorem aOk (c:Bool) (hB:TabOk prog (qU c)):TabOk prog (NQ c):=(Ux c hB).ad func171 (bP pU fun x hp args w ha=>aH aE (Ux c hB) aM func171 (aFd c x) hp ha)
def Pf:Q2:=(fm 1,fm 0)
def ME:Q2:=(fm 8376118865763821496583973867626364092589906065868298776909617916018768340080,fm 16469823323077808223889137241176536799009286646108169935659301613961712198316)
def EX:Q2:=(fm 21575463638280843010398324269430826099269044274347216827212613867836435027261,fm 10307601595873709700152284273816112264069230130616436755625194854815875713954)
def Ww:Q2:=(fm 2821565182194536844548159561693502659359617185244120367078079554186484126554,fm 3505843767911556378687030309984248845540243509899259641013678093033130930403)
def Wv:Q2:=(fm 2581911344467009335267311115468803099551665605076196740867805258568234346338,fm 19937756971775647987995932169929341994314640652964949448313374472400716661030)
def fb5:Q2:=(fm 685108087231508774477564247770172212460312782337200605669322048753928464687,fm 8447204650696766136447902020341177575205426561248465145919723016860428151883)
def sn0:Fq:=fm 1
def Si:Fq:=fm 21888242871839275220042445260109153167277707414472061641714758635765020556617
def sn2:Fq:=fm 21888242871839275220042445260109153167277707414472061641714758635765020556616
def sn3:Fq:=fm 21888242871839275222246405745257275088696311157297823662689037894645226208582
def Zz:Fq:=fm 2203960485148121921418603742825762020974279258880205651966
def Zy:Fq:=fm 2203960485148121921418603742825762020974279258880205651967
theorem aYe:Pf=F2.one:=by decide
theorem aUr:F2.mul (aL Pf) Pf=(sn0,F1.zero):=by decide
theorem aUp:F2.mul (aL ME) ME=(Si,F1.zero):=by decide
theorem aUn:F2.mul (aL EX) EX=(sn2,F1.zero):=by decide
theorem aUl:F2.mul (aL Ww) Ww=(sn3,F1.zero):=by decide
theorem aUj:F2.mul (aL Wv) Wv=(Zz,F1.zero):=by decide
theorem aUh:F2.mul (aL fb5) fb5=(Zy,F1.zero):=by decide
def dE (x:aQ):aQ:=((F2.mul (aL x.1.1) Pf,F2.mul (aL x.1.2.1) EX,F2.mul (aL x.1.2.2) Wv),(F2.mul (aL x.2.1) ME,F2.mul (aL x.2.2.1) Ww,F2.mul (aL x.2.2.2) fb5))
def cW (x:aQ):aQ:=((qY x.1.1 sn0,qY x.1.2.1 sn2,qY x.1.2.2 Zz),(qY x.2.1 Si,qY x.2.2.1 sn3,qY x.2.2.2 Zy))
theorem iP (x y:Q2):aL (F2.mul x y)=F2.mul (aL x) (aL y):=by
 refine Prod.ext ?_ ?_
 ·exact aG F1 (aV F1 [x.1,x.2,y.1,y.2]) (Z0*Z2+(-RE.one)*(Z1*Z3)) (Z0*Z2+(-RE.one)*((-Z1)*(-Z3))) (by decide)
 ·exact aG F1 (aV F1 [x.1,x.2,y.1,y.2]) (-(Z0*Z3+Z1*Z2)) (Z0*(-Z3)+(-Z1)*Z2) (by decide)
theorem mF (x y:Q2):aL (F2.add x y)=F2.add (aL x) (aL y):=Prod.ext rfl (F1.neg_add' _ _)
theorem bDV (x:Q2):aL (aL x)=x:=Prod.ext rfl (F1.neg_neg _)
theorem fD (x:Q2) (k:Fq):qY x k=F2.mul x (k,F1.zero):=by
 refine Prod.ext ?_ ?_
 ·exact aG F1 (aV F1 [x.1,x.2,k]) (Z0*Z2) (Z0*Z2+(-RE.one)*(Z1*RE.zero)) (by decide)
 ·exact aG F1 (aV F1 [x.1,x.2,k]) (Z1*Z2) (Z0*RE.zero+Z1*Z2) (by decide)
theorem CO (c t:Q2) (k:Fq) (h:F2.mul (aL t) t=(k,F1.zero)):F2.mul (aL (F2.mul (aL c) t)) t=qY c k:=by
 rw[iP,bDV,F2.mul_assoc,h,←fD]
theorem Ek (x:aQ):dE (dE x)=cW x:=by
 refine Prod.ext (Prod.ext (CO _ _ _ aUr) (Prod.ext (CO _ _ _ aUn) (CO _ _ _ aUj))) (Prod.ext (CO _ _ _ aUp) (Prod.ext (CO _ _ _ aUl) (CO _ _ _ aUh)))
theorem PE (c:Q2) (k l m:Fq):qY (qY (qY c k) l) m=qY c (F1.mul k (F1.mul l m)):=by
 refine Prod.ext ?_ ?_
 ·show F1.mul (F1.mul (F1.mul c.1 k) l) m=F1.mul c.1 (F1.mul k (F1.mul l m)); rw[F1.mul_assoc,F1.mul_assoc]
 ·show F1.mul (F1.mul (F1.mul c.2 k) l) m=F1.mul c.2 (F1.mul k (F1.mul l m)); rw[F1.mul_assoc,F1.mul_assoc]
theorem Jh (c:Q2):qY c F1.one=c:=Prod.ext (F1.mul_one _) (F1.mul_one _)
theorem Ji (c:Q2):qY c (F1.neg F1.one)=F2.sub F2.zero c:=by
 refine Prod.ext ?_ ?_
 ·show F1.mul c.1 (F1.neg F1.one)=F1.add F1.zero (F1.neg c.1); rw[F1.mul_neg,F1.mul_one,F1.zero_add]
 ·show F1.mul c.2 (F1.neg F1.one)=F1.add F1.zero (F1.neg c.2); rw[F1.mul_neg,F1.mul_one,F1.zero_add]
theorem aUs:F1.mul sn0 (F1.mul sn0 sn0)=F1.one:=by decide
theorem aUq:F1.mul Si (F1.mul Si Si)=F1.neg F1.one:=by decide
theorem aUo:F1.mul sn2 (F1.mul sn2 sn2)=F1.one:=by decide
theorem aUm:F1.mul sn3 (F1.mul sn3 sn3)=F1.neg F1.one:=by decide
theorem aUk:F1.mul Zz (F1.mul Zz Zz)=F1.one:=by decide
theorem aUi:F1.mul Zy (F1.mul Zy Zy)=F1.neg F1.one:=by decide
theorem zD (x:aQ):cW (cW (cW x))=cO x:=by
 refine Prod.ext (Prod.ext ?_ (Prod.ext ?_ ?_)) (Prod.ext ?_ (Prod.ext ?_ ?_))
 ·exact (PE _ _ _ _).trans (by rw[aUs,Jh]; rfl)
 ·exact (PE _ _ _ _).trans (by rw[aUo,Jh]; rfl)
 ·exact (PE _ _ _ _).trans (by rw[aUk,Jh]; rfl)
 ·exact (PE _ _ _ _).trans (by rw[aUq,Ji]; rfl)
 ·exact (PE _ _ _ _).trans (by rw[aUm,Ji]; rfl)
 ·exact (PE _ _ _ _).trans (by rw[aUi,Ji]; rfl)
def PQ (z:Q6):Q6:=(F2.mul (aL z.1) Pf,F2.mul (aL z.2.1) EX,F2.mul (aL z.2.2) Wv)
theorem aYd:Wv=F2.mul EX EX:=by decide
theorem YS:aL dJ=F2.mul dJ (F2.mul EX (F2.mul EX EX)):=by decide
theorem UG (z:Q6):PQ z=(aL z.1,F2.mul (aL z.2.1) EX,F2.mul (aL z.2.2) (F2.mul EX EX)):=by
 unfold PQ;rw[aYe,F2.mul_one,aYd]
theorem wD (z y:Q6):PQ (F6.add z y)=F6.add (PQ z) (PQ y):=by
 refine Prod.ext ?_ (Prod.ext ?_ ?_)
 ·show F2.mul (aL (F2.add z.1 y.1)) Pf=F2.add _ _; rw[mF,F2.add_mul]; rfl
 ·show F2.mul (aL (F2.add z.2.1 y.2.1)) EX=F2.add _ _; rw[mF,F2.add_mul]; rfl
 ·show F2.mul (aL (F2.add z.2.2 y.2.2)) Wv=F2.add _ _; rw[mF,F2.add_mul]; rfl
theorem aOb {R:Type} (K:CR R) (a b c d e f t q:R):K.add (K.mul a d) (K.mul (K.mul q (K.mul t (K.mul t t))) (K.add (K.mul b f) (K.mul c e)))=K.add (K.mul a d) (K.mul q (K.add (K.mul (K.mul b t) (K.mul f (K.mul t t))) (K.mul (K.mul c (K.mul t t)) (K.mul e t)))) :=
 aG K (aV K [a,b,c,d,e,f,t,q]) (Z0*Z3+Z7*(Z6*(Z6*Z6))*(Z1*Z5+Z2*Z4)) (Z0*Z3+Z7*(Z1*Z6*(Z5*(Z6*Z6))+Z2*(Z6*Z6)*(Z4*Z6))) (by decide)
theorem aOa {R:Type} (K:CR R) (a b c d e f t q:R):K.mul (K.add (K.add (K.mul a e) (K.mul b d)) (K.mul (K.mul q (K.mul t (K.mul t t))) (K.mul c f))) t=K.add (K.add (K.mul a (K.mul e t)) (K.mul (K.mul b t) d)) (K.mul q (K.mul (K.mul c (K.mul t t)) (K.mul f (K.mul t t)))) :=
 aG K (aV K [a,b,c,d,e,f,t,q]) ((Z0*Z4+Z1*Z3+Z7*(Z6*(Z6*Z6))*(Z2*Z5))*Z6) (Z0*(Z4*Z6)+Z1*Z6*Z3+Z7*(Z2*(Z6*Z6)*(Z5*(Z6*Z6)))) (by decide)
theorem aNZ {R:Type} (K:CR R) (a b c d e f t:R):K.mul (K.add (K.add (K.mul a f) (K.mul b e)) (K.mul c d)) (K.mul t t)=K.add (K.add (K.mul a (K.mul f (K.mul t t))) (K.mul (K.mul b t) (K.mul e t))) (K.mul (K.mul c (K.mul t t)) d) :=
 aG K (aV K [a,b,c,d,e,f,t]) ((Z0*Z5+Z1*Z4+Z2*Z3)*(Z6*Z6)) (Z0*(Z5*(Z6*Z6))+Z1*Z6*(Z4*Z6)+Z2*(Z6*Z6)*Z3) (by decide)
theorem pN (z y:Q6):PQ (F6.mul z y)=F6.mul (PQ z) (PQ y):=by
 rw[UG,UG,UG];refine Prod.ext ?_ (Prod.ext ?_ ?_)
 ·show aL (F2.add (F2.mul z.1 y.1) (F2.mul dJ (F2.add (F2.mul z.2.1 y.2.2) (F2.mul z.2.2 y.2.1))))=_;rw[mF,iP,iP,mF,iP,iP,YS];exact aOb F2 _ _ _ _ _ _ _ _
 ·show F2.mul (aL (F2.add (F2.add (F2.mul z.1 y.2.1) (F2.mul z.2.1 y.1)) (F2.mul dJ (F2.mul z.2.2 y.2.2)))) EX=_;rw[mF,mF,iP,iP,iP,iP,YS];exact aOa F2 _ _ _ _ _ _ _ _
 ·show F2.mul (aL (F2.add (F2.add (F2.mul z.1 y.2.2) (F2.mul z.2.1 y.2.1)) (F2.mul z.2.2 y.1))) (F2.mul EX EX)=_;rw[mF,mF,iP,iP,iP];exact aNZ F2 _ _ _ _ _ _ _
def tau:Q6:=(ME,F2.zero,F2.zero)
theorem Vh (z:Q6) (k:Q2):F6.mul z (k,F2.zero,F2.zero)=s6 z k:=by
 show (F2.add (F2.mul z.1 k) (F2.mul dJ (F2.add (F2.mul z.2.1 F2.zero) (F2.mul z.2.2 F2.zero))),F2.add (F2.add (F2.mul z.1 F2.zero) (F2.mul z.2.1 k)) (F2.mul dJ (F2.mul z.2.2 F2.zero)),F2.add (F2.add (F2.mul z.1 F2.zero) (F2.mul z.2.1 F2.zero)) (F2.mul z.2.2 k))=_;simp only[F2.mul_zero,F2.add_zero,F2.zero_add];rfl
theorem bDq:Ww=F2.mul EX ME:=by decide
theorem bDp:fb5=F2.mul Wv ME:=by decide
theorem bDs:ME=F2.mul Pf ME:=by decide
theorem sR (x:aQ):dE x=(PQ x.1,F6.mul (PQ x.2) tau):=by
 refine Prod.ext rfl ?_;rw[show tau=(ME,F2.zero,F2.zero)from rfl,Vh];refine Prod.ext ?_ (Prod.ext ?_ ?_)
 ·show F2.mul (aL x.2.1) ME=F2.mul (F2.mul (aL x.2.1) Pf) ME; rw[F2.mul_assoc,←bDs]
 ·show F2.mul (aL x.2.2.1) Ww=F2.mul (F2.mul (aL x.2.2.1) EX) ME; rw[F2.mul_assoc,←bDq]
 ·show F2.mul (aL x.2.2.2) fb5=F2.mul (F2.mul (aL x.2.2.2) Wv) ME; rw[F2.mul_assoc,←bDp]
theorem bCi:PQ vE=F6.mul vE (F6.mul tau tau):=by decide
theorem Tt {R:Type} (K:CR R) (a b c d v t:R):K.add (K.mul a c) (K.mul (K.mul v (K.mul t t)) (K.mul b d))=K.add (K.mul a c) (K.mul v (K.mul (K.mul b t) (K.mul d t)))∧K.mul (K.add (K.mul a d) (K.mul b c)) t=K.add (K.mul a (K.mul d t)) (K.mul (K.mul b t) c) :=
 ⟨aG K (aV K [a,b,c,d,v,t]) (Z0*Z2+Z4*(Z5*Z5)*(Z1*Z3)) (Z0*Z2+Z4*(Z1*Z5*(Z3*Z5))) (by decide),
  aG K (aV K [a,b,c,d,t]) ((Z0*Z3+Z1*Z2)*Z4) (Z0*(Z3*Z4)+Z1*Z4*Z2) (by decide)⟩
theorem oM (x y:aQ):dE (aF.mul x y)=aF.mul (dE x) (dE y):=by
 rw[sR,sR,sR];refine Prod.ext ?_ ?_
 ·show PQ (F6.add (F6.mul x.1 y.1) (F6.mul vE (F6.mul x.2 y.2)))=_;rw[wD,pN,pN,pN,bCi];exact (Tt F6 _ _ _ _ _ _).1
 ·show F6.mul (PQ (F6.add (F6.mul x.1 y.2) (F6.mul x.2 y.1))) tau=_;rw[wD,pN,pN];exact (Tt F6 _ _ _ _ vE _).2
theorem qW (x y:aQ):cW (aF.mul x y)=aF.mul (cW x) (cW y):=by rw[←Ek,←Ek,←Ek,oM,oM]
theorem MN (x y:aQ):cO (aF.mul x y)=aF.mul (cO x) (cO y):=by simp only[←zD,qW]
end Go.Proofs.YtglgakbkdjhojaaGreat.Ex
namespace Go.Proofs.YtglgakbkdjhojaaGreat
open Go.Proofs.Tryz
theorem aY:fH 2:=aR 2 1 (by decide) (by decide) (by kernel_rfl)
theorem gD:fH 3:=aR 3 1 (by decide) (by decide) (by kernel_rfl)
theorem UA:fH 13:=aR 13 3 (by decide) (by decide) (by kernel_rfl)
theorem aFN:fH 29:=aR 29 5 (by decide) (by decide) (by kernel_rfl)
theorem aUS:fH 67:=aR 67 8 (by decide) (by decide) (by kernel_rfl)
theorem Te:fH 229:=aR 229 15 (by decide) (by decide) (by kernel_rfl)
theorem aNt:fH 311:=aR 311 17 (by decide) (by decide) (by kernel_rfl)
theorem TZ:fH 983:=aR 983 31 (by decide) (by decide) (by kernel_rfl)
theorem PN:fH 11003:=aR 11003 104 (by decide) (by decide) (by kernel_rfl)
theorem UB:fH 11:=aR 11 3 (by decide) (by decide) (by kernel_rfl)
theorem aFK:fH 3691:=aR 3691 60 (by decide) (by decide) (by kernel_rfl)
theorem aFJ:fH 4999:=aR 4999 70 (by decide) (by decide) (by kernel_rfl)
theorem JV:Root 405928799 22:=by
 refine bH (l:=[2,11,3691,4999]) (by kernel_rfl) fun q hq => ?_
 simp only[List.mem_cons,List.not_mem_nil,or_false]at hq
 rcases hq with rfl|rfl|rfl|rfl
 ·exact aY
 ·exact UB
 ·exact aFK
 ·exact aFJ
theorem xL:fH 405928799:=JV.prm
theorem mJ:fH 5:=aR 5 2 (by decide) (by decide) (by kernel_rfl)
theorem KB:fH 7:=aR 7 2 (by decide) (by decide) (by kernel_rfl)
theorem CK:fH 19:=aR 19 4 (by decide) (by decide) (by kernel_rfl)
theorem aUX:fH 37:=aR 37 6 (by decide) (by decide) (by kernel_rfl)
theorem aNv:fH 233:=aR 233 15 (by decide) (by decide) (by kernel_rfl)
theorem Ct:Root 327599 19:=by
 refine bH (l:=[2,19,37,233]) (by kernel_rfl) fun q hq => ?_
 simp only[List.mem_cons,List.not_mem_nil,or_false]at hq
 rcases hq with rfl|rfl|rfl|rfl
 ·exact aY
 ·exact CK
 ·exact aUX
 ·exact aNv
theorem Mz:fH 327599:=Ct.prm
theorem CH:Root 11465965001 3:=by
 refine bH (l:=[2,2,2,5,5,5,5,7,327599]) (by kernel_rfl) fun q hq => ?_
 simp only[List.mem_cons,List.not_mem_nil,or_false]at hq
 rcases hq with rfl|rfl|rfl|rfl|rfl|rfl|rfl|rfl|rfl
 ·exact aY
 ·exact aY
 ·exact aY
 ·exact mJ
 ·exact mJ
 ·exact mJ
 ·exact mJ
 ·exact KB
 ·exact Mz
theorem FV:fH 11465965001:=CH.prm
theorem aNu:fH 271:=aR 271 16 (by decide) (by decide) (by kernel_rfl)
theorem TP:Root 1853641 17:=by
 refine bH (l:=[2,2,2,3,3,5,19,271]) (by kernel_rfl) fun q hq => ?_
 simp only[List.mem_cons,List.not_mem_nil,or_false]at hq
 rcases hq with rfl|rfl|rfl|rfl|rfl|rfl|rfl|rfl
 ·exact aY
 ·exact aY
 ·exact aY
 ·exact gD
 ·exact gD
 ·exact mJ
 ·exact CK
 ·exact aNu
theorem Do:fH 1853641:=TP.prm
theorem aFP:fH 17:=aR 17 4 (by decide) (by decide) (by kernel_rfl)
theorem aNA:fH 109:=aR 109 10 (by decide) (by decide) (by kernel_rfl)
theorem aFR:fH 1231:=aR 1231 35 (by decide) (by decide) (by kernel_rfl)
theorem TO:Root 4562087 5:=by
 refine bH (l:=[2,17,109,1231]) (by kernel_rfl) fun q hq => ?_
 simp only[List.mem_cons,List.not_mem_nil,or_false]at hq
 rcases hq with rfl|rfl|rfl|rfl
 ·exact aY
 ·exact aFP
 ·exact aNA
 ·exact aFR
theorem Dn:fH 4562087:=TO.prm
theorem aUR:fH 73:=aR 73 8 (by decide) (by decide) (by kernel_rfl)
theorem aUQ:fH 89:=aR 89 9 (by decide) (by decide) (by kernel_rfl)
theorem aBN:fH 13327:=aR 13327 115 (by decide) (by decide) (by kernel_rfl)
theorem JW:Root 173171039 13:=by
 refine bH (l:=[2,73,89,13327]) (by kernel_rfl) fun q hq => ?_
 simp only[List.mem_cons,List.not_mem_nil,or_false]at hq
 rcases hq with rfl|rfl|rfl|rfl
 ·exact aY
 ·exact aUR
 ·exact aUQ
 ·exact aBN
theorem OQ:fH 173171039:=JW.prm
theorem aUW:fH 41:=aR 41 6 (by decide) (by decide) (by kernel_rfl)
theorem aNm:fH 911:=aR 911 30 (by decide) (by decide) (by kernel_rfl)
theorem aFL:fH 3557:=aR 3557 59 (by decide) (by decide) (by kernel_rfl)
theorem FO:Root 1263766531 10:=by
 refine bH (l:=[2,3,5,13,911,3557]) (by kernel_rfl) fun q hq => ?_
 simp only[List.mem_cons,List.not_mem_nil,or_false]at hq
 rcases hq with rfl|rfl|rfl|rfl|rfl|rfl
 ·exact aY
 ·exact gD
 ·exact mJ
 ·exact UA
 ·exact aNm
 ·exact aFL
theorem KC:fH 1263766531:=FO.prm
theorem CE:Root 35385462869 2:=by
 refine bH (l:=[2,2,7,1263766531]) (by kernel_rfl) fun q hq => ?_
 simp only[List.mem_cons,List.not_mem_nil,or_false]at hq
 rcases hq with rfl|rfl|rfl|rfl
 ·exact aY
 ·exact aY
 ·exact KB
 ·exact KC
theorem FQ:fH 35385462869:=CE.prm
theorem tV:Root 2480874801745591 6:=by
 refine bH (l:=[2,3,3,5,19,41,35385462869]) (by kernel_rfl) fun q hq => ?_
 simp only[List.mem_cons,List.not_mem_nil,or_false]at hq
 rcases hq with rfl|rfl|rfl|rfl|rfl|rfl|rfl
 ·exact aY
 ·exact gD
 ·exact gD
 ·exact mJ
 ·exact CK
 ·exact aUW
 ·exact FQ
theorem uQ:fH 2480874801745591:=tV.prm
theorem fT:Root 13427688667394608761327070753331941386769 17:=by
 refine bH (l:=[2,2,2,2,3,7,11,1853641,4562087,173171039,2480874801745591]) (by kernel_rfl) fun q hq => ?_
 simp only[List.mem_cons,List.not_mem_nil,or_false]at hq
 rcases hq with rfl|rfl|rfl|rfl|rfl|rfl|rfl|rfl|rfl|rfl|rfl
 ·exact aY
 ·exact aY
 ·exact aY
 ·exact aY
 ·exact gD
 ·exact KB
 ·exact UB
 ·exact Do
 ·exact Dn
 ·exact OQ
 ·exact uQ
theorem fW:fH 13427688667394608761327070753331941386769:=fT.prm
theorem aFp:Root 21888242871839275222246405745257275088696311157297823662689037894645226208583 3:=by
 refine bH (l:=[2,3,3,13,29,67,229,311,983,11003,405928799,11465965001,13427688667394608761327070753331941386769]) (by kernel_rfl) fun q hq => ?_
 simp only[List.mem_cons,List.not_mem_nil,or_false]at hq
 rcases hq with rfl|rfl|rfl|rfl|rfl|rfl|rfl|rfl|rfl|rfl|rfl|rfl|rfl
 ·exact aY
 ·exact gD
 ·exact gD
 ·exact UA
 ·exact aFN
 ·exact aUS
 ·exact Te
 ·exact aNt
 ·exact TZ
 ·exact PN
 ·exact xL
 ·exact FV
 ·exact fW
theorem aNr:fH 449:=aR 449 21 (by decide) (by decide) (by kernel_rfl)
theorem Cv:Root 237073 15:=by
 refine bH (l:=[2,2,2,2,3,11,449]) (by kernel_rfl) fun q hq => ?_
 simp only[List.mem_cons,List.not_mem_nil,or_false]at hq
 rcases hq with rfl|rfl|rfl|rfl|rfl|rfl|rfl
 ·exact aY
 ·exact aY
 ·exact aY
 ·exact aY
 ·exact gD
 ·exact UB
 ·exact aNr
theorem Nb:fH 237073:=Cv.prm
theorem Tf:fH 107:=aR 107 10 (by decide) (by decide) (by kernel_rfl)
theorem aNq:fH 661:=aR 661 25 (by decide) (by decide) (by kernel_rfl)
theorem aBK:fH 93001:=aR 93001 304 (by decide) (by decide) (by kernel_rfl)
theorem CG:Root 12048837557 2:=by
 refine bH (l:=[2,2,7,7,661,93001]) (by kernel_rfl) fun q hq => ?_
 simp only[List.mem_cons,List.not_mem_nil,or_false]at hq
 rcases hq with rfl|rfl|rfl|rfl|rfl|rfl
 ·exact aY
 ·exact aY
 ·exact KB
 ·exact KB
 ·exact aNq
 ·exact aBK
theorem FU:fH 12048837557:=CG.prm
theorem xX:Root 5156902474397 2:=by
 refine bH (l:=[2,2,107,12048837557]) (by kernel_rfl) fun q hq => ?_
 simp only[List.mem_cons,List.not_mem_nil,or_false]at hq
 rcases hq with rfl|rfl|rfl|rfl
 ·exact aY
 ·exact aY
 ·exact Tf
 ·exact FU
theorem AA:fH 5156902474397:=xX.prm
theorem tW:Root 1670836401704629 2:=by
 refine bH (l:=[2,2,3,3,3,3,5156902474397]) (by kernel_rfl) fun q hq => ?_
 simp only[List.mem_cons,List.not_mem_nil,or_false]at hq
 rcases hq with rfl|rfl|rfl|rfl|rfl|rfl|rfl
 ·exact aY
 ·exact aY
 ·exact gD
 ·exact gD
 ·exact gD
 ·exact gD
 ·exact AA
theorem uR:fH 1670836401704629:=tW.prm
theorem aNo:fH 823:=aR 823 28 (by decide) (by decide) (by kernel_rfl)
theorem aBM:fH 41927:=aR 41927 204 (by decide) (by decide) (by kernel_rfl)
theorem TR:Root 1593227 2:=by
 refine bH (l:=[2,19,41927]) (by kernel_rfl) fun q hq => ?_
 simp only[List.mem_cons,List.not_mem_nil,or_false]at hq
 rcases hq with rfl|rfl|rfl
 ·exact aY
 ·exact CK
 ·exact aBM
theorem Dr:fH 1593227:=TR.prm
theorem aFI:fH 83:=aR 83 9 (by decide) (by decide) (by kernel_rfl)
theorem aNs:fH 379:=aR 379 19 (by decide) (by decide) (by kernel_rfl)
theorem Dp:fH 1637:=aR 1637 40 (by decide) (by decide) (by kernel_rfl)
theorem aNn:fH 853:=aR 853 29 (by decide) (by decide) (by kernel_rfl)
theorem JU:Root 639533339 2:=by
 refine bH (l:=[2,229,853,1637]) (by kernel_rfl) fun q hq => ?_
 simp only[List.mem_cons,List.not_mem_nil,or_false]at hq
 rcases hq with rfl|rfl|rfl|rfl
 ·exact aY
 ·exact Te
 ·exact aNn
 ·exact Dp
theorem OP:fH 639533339:=JU.prm
theorem sK:Root 65865678001877903 5:=by
 refine bH (l:=[2,83,379,1637,639533339]) (by kernel_rfl) fun q hq => ?_
 simp only[List.mem_cons,List.not_mem_nil,or_false]at hq
 rcases hq with rfl|rfl|rfl|rfl|rfl
 ·exact aY
 ·exact aFI
 ·exact aNs
 ·exact Dp
 ·exact OP
theorem tY:fH 65865678001877903:=sK.prm
theorem jO:Root 13818364434197438864469338081 3:=by
 refine bH (l:=[2,2,2,2,2,5,823,1593227,65865678001877903]) (by kernel_rfl) fun q hq => ?_
 simp only[List.mem_cons,List.not_mem_nil,or_false]at hq
 rcases hq with rfl|rfl|rfl|rfl|rfl|rfl|rfl|rfl|rfl
 ·exact aY
 ·exact aY
 ·exact aY
 ·exact aY
 ·exact aY
 ·exact mJ
 ·exact aNo
 ·exact Dr
 ·exact tY
theorem kF:fH 13818364434197438864469338081:=jO.prm
theorem aFo:Root 21888242871839275222246405745257275088548364400416034343698204186575808495617 5:=by
 refine bH (l:=[2,2,2,2,2,2,2,2,2,2,2,2,2,2,2,2,2,2,2,2,2,2,2,2,2,2,2,2,3,3,13,29,983,11003,237073,405928799,1670836401704629,13818364434197438864469338081]) (by kernel_rfl) fun q hq => ?_
 simp only[List.mem_cons,List.not_mem_nil,or_false]at hq
 rcases hq with rfl|rfl|rfl|rfl|rfl|rfl|rfl|rfl|rfl|rfl|rfl|rfl|rfl|rfl|rfl|rfl|rfl|rfl|rfl|rfl|rfl|rfl|rfl|rfl|rfl|rfl|rfl|rfl|rfl|rfl|rfl|rfl|rfl|rfl|rfl|rfl|rfl|rfl
 ·exact aY
 ·exact aY
 ·exact aY
 ·exact aY
 ·exact aY
 ·exact aY
 ·exact aY
 ·exact aY
 ·exact aY
 ·exact aY
 ·exact aY
 ·exact aY
 ·exact aY
 ·exact aY
 ·exact aY
 ·exact aY
 ·exact aY
 ·exact aY
 ·exact aY
 ·exact aY
 ·exact aY
 ·exact aY
 ·exact aY
 ·exact aY
 ·exact aY
 ·exact aY
 ·exact aY
 ·exact aY
 ·exact gD
 ·exact gD
 ·exact UA
 ·exact aFN
 ·exact TZ
 ·exact PN
 ·exact Nb
 ·exact xL
 ·exact uR
 ·exact kF
theorem aQN:fH 21888242871839275222246405745257275088548364400416034343698204186575808495617:=aFo.prm
section
variable {M g:Nat}
theorem aFZ (a n:Nat):(a%M)^n%M=a^n%M:=(Nat.pow_mod a n M).symm
theorem CS (a b:Nat):a%M*b%M=a*b%M:=by rw[Nat.mul_mod,Nat.mod_mod,←Nat.mul_mod]
theorem QL (a b:Nat):a*(b%M)%M=a*b%M:=by rw[Nat.mul_mod,Nat.mod_mod,←Nat.mul_mod]
theorem aIU (hr:Root M g) {a:Nat} (h0:0<a) (h:a<M):a^(M-1)%M=1:=by
 obtain⟨h1,hg,_,hs⟩:=hr;obtain⟨k,hk,rfl⟩:=hs a h0 h;rw[aFZ,←Nat.pow_mul,Nat.mul_comm,uS h1 hg]
theorem Wa (hr:Root M g) {a:Nat} (h2:2≤M) (h0:0<a) (h:a<M):a*(a^(M-2)%M)%M=1:=by
 rw[QL,←Nat.pow_succ',show (M-2).succ=M-1 by omega,aIU hr h0 h]
theorem aJR (hr:Root M g) {a b c:Nat} (h2:2≤M) (h0:0<a) (h:a<M) (e:a*b%M=a*c%M):b%M=c%M:=by
 have hi:=Wa hr h2 h0 h;have key:∀x,a^(M-2)%M*(a*x%M)%M=x%M:=fun x=>by
  rw[QL,←Nat.mul_assoc,Nat.mul_mod,Nat.mul_comm _ a,hi,Nat.one_mul,Nat.mod_mod]
 rw[←key b,e,key c]
theorem aDh (hr:Root M g) {a b:Nat} (h2:2≤M) (h0:0<a) (h:a<M) (e:a*b%M=0):b%M=0:=by
 have:=aJR hr (c:=0) h2 h0 h (by rw[e,Nat.mul_zero,Nat.zero_mod]);rw[this,Nat.zero_mod]
theorem mul_ne (hr:Root M g) {a b:Nat} (h2:2≤M) (ha0:0<a) (ha:a<M) (hb0:0<b) (hb:b<M):0<a*b%M:=by
 rcases Nat.eq_zero_or_pos (a*b%M)with h|h
 ·have:=aDh hr h2 ha0 ha h;rw[Nat.mod_eq_of_lt hb]at this; omega
 ·exact h
end
theorem Pe:Root FP.M 3:=by
 rw[show FP.M=21888242871839275222246405745257275088696311157297823662689037894645226208583 from by decide];exact aFp
end Go.Proofs.YtglgakbkdjhojaaGreat
namespace Go.Proofs.YtglgakbkdjhojaaGreat.Ex
open Go.Proofs.Tryz
def Fld {R:Type} (K:CR R):Prop:=K.one≠K.zero∧∀x,x≠K.zero→∃y,K.mul x y=K.one
theorem Fld.zd {R:Type} {K:CR R} (h:Fld K) {a b:R} (e:K.mul a b=K.zero) (ha:a≠K.zero):b=K.zero:=by
 obtain⟨y,hy⟩:=h.2 a ha;have:=congrArg (K.mul y) e
 rwa [←K.mul_assoc,K.mul_comm y,hy,K.one_mul,K.mul_zero]at this
theorem zI {R:Type} {K:CR R} (h:Fld K) {a:R} (e:K.mul a a=K.zero):a=K.zero:=by
 by_cases ha:a=K.zero
 ·exact ha
 ·exact h.zd e ha
theorem Yv:F1.one≠F1.zero:=fun h=>by have:=congrArg Fin.val h; exact absurd this (by decide)
theorem bDo {x:Fq} (h:x≠F1.zero):0<x.1:=by
 rcases Nat.eq_zero_or_pos x.1 with h0|h0
 ·exact absurd (Fin.ext h0:x=F1.zero) h
 ·exact h0
theorem AY {x:Fq} (h:x≠F1.zero):F1.mul x (cF x)=F1.one:=by
 apply Fin.ext;show x.1*(cF x).1%FP.M=1;rw[MB,Nat.one_mul];exact Wa Pe (by decide) (bDo h) x.2
theorem aRV:Fld F1:=⟨Yv,fun x h=>⟨_,AY h⟩⟩
theorem aCy {n:Nat} (h0:0<n) (h:n<FP.M):n^(FP.M-1)%FP.M=1:=aIU Pe h0 h
def uU:Nat:=(FP.M-1)/3
def KG:Nat:=(FP.M-1)/2
theorem ZJ:3*uU=FP.M-1:=by decide
theorem VS:2*KG=FP.M-1:=by decide
theorem aJy:82^uU%FP.M≠1:=by
 rw[←EH FP.M 256 82 uU (by decide)];exact of_decide_eq_true (by kernel_rfl)
theorem aIn:82^KG%FP.M≠1:=by
 rw[←EH FP.M 256 82 KG (by decide)];exact of_decide_eq_true (by kernel_rfl)
theorem aOs:(FP.M-1)^KG%FP.M≠1:=by
 rw[←EH FP.M 256 (FP.M-1) KG (by decide)];exact of_decide_eq_true (by kernel_rfl)
theorem aOr (n:Fq):F1.mul n (F1.mul n n)≠fm 82:=fun h=>by
 have hv:n.1^3%FP.M=82:=by
  have:=congrArg Fin.val h;have e:n.1*(n.1*n.1%FP.M)%FP.M=82%FP.M:=this;rw[Nat.mul_mod_mod,←Nat.mul_assoc,show n.1*n.1*n.1=n.1^3 by rw[Nat.pow_succ,Nat.pow_two]]at e;rw[e]; decide
 have h0:0<n.1:=by
  rcases Nat.eq_zero_or_pos n.1 with h0|h0
  ·rw[h0]at hv; exact absurd hv (by decide)
  ·exact h0
 have:=aCy h0 n.2;rw[←ZJ,Nat.pow_mul,Nat.pow_mod,hv]at this;exact aJy this
theorem bCu (n:Fq):F1.mul n n≠fm 82:=fun h=>by
 have hv:n.1^2%FP.M=82:=by
  have:=congrArg Fin.val h;have e:n.1*n.1%FP.M=82%FP.M:=this;rw[Nat.pow_two,e]; decide
 have h0:0<n.1:=by
  rcases Nat.eq_zero_or_pos n.1 with h0|h0
  ·rw[h0]at hv; exact absurd hv (by decide)
  ·exact h0
 have:=aCy h0 n.2;rw[←VS,Nat.pow_mul,Nat.pow_mod,hv]at this;exact aIn this
theorem aWz (n:Fq):F1.mul n n≠F1.neg F1.one:=fun h=>by
 have hv:n.1^2%FP.M=FP.M-1:=by
  have:=congrArg Fin.val h;have e:n.1*n.1%FP.M=(0+FP.M-1)%FP.M:=this;rw[Nat.pow_two,e]; decide
 have h0:0<n.1:=by
  rcases Nat.eq_zero_or_pos n.1 with h0|h0
  ·rw[h0]at hv; exact absurd hv (by decide)
  ·exact h0
 have:=aCy h0 n.2;rw[←VS,Nat.pow_mul,Nat.pow_mod,hv]at this;exact aOs this
theorem aJq {R:Type} {K:CR R} (h:Fld K) {a b q:R} (hb:b≠K.zero) (e:K.mul a a=K.mul q (K.mul b b)):∃t,K.mul t t=q:=by
 obtain⟨y,hy⟩:=h.2 b hb;refine⟨K.mul a y,?_⟩;have h1:K.mul (K.mul a y) (K.mul a y)=K.mul (K.mul a a) (K.mul y y):=aG K (aV K [a,y]) (Z0*Z1*(Z0*Z1)) (Z0*Z0*(Z1*Z1)) (by decide);have h2:K.mul (K.mul q (K.mul b b)) (K.mul y y)=K.mul q (K.mul (K.mul b y) (K.mul b y)):=aG K (aV K [q,b,y]) (Z0*(Z1*Z1)*(Z2*Z2)) (Z0*(Z1*Z2*(Z1*Z2))) (by decide);rw[h1,e,h2,hy,K.mul_one,K.mul_one]
theorem aJr {R:Type} {K:CR R} (h:Fld K) {a b q:R} (hb:b≠K.zero) (e:K.mul a (K.mul a a)=K.mul q (K.mul b (K.mul b b))):∃t,K.mul t (K.mul t t)=q:=by
 obtain⟨y,hy⟩:=h.2 b hb;refine⟨K.mul a y,?_⟩;have h1:K.mul (K.mul a y) (K.mul (K.mul a y) (K.mul a y))=K.mul (K.mul a (K.mul a a)) (K.mul y (K.mul y y)):=aG K (aV K [a,y]) (Z0*Z1*(Z0*Z1*(Z0*Z1))) (Z0*(Z0*Z0)*(Z1*(Z1*Z1))) (by decide);have h2:K.mul (K.mul q (K.mul b (K.mul b b))) (K.mul y (K.mul y y))=K.mul q (K.mul (K.mul b y) (K.mul (K.mul b y) (K.mul b y))):=aG K (aV K [q,b,y]) (Z0*(Z1*(Z1*Z1))*(Z2*(Z2*Z2))) (Z0*(Z1*Z2*(Z1*Z2*(Z1*Z2)))) (by decide);rw[h1,e,h2,hy,K.mul_one,K.mul_one,K.mul_one]
theorem oN {x:Q2} (h:qC x=F1.zero):x=F2.zero:=by
 have h1:F1.mul x.1 x.1=F1.mul (F1.neg F1.one) (F1.mul x.2 x.2):=by
  rw[F1.neg_mul,F1.one_mul];apply F1.add_cancel (a:=F1.mul x.2 x.2);rw[F1.add_neg,F1.add_comm];exact h
 by_cases hb:x.2=F1.zero
 ·rw[hb,F1.mul_zero,F1.mul_zero]at h1;exact Prod.ext (zI aRV h1) hb
 ·obtain⟨t,ht⟩:=aJq aRV hb h1;exact absurd ht (aWz t)
theorem YK {x:Q2} (h:qC x≠F1.zero):F2.mul x (eD x)=F2.one:=by
 have hi:=AY h;refine Prod.ext ?_ ?_
 ·show F1.add (F1.mul x.1 (F1.mul x.1 (cF (qC x)))) (F1.mul (F1.neg F1.one) (F1.mul x.2 (F1.mul (F1.neg x.2) (cF (qC x)))))=F1.one;refine Eq.trans ?_ hi;exact aG F1 (aV F1 [x.1,x.2,cF (qC x)]) (Z0*(Z0*Z2)+(-RE.one)*(Z1*((-Z1)*Z2))) ((Z0*Z0+Z1*Z1)*Z2) (by decide)
 ·show F1.add (F1.mul x.1 (F1.mul (F1.neg x.2) (cF (qC x)))) (F1.mul x.2 (F1.mul x.1 (cF (qC x))))=F1.zero;exact aG F1 (aV F1 [x.1,x.2,cF (qC x)]) (Z0*((-Z1)*Z2)+Z1*(Z0*Z2)) .zero (by decide)
theorem DM:Fld F2:=⟨fun h=>Yv (congrArg Prod.fst h),fun x h=>⟨_,YK fun e=>h (oN e)⟩⟩
theorem AM (x y:Q2):qC (F2.mul x y)=F1.mul (qC x) (qC y) :=
 aG F1 (aV F1 [x.1,x.2,y.1,y.2]) ((Z0*Z2+(-RE.one)*(Z1*Z3))*(Z0*Z2+(-RE.one)*(Z1*Z3))+(Z0*Z3+Z1*Z2)*(Z0*Z3+Z1*Z2))
  ((Z0*Z0+Z1*Z1)*(Z2*Z2+Z3*Z3)) (by decide)
theorem aRB:qC dJ=fm 82:=by decide
theorem Rt (t:Q2):F2.mul t (F2.mul t t)≠dJ:=fun h=>by
 have:=congrArg qC h;rw[AM,AM,aRB]at this;exact aOr _ this
theorem bAy (t:Q2):F2.mul t t≠dJ:=fun h=>by
 have:=congrArg qC h;rw[AM,aRB]at this;exact bCu _ this
theorem aQm (x:Q6) (k:Q2):F6.mul x (s6 (pG x) k)=(F2.mul (n6 x) k,F2.zero,F2.zero):=by
 refine Prod.ext ?_ (Prod.ext ?_ ?_)
 ·exact aG F2 (aV F2 [x.1,x.2.1,x.2.2,dJ,k])
   (Z0*((Z0*Z0-Z1*Z2*Z3)*Z4)+Z3*(Z1*((Z1*Z1-Z0*Z2)*Z4)+Z2*((Z2*Z2*Z3-Z0*Z1)*Z4)))
   ((Z0*(Z0*Z0-Z1*Z2*Z3)+Z3*(Z1*(Z1*Z1-Z0*Z2)+Z2*(Z2*Z2*Z3-Z0*Z1)))*Z4) (by decide)
 ·exact aG F2 (aV F2 [x.1,x.2.1,x.2.2,dJ,k])
   (Z0*((Z2*Z2*Z3-Z0*Z1)*Z4)+Z1*((Z0*Z0-Z1*Z2*Z3)*Z4)+Z3*(Z2*((Z1*Z1-Z0*Z2)*Z4))) .zero (by decide)
 ·exact aG F2 (aV F2 [x.1,x.2.1,x.2.2,dJ,k])
   (Z0*((Z1*Z1-Z0*Z2)*Z4)+Z1*((Z2*Z2*Z3-Z0*Z1)*Z4)+Z2*((Z0*Z0-Z1*Z2*Z3)*Z4)) .zero (by decide)
theorem LH {R:Type} {K:CR R} {a b:R} (h:K.add a (K.neg b)=K.zero):a=b:=by
 have h2:K.add (K.add a (K.neg b)) b=K.add K.zero b:=congrArg (fun x=>K.add x b) h
 rwa [K.add_assoc,K.neg_add,K.add_zero,K.zero_add]at h2
theorem Vg {x:Q6} (h:n6 x=F2.zero):x=F6.zero:=by
 have hA:F2.mul (pG x).2.1 (F2.mul (pG x).2.1 (pG x).2.1)=F2.mul dJ (F2.mul (pG x).2.2 (F2.mul (pG x).2.2 (pG x).2.2)):=by
  apply LH;have e:F2.add (F2.mul (pG x).2.1 (F2.mul (pG x).2.1 (pG x).2.1)) (F2.neg (F2.mul dJ (F2.mul (pG x).2.2 (F2.mul (pG x).2.2 (pG x).2.2))))=F2.mul (n6 x) (F2.add (F2.mul dJ (F2.mul x.2.2 (F2.mul x.2.2 x.2.2))) (F2.neg (F2.mul x.2.1 (F2.mul x.2.1 x.2.1)))) :=
   aG F2 (aV F2 [x.1,x.2.1,x.2.2,dJ])
    ((Z2*Z2*Z3-Z0*Z1)*((Z2*Z2*Z3-Z0*Z1)*(Z2*Z2*Z3-Z0*Z1))-Z3*((Z1*Z1-Z0*Z2)*((Z1*Z1-Z0*Z2)*(Z1*Z1-Z0*Z2))))
    ((Z0*(Z0*Z0-Z1*Z2*Z3)+Z3*(Z1*(Z1*Z1-Z0*Z2)+Z2*(Z2*Z2*Z3-Z0*Z1)))*(Z3*(Z2*(Z2*Z2))-Z1*(Z1*Z1))) (by decide)
  rw[e,h,F2.zero_mul]
 have h2:(pG x).2.2=F2.zero:=by
  by_cases hb:(pG x).2.2=F2.zero
  ·exact hb
  ·obtain⟨t,ht⟩:=aJr DM hb hA;exact absurd ht (Rt t)
 have h1:(pG x).2.1=F2.zero:=by
  rw[h2,F2.mul_zero,F2.mul_zero,F2.mul_zero]at hA
  by_cases ha:(pG x).2.1=F2.zero
  ·exact ha
  ·exact zI DM (DM.zd hA ha)
 have g2:F2.mul x.2.1 x.2.1=F2.mul x.1 x.2.2:=LH (K:=F2) h2;have g1:F2.mul (F2.mul x.2.2 x.2.2) dJ=F2.mul x.1 x.2.1:=LH (K:=F2) h1;have h3:x.2.2=F2.zero:=by
  by_cases hc:x.2.2=F2.zero
  ·exact hc
  ·
   have e:F2.mul x.2.1 (F2.mul x.2.1 x.2.1)=F2.mul dJ (F2.mul x.2.2 (F2.mul x.2.2 x.2.2)):=by
    rw[g2];have e1:F2.mul x.2.1 (F2.mul x.1 x.2.2)=F2.mul (F2.mul x.1 x.2.1) x.2.2:=aG F2 (aV F2 [x.1,x.2.1,x.2.2]) (Z1*(Z0*Z2)) (Z0*Z1*Z2) (by decide);rw[e1,←g1];exact aG F2 (aV F2 [x.2.2,dJ]) (Z0*Z0*Z1*Z0) (Z1*(Z0*(Z0*Z0))) (by decide)
   obtain⟨t,ht⟩:=aJr DM hc e;exact absurd ht (Rt t)
 have h4:x.2.1=F2.zero:=by
  rw[h3,F2.mul_zero]at g2;exact zI DM g2
 have h5:x.1=F2.zero:=by
  have e:F2.mul x.1 (F2.mul x.1 x.1)=F2.zero:=by
   rw[←h];show F2.mul x.1 (F2.mul x.1 x.1)=F2.add (F2.mul x.1 (F2.sub (F2.mul x.1 x.1) (F2.mul (F2.mul x.2.1 x.2.2) dJ))) (F2.mul dJ (F2.add (F2.mul x.2.1 (pG x).2.2) (F2.mul x.2.2 (pG x).2.1)));rw[h1,h2,h3,F2.mul_zero x.2.1,F2.mul_zero F2.zero,F2.add_zero,F2.mul_zero dJ,F2.add_zero,F2.zero_mul];show F2.mul x.1 (F2.mul x.1 x.1)=F2.mul x.1 (F2.add (F2.mul x.1 x.1) (F2.neg F2.zero));rw[bU,F2.add_zero]
  by_cases ha:x.1=F2.zero
  ·exact ha
  ·exact zI DM (DM.zd e ha)
 exact Prod.ext h5 (Prod.ext h4 h3)
theorem aKS {x:Q6} (h:qC (n6 x)≠F1.zero):F6.mul x (iv6 x)=F6.one:=by
 show F6.mul x (s6 (pG x) (eD (n6 x)))=_;rw[aQm,YK h];rfl
theorem aXZ:Fld F6:=⟨fun h=>DM.1 (congrArg Prod.fst h),fun x h=>⟨_,aKS fun e=>h (Vg (oN e))⟩⟩
theorem aDm {z:Q2} (h:F2.mul dJ (F2.mul z z)=F2.one):False:=by
 have hz:z≠F2.zero:=fun e=>by rw[e,F2.mul_zero,F2.mul_zero]at h; exact DM.1 h.symm
 obtain⟨y,hy⟩:=DM.2 z hz;refine bAy y ?_;have e:F2.mul (F2.mul y y) (F2.mul dJ (F2.mul z z))=F2.mul dJ (F2.mul (F2.mul z y) (F2.mul z y)):=aG F2 (aV F2 [y,z,dJ]) (Z0*Z0*(Z2*(Z1*Z1))) (Z2*(Z1*Z0*(Z1*Z0))) (by decide)
 rwa [h,hy,F2.mul_one,F2.mul_one,F2.mul_one]at e
theorem bEU (s:Q6):F6.mul s s≠vE:=fun h=>by
 have c0:F2.add (F2.mul s.1 s.1) (F2.mul dJ (F2.add (F2.mul s.2.1 s.2.2) (F2.mul s.2.2 s.2.1)))=F2.zero:=congrArg Prod.fst h;have c1:F2.add (F2.add (F2.mul s.1 s.2.1) (F2.mul s.2.1 s.1)) (F2.mul dJ (F2.mul s.2.2 s.2.2))=F2.one:=congrArg (fun x=>x.2.1) h;have c2:F2.add (F2.add (F2.mul s.1 s.2.2) (F2.mul s.2.1 s.2.1)) (F2.mul s.2.2 s.1)=F2.zero:=congrArg (fun x=>x.2.2) h;have e:F2.mul s.1 (F2.add (F2.mul s.1 s.2.1) (F2.neg (F2.mul (F2.add (F2.add F2.one F2.one) (F2.add F2.one F2.one)) (F2.mul dJ (F2.mul s.2.2 s.2.2)))))=F2.zero:=by
  have e1:F2.mul s.1 (F2.add (F2.mul s.1 s.2.1) (F2.neg (F2.mul (F2.add (F2.add F2.one F2.one) (F2.add F2.one F2.one)) (F2.mul dJ (F2.mul s.2.2 s.2.2)))))=F2.add (F2.mul s.2.1 (F2.add (F2.mul s.1 s.1) (F2.mul dJ (F2.add (F2.mul s.2.1 s.2.2) (F2.mul s.2.2 s.2.1))))) (F2.neg (F2.mul (F2.mul (F2.add F2.one F2.one) (F2.mul dJ s.2.2)) (F2.add (F2.add (F2.mul s.1 s.2.2) (F2.mul s.2.1 s.2.1)) (F2.mul s.2.2 s.1)))) :=
   aG F2 (aV F2 [s.1,s.2.1,s.2.2,dJ])
    (Z0*(Z0*Z1-(RE.one+RE.one+(RE.one+RE.one))*(Z3*(Z2*Z2))))
    (Z1*(Z0*Z0+Z3*(Z1*Z2+Z2*Z1))-(RE.one+RE.one)*(Z3*Z2)*(Z0*Z2+Z1*Z1+Z2*Z0)) (by decide)
  rw[e1,c0,c2,F2.mul_zero,F2.mul_zero,bU,F2.add_zero]
 by_cases h0:s.1=F2.zero
 ·rw[h0,F2.zero_mul,F2.mul_zero,F2.zero_add,F2.zero_add]at c1;exact aDm c1
 ·have g:=LH (DM.zd e h0);rw[F2.mul_comm s.2.1 s.1,g]at c1;refine aDm (z:=F2.mul (F2.add (F2.add F2.one F2.one) F2.one) s.2.2) ?_;refine Eq.trans ?_ c1;exact aG F2 (aV F2 [s.2.2,dJ]) (Z1*((RE.one+RE.one+RE.one)*Z0*((RE.one+RE.one+RE.one)*Z0)))
   ((RE.one+RE.one+(RE.one+RE.one))*(Z1*(Z0*Z0))+(RE.one+RE.one+(RE.one+RE.one))*(Z1*(Z0*Z0))+Z1*(Z0*Z0)) (by decide)
theorem aHr {x:aQ} (h:n12 x=F6.zero):x=aF.zero:=by
 have e:F6.mul x.1 x.1=F6.mul vE (F6.mul x.2 x.2):=LH (K:=F6) h;have hb:x.2=F6.zero:=by
  by_cases hb:x.2=F6.zero
  ·exact hb
  ·obtain⟨t,ht⟩:=aJq aXZ hb e;exact absurd ht (bEU t)
 rw[hb,F6.mul_zero,F6.mul_zero]at e;exact Prod.ext (zI aXZ e) hb
theorem wM {x:aQ} (h:xD x=F1.zero):x=aF.zero:=aHr (Vg (oN h))
theorem aOI {R:Type} (K:CR R) (a b v k:R):K.add (K.mul a (K.mul a k)) (K.mul v (K.mul b (K.mul (K.sub K.zero b) k)))=K.mul (K.sub (K.mul a a) (K.mul v (K.mul b b))) k :=
 aG K (aV K [a,b,v,k]) (Z0*(Z0*Z3)+Z2*(Z1*((RE.zero-Z1)*Z3))) ((Z0*Z0-Z2*(Z1*Z1))*Z3) (by decide)
theorem aOH {R:Type} (K:CR R) (a b k:R):K.add (K.mul a (K.mul (K.sub K.zero b) k)) (K.mul b (K.mul a k))=K.zero :=
 aG K (aV K [a,b,k]) (Z0*((RE.zero-Z1)*Z2)+Z1*(Z0*Z2)) .zero (by decide)
theorem YL {x:aQ} (h:xD x≠F1.zero):aF.mul x (lZ x)=aF.one:=by
 have hi:F6.mul (n12 x) (iv6 (n12 x))=F6.one:=aKS h;exact Prod.ext ((aOI F6 x.1 x.2 vE (iv6 (n12 x))).trans hi) (aOH F6 x.1 x.2 (iv6 (n12 x)))
theorem lK:Fld aF:=⟨fun h=>aXZ.1 (congrArg Prod.fst h),fun x h=>⟨_,YL fun e=>h (wM e)⟩⟩
def pf {R:Type} (K:CR R):Nat→R→Nat→R
 | 0,_,_=>K.one
 | f+1,b,e=>bif Nat.beq e 0 then K.one else bif Nat.beq (e%2) 1 then K.mul b (pf K f (K.mul b b) (e/2))else pf K f (K.mul b b) (e/2)
theorem Tg {R:Type} (K:CR R):∀(f:Nat) (b:R) (e:Nat),e<2^f→pf K f b e=bR K b e
 | 0,b,e,h=>by
  have:e=0:=by omega
  subst this; rfl
 | f+1,b,e,h=>by
  rw[Nat.pow_succ]at h;unfold pf;cases h0:Nat.beq e 0
  ·have hi:=Tg K f (K.mul b b) (e/2) (by omega);have hb:K.mul b b=bR K b 2:=by show _=K.mul (K.mul K.one b) b; rw[K.one_mul]
   have hs:bR K (K.mul b b) (e/2)=bR K b (2*(e/2)):=by rw[hb,←eW]
   cases h1:Nat.beq (e%2) 1
   ·have:e%2≠1:=fun h=>by rw[h]at h1; cases h1
    simp only[cond_false];rw[hi,hs];congr 1; omega
   ·have:=Nat.eq_of_beq_eq_true h1;simp only[cond_true,cond_false];rw[hi,hs];have he:e=2*(e/2)+1:=by omega
    conv=>rhs; rw[he]
    show _=K.mul (bR K b (2*(e/2))) b;rw[K.mul_comm]
  ·have:=Nat.eq_of_beq_eq_true h0;subst this; rfl
theorem aHo {R:Type} (K:CR R) (q:R) (x:R×R):∀n,nt (K.sq q) x n=(nt K x.1 n,nt K x.2 n)
 | 0=>rfl
 | n+1=>by show (K.sq q).add (nt (K.sq q) x n) x=_; rw[aHo K q x n]; rfl
theorem aRA {R:Type} (K:CR R) (q:R) (x:R×R×R):∀n,nt (K.cu q) x n=(nt K x.1 n,nt K x.2.1 n,nt K x.2.2 n)
 | 0=>rfl
 | n+1=>by show (K.cu q).add (nt (K.cu q) x n) x=_; rw[aRA K q x n]; rfl
theorem aRz (x:Fq):∀n,(nt F1 x n).1=n*x.1%FP.M
 | 0=>by rw[Nat.zero_mul]; rfl
 | n+1=>by
  show ((nt F1 x n).1+x.1)%FP.M=_;rw[aRz x n,Nat.mod_add_mod,Nat.add_mul,Nat.one_mul]
theorem ch1 (x:Fq):nt F1 x FP.M=F1.zero:=Fin.ext (by rw[aRz,Nat.mul_mod_right]; rfl)
theorem ch2 (x:Q2):nt F2 x FP.M=F2.zero:=by unfold F2; rw[aHo,ch1,ch1]; rfl
theorem ch6 (x:Q6):nt F6 x FP.M=F6.zero:=by unfold F6; rw[aRA,ch2,ch2,ch2]; rfl
theorem bHa (x:aQ):nt aF x FP.M=aF.zero:=by unfold aF; rw[aHo,ch6,ch6]; rfl
theorem aNB:fH FP.M:=Pe.prm
theorem nR {R S:Type} (K:CR R) (L:CR S) (φ:R→S) (h1:φ K.one=L.one) (hm:∀a b,φ (K.mul a b)=L.mul (φ a) (φ b)) (x:R):∀n,bR L (φ x) n=φ (bR K x n)
 | 0=>h1.symm
 | n+1=>by show L.mul (bR L (φ x) n) (φ x)=φ (K.mul _ _); rw[nR K L φ h1 hm x n,hm]
theorem bBT (x:Fq):∀n,(bR F1 x n).1=x.1^n%FP.M
 | 0=>rfl
 | n+1=>by show (bR F1 x n).1*x.1%FP.M=_; rw[bBT x n,Nat.pow_succ,Nat.mod_mul_mod]
theorem Dv (x m:Nat) (h:0<m):x^m=x^(m-1)*x:=by
 obtain⟨n,rfl⟩:∃n,m=n+1:=⟨m-1,by omega⟩
 rw[Nat.add_sub_cancel,Nat.pow_succ]
theorem p1 (x:Fq):bR F1 x FP.M=x:=by
 apply Fin.ext;rw[bBT]
 rcases Nat.eq_zero_or_pos x.1 with h|h
 ·rw[Dv x.1 FP.M fV,h,Nat.mul_zero,Nat.zero_mod]
 ·have:=aCy h x.2;rw[Dv x.1 FP.M fV,Nat.mul_mod,this,Nat.one_mul,Nat.mod_mod,Nat.mod_eq_of_lt x.2]
def i2 (a:Fq):Q2:=(a,F1.zero)
def u2:Q2:=(F1.zero,F1.one)
theorem Ov (a b:Fq):i2 (F1.mul a b)=F2.mul (i2 a) (i2 b):=by
 refine Prod.ext ?_ ?_
 ·show F1.mul a b=F1.add (F1.mul a b) (F1.mul _ (F1.mul F1.zero F1.zero)); rw[F1.mul_zero,F1.mul_zero,F1.add_zero]
 ·show F1.zero=F1.add (F1.mul a F1.zero) (F1.mul F1.zero b); rw[F1.mul_zero,F1.zero_mul,F1.add_zero]
theorem aQL (x:Q2):x=F2.add (i2 x.1) (F2.mul (i2 x.2) u2):=by
 refine Prod.ext ?_ ?_
 ·show x.1=F1.add x.1 (F1.add (F1.mul x.2 F1.zero) (F1.mul _ (F1.mul F1.zero F1.one))); rw[F1.mul_zero,F1.zero_mul,F1.mul_zero,F1.add_zero,F1.add_zero]
 ·show x.2=F1.add F1.zero (F1.add (F1.mul x.2 F1.one) (F1.mul F1.zero F1.zero)); rw[F1.mul_one,F1.mul_zero,F1.add_zero,F1.zero_add]
theorem bEV:bR F2 u2 FP.M=aL u2:=by
 rw[←Tg F2 256 u2 FP.M (by decide)]
 kernel_rfl
theorem Wb (a:Fq):aL (i2 a)=i2 a:=Prod.ext rfl (bU F1)
theorem aXX (x:Q2):bR F2 x FP.M=aL x:=by
 conv=>lhs; rw[aQL x]
 rw[Wj F2 aNB ch2,nQ,nR F1 F2 i2 rfl Ov,nR F1 F2 i2 rfl Ov,p1,p1,bEV]
 conv=>rhs; rw[aQL x,mF,iP,Wb,Wb]
def i6 (a:Q2):Q6:=(a,F2.zero,F2.zero)
theorem Ou (a b:Q2):i6 (F2.mul a b)=F6.mul (i6 a) (i6 b):=by
 show _=F6.mul (i6 a) (b,F2.zero,F2.zero);rw[Vh];refine Prod.ext rfl (Prod.ext ?_ ?_)<;>exact (F2.zero_mul _).symm
theorem aIj (a:Q2):PQ (i6 a)=i6 (aL a):=by
 rw[UG];have h:aL F2.zero=F2.zero:=by decide
 refine Prod.ext rfl (Prod.ext ?_ ?_)
 ·show F2.mul (aL F2.zero) _=F2.zero; rw[h,F2.zero_mul]
 ·show F2.mul (aL F2.zero) _=F2.zero; rw[h,F2.zero_mul]
theorem aQK (x:Q6):x=F6.add (i6 x.1) (F6.add (F6.mul (i6 x.2.1) vE) (F6.mul (i6 x.2.2) (F6.mul vE vE))):=by
 have h1:∀c:Q2,F6.mul (i6 c) vE=(F2.zero,c,F2.zero):=fun c=>by
  rw[F6.mul_comm,zW];show (F2.mul F2.zero dJ,c,F2.zero)=_;rw[F2.zero_mul]
 have h2:∀c:Q2,F6.mul (i6 c) (F6.mul vE vE)=(F2.zero,F2.zero,c):=fun c=>by
  rw[←F6.mul_assoc,h1,F6.mul_comm,zW];show (F2.mul F2.zero dJ,F2.zero,c)=_;rw[F2.zero_mul]
 rw[h1,h2];refine Prod.ext ?_ (Prod.ext ?_ ?_)
 ·show x.1=F2.add x.1 (F2.add F2.zero F2.zero); rw[F2.add_zero,F2.add_zero]
 ·show x.2.1=F2.add F2.zero (F2.add x.2.1 F2.zero); rw[F2.add_zero,F2.zero_add]
 ·show x.2.2=F2.add F2.zero (F2.add F2.zero x.2.2); rw[F2.zero_add,F2.zero_add]
theorem v_p:bR F6 vE FP.M=PQ vE:=by
 rw[←Tg F6 256 vE FP.M (by decide)]
 kernel_rfl
theorem p6 (x:Q6):bR F6 x FP.M=PQ x:=by
 conv=>lhs; rw[aQK x]
 rw[Wj F6 aNB ch6,Wj F6 aNB ch6,nQ,nQ,nQ,nR F2 F6 i6 rfl Ou,nR F2 F6 i6 rfl Ou,nR F2 F6 i6 rfl Ou,aXX,aXX,aXX,v_p]
 conv=>rhs; rw[aQK x,wD,wD,pN,pN,pN,aIj,aIj,aIj]
def i12 (a:Q6):aQ:=(a,F6.zero)
def wE:aQ:=(F6.zero,F6.one)
theorem Wc (a b:Q6):i12 (F6.mul a b)=aF.mul (i12 a) (i12 b):=by
 refine Prod.ext ?_ ?_
 ·show F6.mul a b=F6.add (F6.mul a b) (F6.mul _ (F6.mul F6.zero F6.zero)); rw[F6.mul_zero,F6.mul_zero,F6.add_zero]
 ·show F6.zero=F6.add (F6.mul a F6.zero) (F6.mul F6.zero b); rw[F6.mul_zero,F6.zero_mul,F6.add_zero]
theorem aFB (x:aQ):x=aF.add (i12 x.1) (aF.mul (i12 x.2) wE):=by
 refine Prod.ext ?_ ?_
 ·show x.1=F6.add x.1 (F6.add (F6.mul x.2 F6.zero) (F6.mul _ (F6.mul F6.zero F6.one))); rw[F6.mul_zero,F6.zero_mul,F6.mul_zero,F6.add_zero,F6.add_zero]
 ·show x.2=F6.add F6.zero (F6.add (F6.mul x.2 F6.one) (F6.mul F6.zero F6.zero)); rw[F6.mul_one,F6.mul_zero,F6.add_zero,F6.zero_add]
theorem aGz:PQ F6.zero=F6.zero:=by decide
theorem aGA (x y:aQ):dE (aF.add x y)=aF.add (dE x) (dE y):=by
 rw[sR,sR,sR];refine Prod.ext (wD _ _) ?_;show F6.mul (PQ (F6.add x.2 y.2)) tau=F6.add _ _;rw[wD,F6.add_mul]
theorem aIk (a:Q6):dE (i12 a)=i12 (PQ a):=by
 rw[sR];refine Prod.ext rfl ?_;show F6.mul (PQ F6.zero) tau=F6.zero;rw[aGz,F6.zero_mul]
theorem w_p:bR aF wE FP.M=dE wE:=by
 rw[←Tg aF 256 wE FP.M (by decide)]
 kernel_rfl
theorem p12 (x:aQ):bR aF x FP.M=dE x:=by
 conv=>lhs; rw[aFB x]
 rw[Wj aF aNB bHa,nQ,nR F6 aF i12 rfl Wc,nR F6 aF i12 rfl Wc,p6,p6,w_p]
 conv=>rhs; rw[aFB x,aGA,oM,aIk,aIk]
theorem ZN {R:Type} (K:CR R) {a b:R} (h:K.sub a b=K.zero):a=b:=by
 have h1:K.add (K.add a (K.neg b)) b=b:=by
  rw[show K.add a (K.neg b)=K.zero from h,K.zero_add]
 rw[K.add_assoc,K.neg_add,K.add_zero]at h1;exact h1
theorem BS {R:Type} (K:CR R) (a:R):K.sub a a=K.zero:=K.add_neg a
set_option maxRecDepth 10000
theorem aPJ {R:Type} (K:CR R) (c0 c1 c2 c3 c4 c5 q z:R):(K.add (K.add (K.mul (K.mul K.one c0) c0) (K.mul q (K.add (K.mul (K.mul (K.neg z) c2) c4) (K.mul (K.mul (K.sub z K.one) c4) c2)))) (K.mul (K.add (K.add (K.mul (K.mul (K.sub z K.one) c1) c5) (K.mul (K.mul K.one c3) c3)) (K.mul (K.mul (K.neg z) c5) c1)) q))=(K.add (K.mul K.one c0) (K.mul K.one (K.sub (K.sub (K.add (K.mul c0 c0) (K.mul q (K.mul c3 c3))) (K.mul (K.add (K.mul c1 c5) (K.mul c4 c2)) q)) c0))) :=
 aG K (aV K [c0,c1,c2,c3,c4,c5,q,z]) (RE.one*Z0*Z0+Z6*((-Z7)*Z2*Z4+(Z7-RE.one)*Z4*Z2)+((Z7-RE.one)*Z1*Z5+RE.one*Z3*Z3+(-Z7)*Z5*Z1)*Z6) (RE.one*Z0+RE.one*(Z0*Z0+Z6*(Z3*Z3)-(Z1*Z5+Z4*Z2)*Z6-Z0)) (by decide)
theorem aPI {R:Type} (K:CR R) (c0 c1 c2 c3 c4 c5 q z:R):(K.add (K.add (K.mul (K.mul K.one c0) c1) (K.mul q (K.add (K.mul (K.mul (K.neg z) c2) c5) (K.mul (K.mul (K.sub z K.one) c4) c3)))) (K.add (K.mul (K.mul (K.sub z K.one) c1) c0) (K.mul q (K.add (K.mul (K.mul K.one c3) c4) (K.mul (K.mul (K.neg z) c5) c2)))))=(K.add (K.mul z c1) (K.mul z (K.sub (K.sub (K.add (K.mul c0 c1) (K.mul q (K.mul c3 c4))) (K.mul (K.add (K.mul c2 c5) (K.mul c5 c2)) q)) c1))) :=
 aG K (aV K [c0,c1,c2,c3,c4,c5,q,z]) (RE.one*Z0*Z1+Z6*((-Z7)*Z2*Z5+(Z7-RE.one)*Z4*Z3)+((Z7-RE.one)*Z1*Z0+Z6*(RE.one*Z3*Z4+(-Z7)*Z5*Z2))) (Z7*Z1+Z7*(Z0*Z1+Z6*(Z3*Z4)-(Z2*Z5+Z5*Z2)*Z6-Z1)) (by decide)
theorem aPH {R:Type} (K:CR R) (c0 c1 c2 c3 c4 c5 q z:R):(K.add (K.add (K.add (K.mul (K.mul K.one c0) c2) (K.mul (K.mul (K.neg z) c2) c0)) (K.mul q (K.mul (K.mul (K.sub z K.one) c4) c4))) (K.add (K.mul (K.mul (K.sub z K.one) c1) c1) (K.mul q (K.add (K.mul (K.mul K.one c3) c5) (K.mul (K.mul (K.neg z) c5) c3)))))=(K.add (K.mul (K.sub z K.one) c2) (K.mul (K.sub z K.one) (K.sub (K.sub (K.add (K.mul c1 c1) (K.mul q (K.mul c4 c4))) (K.add (K.mul c0 c2) (K.mul q (K.mul c3 c5)))) c2))) :=
 aG K (aV K [c0,c1,c2,c3,c4,c5,q,z]) (RE.one*Z0*Z2+(-Z7)*Z2*Z0+Z6*((Z7-RE.one)*Z4*Z4)+((Z7-RE.one)*Z1*Z1+Z6*(RE.one*Z3*Z5+(-Z7)*Z5*Z3))) ((Z7-RE.one)*Z2+(Z7-RE.one)*(Z1*Z1+Z6*(Z4*Z4)-(Z0*Z2+Z6*(Z3*Z5))-Z2)) (by decide)
theorem aPG {R:Type} (K:CR R) (c0 c1 c2 c3 c4 c5 q z:R):(K.add (K.add (K.add (K.mul (K.mul K.one c0) c3) (K.mul (K.mul (K.neg z) c2) c1)) (K.mul q (K.mul (K.mul (K.sub z K.one) c4) c5))) (K.add (K.add (K.mul (K.mul (K.sub z K.one) c1) c2) (K.mul (K.mul K.one c3) c0)) (K.mul q (K.mul (K.mul (K.neg z) c5) c4))))=(K.add (K.mul (K.neg K.one) c3) (K.mul K.one (K.sub (K.sub (K.add (K.mul c0 c3) (K.mul c3 c0)) (K.add (K.mul c1 c2) (K.mul q (K.mul c4 c5)))) (K.sub K.zero c3)))) :=
 aG K (aV K [c0,c1,c2,c3,c4,c5,q,z]) (RE.one*Z0*Z3+(-Z7)*Z2*Z1+Z6*((Z7-RE.one)*Z4*Z5)+((Z7-RE.one)*Z1*Z2+RE.one*Z3*Z0+Z6*((-Z7)*Z5*Z4))) ((-RE.one)*Z3+RE.one*(Z0*Z3+Z3*Z0-(Z1*Z2+Z6*(Z4*Z5))-(RE.zero-Z3))) (by decide)
theorem aPF {R:Type} (K:CR R) (c0 c1 c2 c3 c4 c5 q z:R):(K.add (K.add (K.add (K.mul (K.mul K.one c0) c4) (K.mul (K.mul (K.neg z) c2) c2)) (K.mul (K.mul (K.sub z K.one) c4) c0)) (K.add (K.add (K.mul (K.mul (K.sub z K.one) c1) c3) (K.mul (K.mul K.one c3) c1)) (K.mul q (K.mul (K.mul (K.neg z) c5) c5))))=(K.add (K.mul (K.neg z) c4) (K.mul z (K.sub (K.sub (K.add (K.mul c0 c4) (K.mul c3 c1)) (K.add (K.mul c2 c2) (K.mul q (K.mul c5 c5)))) (K.sub K.zero c4)))) :=
 aG K (aV K [c0,c1,c2,c3,c4,c5,q,z]) (RE.one*Z0*Z4+(-Z7)*Z2*Z2+(Z7-RE.one)*Z4*Z0+((Z7-RE.one)*Z1*Z3+RE.one*Z3*Z1+Z6*((-Z7)*Z5*Z5))) ((-Z7)*Z4+Z7*(Z0*Z4+Z3*Z1-(Z2*Z2+Z6*(Z5*Z5))-(RE.zero-Z4))) (by decide)
theorem aPE {R:Type} (K:CR R) (c0 c1 c2 c3 c4 c5 q z:R):(K.add (K.add (K.add (K.mul (K.mul K.one c0) c5) (K.mul (K.mul (K.neg z) c2) c3)) (K.mul (K.mul (K.sub z K.one) c4) c1)) (K.add (K.add (K.mul (K.mul (K.sub z K.one) c1) c4) (K.mul (K.mul K.one c3) c2)) (K.mul (K.mul (K.neg z) c5) c0)))=(K.add (K.mul (K.sub K.one z) c5) (K.mul (K.sub z K.one) (K.sub (K.sub (K.add (K.mul c1 c4) (K.mul c4 c1)) (K.add (K.mul c0 c5) (K.mul c3 c2))) (K.sub K.zero c5)))) :=
 aG K (aV K [c0,c1,c2,c3,c4,c5,q,z]) (RE.one*Z0*Z5+(-Z7)*Z2*Z3+(Z7-RE.one)*Z4*Z1+((Z7-RE.one)*Z1*Z4+RE.one*Z3*Z2+(-Z7)*Z5*Z0)) ((RE.one-Z7)*Z5+(Z7-RE.one)*(Z1*Z4+Z4*Z1-(Z0*Z5+Z3*Z2)-(RE.zero-Z5))) (by decide)
theorem aLX {R:Type} (K:CR R) (c0 c1 c2 c3 c4 c5 q z:R):(K.add (K.add (K.sub (K.add (K.mul c0 c0) (K.mul q (K.mul c3 c3))) c0) (K.sub (K.add (K.mul c0 c0) (K.mul q (K.mul c3 c3))) c0)) (K.add (K.mul c0 c0) (K.mul q (K.mul c3 c3))))=(K.add (K.add (K.add (K.mul c0 c0) (K.mul q (K.add (K.mul c2 c4) (K.mul c4 c2)))) (K.mul (K.add (K.add (K.mul c1 c5) (K.mul c3 c3)) (K.mul c5 c1)) q)) (K.add (K.sub (K.sub (K.add (K.mul c0 c0) (K.mul q (K.mul c3 c3))) (K.mul (K.add (K.mul c1 c5) (K.mul c4 c2)) q)) c0) (K.sub (K.sub (K.add (K.mul c0 c0) (K.mul q (K.mul c3 c3))) (K.mul (K.add (K.mul c1 c5) (K.mul c4 c2)) q)) c0))) :=
 aG K (aV K [c0,c1,c2,c3,c4,c5,q,z]) (Z0*Z0+Z6*(Z3*Z3)-Z0+(Z0*Z0+Z6*(Z3*Z3)-Z0)+(Z0*Z0+Z6*(Z3*Z3))) (Z0*Z0+Z6*(Z2*Z4+Z4*Z2)+(Z1*Z5+Z3*Z3+Z5*Z1)*Z6+(Z0*Z0+Z6*(Z3*Z3)-(Z1*Z5+Z4*Z2)*Z6-Z0+(Z0*Z0+Z6*(Z3*Z3)-(Z1*Z5+Z4*Z2)*Z6-Z0))) (by decide)
theorem aLW {R:Type} (K:CR R) (c0 c1 c2 c3 c4 c5 q z:R):(K.add (K.add (K.sub (K.mul (K.add (K.mul c2 c5) (K.mul c5 c2)) q) (K.sub K.zero c1)) (K.sub (K.mul (K.add (K.mul c2 c5) (K.mul c5 c2)) q) (K.sub K.zero c1))) (K.mul (K.add (K.mul c2 c5) (K.mul c5 c2)) q))=(K.sub (K.add (K.add (K.mul c0 c1) (K.mul q (K.add (K.mul c2 c5) (K.mul c4 c3)))) (K.add (K.mul c1 c0) (K.mul q (K.add (K.mul c3 c4) (K.mul c5 c2))))) (K.add (K.sub (K.sub (K.add (K.mul c0 c1) (K.mul q (K.mul c3 c4))) (K.mul (K.add (K.mul c2 c5) (K.mul c5 c2)) q)) c1) (K.sub (K.sub (K.add (K.mul c0 c1) (K.mul q (K.mul c3 c4))) (K.mul (K.add (K.mul c2 c5) (K.mul c5 c2)) q)) c1))) :=
 aG K (aV K [c0,c1,c2,c3,c4,c5,q,z]) ((Z2*Z5+Z5*Z2)*Z6-(RE.zero-Z1)+((Z2*Z5+Z5*Z2)*Z6-(RE.zero-Z1))+(Z2*Z5+Z5*Z2)*Z6) (Z0*Z1+Z6*(Z2*Z5+Z4*Z3)+(Z1*Z0+Z6*(Z3*Z4+Z5*Z2))-(Z0*Z1+Z6*(Z3*Z4)-(Z2*Z5+Z5*Z2)*Z6-Z1+(Z0*Z1+Z6*(Z3*Z4)-(Z2*Z5+Z5*Z2)*Z6-Z1))) (by decide)
theorem aLV {R:Type} (K:CR R) (c0 c1 c2 c3 c4 c5 q z:R):(K.add (K.add (K.sub (K.add (K.mul c1 c1) (K.mul q (K.mul c4 c4))) c2) (K.sub (K.add (K.mul c1 c1) (K.mul q (K.mul c4 c4))) c2)) (K.add (K.mul c1 c1) (K.mul q (K.mul c4 c4))))=(K.add (K.add (K.add (K.add (K.mul c0 c2) (K.mul c2 c0)) (K.mul q (K.mul c4 c4))) (K.add (K.mul c1 c1) (K.mul q (K.add (K.mul c3 c5) (K.mul c5 c3))))) (K.add (K.sub (K.sub (K.add (K.mul c1 c1) (K.mul q (K.mul c4 c4))) (K.add (K.mul c0 c2) (K.mul q (K.mul c3 c5)))) c2) (K.sub (K.sub (K.add (K.mul c1 c1) (K.mul q (K.mul c4 c4))) (K.add (K.mul c0 c2) (K.mul q (K.mul c3 c5)))) c2))) :=
 aG K (aV K [c0,c1,c2,c3,c4,c5,q,z]) (Z1*Z1+Z6*(Z4*Z4)-Z2+(Z1*Z1+Z6*(Z4*Z4)-Z2)+(Z1*Z1+Z6*(Z4*Z4))) (Z0*Z2+Z2*Z0+Z6*(Z4*Z4)+(Z1*Z1+Z6*(Z3*Z5+Z5*Z3))+(Z1*Z1+Z6*(Z4*Z4)-(Z0*Z2+Z6*(Z3*Z5))-Z2+(Z1*Z1+Z6*(Z4*Z4)-(Z0*Z2+Z6*(Z3*Z5))-Z2))) (by decide)
theorem aLU {R:Type} (K:CR R) (c0 c1 c2 c3 c4 c5 q z:R):(K.add (K.add (K.sub (K.add (K.mul c0 c3) (K.mul c3 c0)) (K.sub K.zero c3)) (K.sub (K.add (K.mul c0 c3) (K.mul c3 c0)) (K.sub K.zero c3))) (K.add (K.mul c0 c3) (K.mul c3 c0)))=(K.add (K.add (K.add (K.add (K.mul c0 c3) (K.mul c2 c1)) (K.mul q (K.mul c4 c5))) (K.add (K.add (K.mul c1 c2) (K.mul c3 c0)) (K.mul q (K.mul c5 c4)))) (K.add (K.sub (K.sub (K.add (K.mul c0 c3) (K.mul c3 c0)) (K.add (K.mul c1 c2) (K.mul q (K.mul c4 c5)))) (K.sub K.zero c3)) (K.sub (K.sub (K.add (K.mul c0 c3) (K.mul c3 c0)) (K.add (K.mul c1 c2) (K.mul q (K.mul c4 c5)))) (K.sub K.zero c3)))) :=
 aG K (aV K [c0,c1,c2,c3,c4,c5,q,z]) (Z0*Z3+Z3*Z0-(RE.zero-Z3)+(Z0*Z3+Z3*Z0-(RE.zero-Z3))+(Z0*Z3+Z3*Z0)) (Z0*Z3+Z2*Z1+Z6*(Z4*Z5)+(Z1*Z2+Z3*Z0+Z6*(Z5*Z4))+(Z0*Z3+Z3*Z0-(Z1*Z2+Z6*(Z4*Z5))-(RE.zero-Z3)+(Z0*Z3+Z3*Z0-(Z1*Z2+Z6*(Z4*Z5))-(RE.zero-Z3)))) (by decide)
theorem aLT {R:Type} (K:CR R) (c0 c1 c2 c3 c4 c5 q z:R):(K.add (K.add (K.sub (K.add (K.mul c2 c2) (K.mul q (K.mul c5 c5))) (K.sub K.zero (K.sub K.zero c4))) (K.sub (K.add (K.mul c2 c2) (K.mul q (K.mul c5 c5))) (K.sub K.zero (K.sub K.zero c4)))) (K.add (K.mul c2 c2) (K.mul q (K.mul c5 c5))))=(K.sub (K.add (K.add (K.add (K.mul c0 c4) (K.mul c2 c2)) (K.mul c4 c0)) (K.add (K.add (K.mul c1 c3) (K.mul c3 c1)) (K.mul q (K.mul c5 c5)))) (K.add (K.sub (K.sub (K.add (K.mul c0 c4) (K.mul c3 c1)) (K.add (K.mul c2 c2) (K.mul q (K.mul c5 c5)))) (K.sub K.zero c4)) (K.sub (K.sub (K.add (K.mul c0 c4) (K.mul c3 c1)) (K.add (K.mul c2 c2) (K.mul q (K.mul c5 c5)))) (K.sub K.zero c4)))) :=
 aG K (aV K [c0,c1,c2,c3,c4,c5,q,z]) (Z2*Z2+Z6*(Z5*Z5)-(RE.zero-(RE.zero-Z4))+(Z2*Z2+Z6*(Z5*Z5)-(RE.zero-(RE.zero-Z4)))+(Z2*Z2+Z6*(Z5*Z5))) (Z0*Z4+Z2*Z2+Z4*Z0+(Z1*Z3+Z3*Z1+Z6*(Z5*Z5))-(Z0*Z4+Z3*Z1-(Z2*Z2+Z6*(Z5*Z5))-(RE.zero-Z4)+(Z0*Z4+Z3*Z1-(Z2*Z2+Z6*(Z5*Z5))-(RE.zero-Z4)))) (by decide)
theorem aLS {R:Type} (K:CR R) (c0 c1 c2 c3 c4 c5 q z:R):(K.add (K.add (K.sub (K.add (K.mul c1 c4) (K.mul c4 c1)) (K.sub K.zero c5)) (K.sub (K.add (K.mul c1 c4) (K.mul c4 c1)) (K.sub K.zero c5))) (K.add (K.mul c1 c4) (K.mul c4 c1)))=(K.add (K.add (K.add (K.add (K.mul c0 c5) (K.mul c2 c3)) (K.mul c4 c1)) (K.add (K.add (K.mul c1 c4) (K.mul c3 c2)) (K.mul c5 c0))) (K.add (K.sub (K.sub (K.add (K.mul c1 c4) (K.mul c4 c1)) (K.add (K.mul c0 c5) (K.mul c3 c2))) (K.sub K.zero c5)) (K.sub (K.sub (K.add (K.mul c1 c4) (K.mul c4 c1)) (K.add (K.mul c0 c5) (K.mul c3 c2))) (K.sub K.zero c5)))) :=
 aG K (aV K [c0,c1,c2,c3,c4,c5,q,z]) (Z1*Z4+Z4*Z1-(RE.zero-Z5)+(Z1*Z4+Z4*Z1-(RE.zero-Z5))+(Z1*Z4+Z4*Z1)) (Z0*Z5+Z2*Z3+Z4*Z1+(Z1*Z4+Z3*Z2+Z5*Z0)+(Z1*Z4+Z4*Z1-(Z0*Z5+Z3*Z2)-(RE.zero-Z5)+(Z1*Z4+Z4*Z1-(Z0*Z5+Z3*Z2)-(RE.zero-Z5)))) (by decide)
def zE:Q2:=(Si,F1.zero)
theorem tt0 (c:Q2):qY (qY c sn0) sn0=F2.mul F2.one c:=by
 rw[fD,fD,F2.mul_assoc,F2.mul_comm];rw[show F2.mul (sn0,F1.zero) (sn0,F1.zero)=F2.one by decide]
theorem tu0 (c:Q2):qY c sn0=F2.mul F2.one c:=by
 rw[fD,F2.mul_comm];rw[show (sn0,F1.zero)=F2.one by decide]
theorem tt1 (c:Q2):qY (qY c Si) Si=F2.mul (F2.sub zE F2.one) c:=by
 rw[fD,fD,F2.mul_assoc,F2.mul_comm];rw[show F2.mul (Si,F1.zero) (Si,F1.zero)=(F2.sub zE F2.one) by decide]
theorem tu1 (c:Q2):qY c Si=F2.mul zE c:=by
 rw[fD,F2.mul_comm];rw[show (Si,F1.zero)=zE by decide]
theorem tt2 (c:Q2):qY (qY c sn2) sn2=F2.mul (F2.neg zE) c:=by
 rw[fD,fD,F2.mul_assoc,F2.mul_comm];rw[show F2.mul (sn2,F1.zero) (sn2,F1.zero)=(F2.neg zE) by decide]
theorem tu2 (c:Q2):qY c sn2=F2.mul (F2.sub zE F2.one) c:=by
 rw[fD,F2.mul_comm];rw[show (sn2,F1.zero)=(F2.sub zE F2.one) by decide]
theorem tt3 (c:Q2):qY (qY c sn3) sn3=F2.mul F2.one c:=by
 rw[fD,fD,F2.mul_assoc,F2.mul_comm];rw[show F2.mul (sn3,F1.zero) (sn3,F1.zero)=F2.one by decide]
theorem tu3 (c:Q2):qY c sn3=F2.mul (F2.neg F2.one) c:=by
 rw[fD,F2.mul_comm];rw[show (sn3,F1.zero)=(F2.neg F2.one) by decide]
theorem tt4 (c:Q2):qY (qY c Zz) Zz=F2.mul (F2.sub zE F2.one) c:=by
 rw[fD,fD,F2.mul_assoc,F2.mul_comm];rw[show F2.mul (Zz,F1.zero) (Zz,F1.zero)=(F2.sub zE F2.one) by decide]
theorem tu4 (c:Q2):qY c Zz=F2.mul (F2.neg zE) c:=by
 rw[fD,F2.mul_comm];rw[show (Zz,F1.zero)=(F2.neg zE) by decide]
theorem tt5 (c:Q2):qY (qY c Zy) Zy=F2.mul (F2.neg zE) c:=by
 rw[fD,fD,F2.mul_assoc,F2.mul_comm];rw[show F2.mul (Zy,F1.zero) (Zy,F1.zero)=(F2.neg zE) by decide]
theorem tu5 (c:Q2):qY c Zy=F2.mul (F2.sub F2.one zE) c:=by
 rw[fD,F2.mul_comm];rw[show (Zy,F1.zero)=(F2.sub F2.one zE) by decide]
theorem DI {R:Type} (K:CR R) {L R' Z Zi A B:R} (h:L=K.add R' (K.mul Z (K.sub A B))) (hz:K.mul Zi Z=K.one):L=R'↔A=B:=by
 constructor
 ·intro e;rw[e]at h;have h1:K.mul Z (K.sub A B)=K.zero:=by
   have h2:K.add R' (K.mul Z (K.sub A B))=K.add R' K.zero:=by rw[←h,K.add_zero]
   exact K.add_cancel h2
  have h3:K.sub A B=K.zero:=by
   rw[←K.one_mul (K.sub A B),←hz,K.mul_assoc,h1,K.mul_zero]
  exact ZN K h3
 ·intro e;rw[h,e,BS,K.mul_zero,K.add_zero]
abbrev Q4:=Q2×Q2
def F4:CR Q4:=F2.sq dJ
def s4 (a:Q4):Q4:=(F2.mul a.2 dJ,a.1)
def RP (a:Q4):Q4:=(a.1,F2.sub F2.zero a.2)
def aDG (a b:Q4):Q4:=(F2.add (F2.add (F2.sub a.1 b.1) (F2.sub a.1 b.1)) a.1,F2.add (F2.add (F2.sub a.2 b.2) (F2.sub a.2 b.2)) a.2)
def fX (x:aQ):Q4:=(x.1.1,x.2.2.1)
def fY (x:aQ):Q4:=(x.2.1,x.1.2.2)
def fZ (x:aQ):Q4:=(x.1.2.1,x.2.2.2)
def aHX (x y z:Q4):aQ:=((x.1,z.1,y.2),(y.1,x.2,z.2))
def aIh (x:aQ):Prop:=F4.sub (F4.mul (fX x) (fX x)) (s4 (F4.mul (fY x) (fZ x)))=RP (fX x)
def aIg (x:aQ):Prop:=F4.sub (F4.mul (fX x) (fY x)) (s4 (F4.mul (fZ x) (fZ x)))=RP (fY x)
def aIf (x:aQ):Prop:=F4.sub (F4.mul (fY x) (fY x)) (F4.mul (fX x) (fZ x))=RP (fZ x)
def bAU (x:aQ):aQ:=aHX (aDG (F4.mul (fX x) (fX x)) (RP (fX x))) (aDG (s4 (F4.mul (fZ x) (fZ x))) (F4.sub F4.zero (RP (fY x)))) (aDG (F4.mul (fY x) (fY x)) (RP (fZ x)))
theorem pQ (x y:aQ):aF.mul x y=(((F2.add (F2.add (F2.mul x.1.1 y.1.1) (F2.mul dJ (F2.add (F2.mul x.1.2.1 y.1.2.2) (F2.mul x.1.2.2 y.1.2.1)))) (F2.mul (F2.add (F2.add (F2.mul x.2.1 y.2.2.2) (F2.mul x.2.2.1 y.2.2.1)) (F2.mul x.2.2.2 y.2.1)) dJ)),(F2.add (F2.add (F2.add (F2.mul x.1.1 y.1.2.1) (F2.mul x.1.2.1 y.1.1)) (F2.mul dJ (F2.mul x.1.2.2 y.1.2.2))) (F2.add (F2.mul x.2.1 y.2.1) (F2.mul dJ (F2.add (F2.mul x.2.2.1 y.2.2.2) (F2.mul x.2.2.2 y.2.2.1))))),(F2.add (F2.add (F2.add (F2.mul x.1.1 y.1.2.2) (F2.mul x.1.2.1 y.1.2.1)) (F2.mul x.1.2.2 y.1.1)) (F2.add (F2.add (F2.mul x.2.1 y.2.2.1) (F2.mul x.2.2.1 y.2.1)) (F2.mul dJ (F2.mul x.2.2.2 y.2.2.2))))),((F2.add (F2.add (F2.mul x.1.1 y.2.1) (F2.mul dJ (F2.add (F2.mul x.1.2.1 y.2.2.2) (F2.mul x.1.2.2 y.2.2.1)))) (F2.add (F2.mul x.2.1 y.1.1) (F2.mul dJ (F2.add (F2.mul x.2.2.1 y.1.2.2) (F2.mul x.2.2.2 y.1.2.1))))),(F2.add (F2.add (F2.add (F2.mul x.1.1 y.2.2.1) (F2.mul x.1.2.1 y.2.1)) (F2.mul dJ (F2.mul x.1.2.2 y.2.2.2))) (F2.add (F2.add (F2.mul x.2.1 y.1.2.1) (F2.mul x.2.2.1 y.1.1)) (F2.mul dJ (F2.mul x.2.2.2 y.1.2.2)))),(F2.add (F2.add (F2.add (F2.mul x.1.1 y.2.2.2) (F2.mul x.1.2.1 y.2.2.1)) (F2.mul x.1.2.2 y.2.1)) (F2.add (F2.add (F2.mul x.2.1 y.1.2.2) (F2.mul x.2.2.1 y.1.2.1)) (F2.mul x.2.2.2 y.1.1))))):=by
 refine Prod.ext ?_ rfl;show F6.add (F6.mul x.1 y.1) (F6.mul vE (F6.mul x.2 y.2))=_;rw[zW];rfl
theorem bFb (x:aQ):aF.mul (cW (cW x)) x=(((F2.add (F2.add (F2.mul (F2.mul F2.one x.1.1) x.1.1) (F2.mul dJ (F2.add (F2.mul (F2.mul (F2.neg zE) x.1.2.1) x.1.2.2) (F2.mul (F2.mul (F2.sub zE F2.one) x.1.2.2) x.1.2.1)))) (F2.mul (F2.add (F2.add (F2.mul (F2.mul (F2.sub zE F2.one) x.2.1) x.2.2.2) (F2.mul (F2.mul F2.one x.2.2.1) x.2.2.1)) (F2.mul (F2.mul (F2.neg zE) x.2.2.2) x.2.1)) dJ)),(F2.add (F2.add (F2.add (F2.mul (F2.mul F2.one x.1.1) x.1.2.1) (F2.mul (F2.mul (F2.neg zE) x.1.2.1) x.1.1)) (F2.mul dJ (F2.mul (F2.mul (F2.sub zE F2.one) x.1.2.2) x.1.2.2))) (F2.add (F2.mul (F2.mul (F2.sub zE F2.one) x.2.1) x.2.1) (F2.mul dJ (F2.add (F2.mul (F2.mul F2.one x.2.2.1) x.2.2.2) (F2.mul (F2.mul (F2.neg zE) x.2.2.2) x.2.2.1))))),(F2.add (F2.add (F2.add (F2.mul (F2.mul F2.one x.1.1) x.1.2.2) (F2.mul (F2.mul (F2.neg zE) x.1.2.1) x.1.2.1)) (F2.mul (F2.mul (F2.sub zE F2.one) x.1.2.2) x.1.1)) (F2.add (F2.add (F2.mul (F2.mul (F2.sub zE F2.one) x.2.1) x.2.2.1) (F2.mul (F2.mul F2.one x.2.2.1) x.2.1)) (F2.mul dJ (F2.mul (F2.mul (F2.neg zE) x.2.2.2) x.2.2.2))))),((F2.add (F2.add (F2.mul (F2.mul F2.one x.1.1) x.2.1) (F2.mul dJ (F2.add (F2.mul (F2.mul (F2.neg zE) x.1.2.1) x.2.2.2) (F2.mul (F2.mul (F2.sub zE F2.one) x.1.2.2) x.2.2.1)))) (F2.add (F2.mul (F2.mul (F2.sub zE F2.one) x.2.1) x.1.1) (F2.mul dJ (F2.add (F2.mul (F2.mul F2.one x.2.2.1) x.1.2.2) (F2.mul (F2.mul (F2.neg zE) x.2.2.2) x.1.2.1))))),(F2.add (F2.add (F2.add (F2.mul (F2.mul F2.one x.1.1) x.2.2.1) (F2.mul (F2.mul (F2.neg zE) x.1.2.1) x.2.1)) (F2.mul dJ (F2.mul (F2.mul (F2.sub zE F2.one) x.1.2.2) x.2.2.2))) (F2.add (F2.add (F2.mul (F2.mul (F2.sub zE F2.one) x.2.1) x.1.2.1) (F2.mul (F2.mul F2.one x.2.2.1) x.1.1)) (F2.mul dJ (F2.mul (F2.mul (F2.neg zE) x.2.2.2) x.1.2.2)))),(F2.add (F2.add (F2.add (F2.mul (F2.mul F2.one x.1.1) x.2.2.2) (F2.mul (F2.mul (F2.neg zE) x.1.2.1) x.2.2.1)) (F2.mul (F2.mul (F2.sub zE F2.one) x.1.2.2) x.2.1)) (F2.add (F2.add (F2.mul (F2.mul (F2.sub zE F2.one) x.2.1) x.1.2.2) (F2.mul (F2.mul F2.one x.2.2.1) x.1.2.1)) (F2.mul (F2.mul (F2.neg zE) x.2.2.2) x.1.1))))):=by
 rw[show cW (cW x)=((F2.mul F2.one x.1.1,F2.mul (F2.neg zE) x.1.2.1,F2.mul (F2.sub zE F2.one) x.1.2.2),(F2.mul (F2.sub zE F2.one) x.2.1,F2.mul F2.one x.2.2.1,F2.mul (F2.neg zE) x.2.2.2))from Prod.ext (Prod.ext (tt0 _) (Prod.ext (tt2 _) (tt4 _))) (Prod.ext (tt1 _) (Prod.ext (tt3 _) (tt5 _)))];exact pQ _ _
theorem bFa (x:aQ):cW x=(((F2.mul F2.one x.1.1),(F2.mul (F2.sub zE F2.one) x.1.2.1),(F2.mul (F2.neg zE) x.1.2.2)),((F2.mul zE x.2.1),(F2.mul (F2.neg F2.one) x.2.2.1),(F2.mul (F2.sub F2.one zE) x.2.2.2))):=Prod.ext (Prod.ext (tu0 _) (Prod.ext (tu2 _) (tu4 _))) (Prod.ext (tu1 _) (Prod.ext (tu3 _) (tu5 _)))
theorem Tb {a0 a1 a2 a3 a4 a5 b0 b1 b2 b3 b4 b5:Q2}:(((a0,a2,a4),(a1,a3,a5)):aQ)=((b0,b2,b4),(b1,b3,b5))↔((a0=b0∧a3=b3)∧(a1=b1∧a4=b4)∧(a2=b2∧a5=b5)):=by
 simp only[Prod.mk.injEq];constructor
 ·rintro⟨⟨h0,h2,h4⟩,h1,h3,h5⟩
  exact⟨⟨h0,h3⟩,⟨h1,h4⟩,h2,h5⟩
 ·rintro⟨⟨h0,h3⟩,⟨h1,h4⟩,h2,h5⟩
  exact⟨⟨h0,h2,h4⟩,h1,h3,h5⟩
theorem CJ {a b:Q4}:a=b↔(a.1=b.1∧a.2=b.2):=⟨fun h=>by rw[h]; exact⟨rfl,rfl⟩,fun h=>Prod.ext h.1 h.2⟩
theorem Xh (x:aQ):aF.mul (cW (cW x)) x=cW x↔(aIh x∧aIg x∧aIf x):=by
 rw[bFb,bFa,Tb];unfold aIh aIg aIf;rw[CJ,CJ,CJ];have e0:=DI F2 (aPJ F2 x.1.1 x.2.1 x.1.2.1 x.2.2.1 x.1.2.2 x.2.2.2 dJ zE) (show F2.mul F2.one F2.one=F2.one by decide);have e1:=DI F2 (aPI F2 x.1.1 x.2.1 x.1.2.1 x.2.2.1 x.1.2.2 x.2.2.2 dJ zE) (show F2.mul (F2.sub F2.one zE) zE=F2.one by decide);have e2:=DI F2 (aPH F2 x.1.1 x.2.1 x.1.2.1 x.2.2.1 x.1.2.2 x.2.2.2 dJ zE) (show F2.mul (F2.neg zE) (F2.sub zE F2.one)=F2.one by decide);have e3:=DI F2 (aPG F2 x.1.1 x.2.1 x.1.2.1 x.2.2.1 x.1.2.2 x.2.2.2 dJ zE) (show F2.mul F2.one F2.one=F2.one by decide);have e4:=DI F2 (aPF F2 x.1.1 x.2.1 x.1.2.1 x.2.2.1 x.1.2.2 x.2.2.2 dJ zE) (show F2.mul (F2.sub F2.one zE) zE=F2.one by decide);have e5:=DI F2 (aPE F2 x.1.1 x.2.1 x.1.2.1 x.2.2.1 x.1.2.2 x.2.2.2 dJ zE) (show F2.mul (F2.neg zE) (F2.sub zE F2.one)=F2.one by decide);constructor
 ·rintro⟨⟨h0,h3⟩,⟨h1,h4⟩,h2,h5⟩
  exact⟨⟨e0.1 h0,e3.1 h3⟩,⟨e1.1 h1,e4.1 h4⟩,⟨e2.1 h2,e5.1 h5⟩⟩
 ·rintro⟨⟨h0,h3⟩,⟨h1,h4⟩,⟨h2,h5⟩⟩
  exact⟨⟨e0.2 h0,e3.2 h3⟩,⟨e1.2 h1,e4.2 h4⟩,⟨e2.2 h2,e5.2 h5⟩⟩
theorem WZ {R:Type} (K:CR R) {t s a b:R} (h:t=K.add s (K.add (K.sub a b) (K.sub a b))) (e:a=b):t=s:=by
 rw[h,e,BS,K.add_zero,K.add_zero]
theorem aEb {R:Type} (K:CR R) {t s a b:R} (h:t=K.sub s (K.add (K.sub a b) (K.sub a b))) (e:a=b):t=s:=by
 rw[h,e,BS,K.add_zero];show K.add s (K.neg K.zero)=s;rw[bU,K.add_zero]
theorem aUd (x:aQ) (h:aIh x∧aIg x∧aIf x):bAU x=aF.mul x x:=by
 unfold aIh aIg aIf at h;rw[CJ,CJ,CJ]at h;obtain⟨⟨h0,h3⟩,⟨h1,h4⟩,h2,h5⟩:=h;rw[pQ];have hz:aF.zero=aF.zero:=rfl;refine Tb.2 ⟨⟨?_,?_⟩,⟨?_,?_⟩,?_,?_⟩
 ·exact WZ F2 (aLX F2 x.1.1 x.2.1 x.1.2.1 x.2.2.1 x.1.2.2 x.2.2.2 dJ zE) h0
 ·exact WZ F2 (aLU F2 x.1.1 x.2.1 x.1.2.1 x.2.2.1 x.1.2.2 x.2.2.2 dJ zE) h3
 ·exact aEb F2 (aLW F2 x.1.1 x.2.1 x.1.2.1 x.2.2.1 x.1.2.2 x.2.2.2 dJ zE) h1
 ·exact aEb F2 (aLT F2 x.1.1 x.2.1 x.1.2.1 x.2.2.1 x.1.2.2 x.2.2.2 dJ zE) h4
 ·exact WZ F2 (aLV F2 x.1.1 x.2.1 x.1.2.1 x.2.2.1 x.1.2.2 x.2.2.2 dJ zE) h2
 ·exact WZ F2 (aLS F2 x.1.1 x.2.1 x.1.2.1 x.2.2.1 x.1.2.2 x.2.2.2 dJ zE) h5
def qT (x:aQ):Prop:=x≠aF.zero∧aF.mul (cW (cW x)) x=cW x
end Go.Proofs.YtglgakbkdjhojaaGreat.Ex
