/- Pc04 -/
import Derived.KernelRfl
import Derived.Test.YtglgakbkdjhojaaGreatPc03
import Derived.Test.YtglgakbkdjhojaaGreatPc00
import Derived.Test.YtglgakbkdjhojaaGreatProg
set_option maxRecDepth 100000
set_option linter.unusedVariables false
set_option linter.unusedSimpArgs false
noncomputable section
namespace Go.Proofs.YtglgakbkdjhojaaGreat.Ex
open Go.Proofs.Tryz
open Go.RowKit
def aJ (x:Q2):Q2:=(x.1,F1.neg x.2)
def qB (x:Q2) (k:Fq):Q2:=(F1.mul x.1 k,F1.mul x.2 k)
def sE (x:Q2):Fq:=F1.add (F1.mul x.1 x.1) (F1.mul x.2 x.2)
def dV (x:Q2):Q2:=qB (aJ x) (cT (sE x))
theorem Da (c:Bool) (x:Q2) (y:Q2):bN prog (oZ c) qN (fun _=>true) f180 40 [.v (.fl (e2 x)),.v (.fl (e2 y))]=some ([],.one (.fl (e2 (F2.add x y)))):=by kernel_rfl
def JT (c:Bool):Tab:=(oZ c).add 180 (g2 LE LE (fun x y=>([],.one (.fl (e2 (F2.add x y))))))
theorem MM (c:Bool) (hB:TabOk prog (oZ c)):TabOk prog (JT c):=(aVV c hB).ad func180 (fC fK fK fun x y hp args w ha=>aH aF (aVV c hB) aL func180 (Da c x y) hp ha)
theorem WI (c:Bool) (x:Q2) (y:Q2):bN prog (JT c) qN (fun _=>true) f181 40 [.v (.fl (e2 x)),.v (.fl (e2 y))]=some ([],.one (.fl (e2 (F2.sub x y)))):=by kernel_rfl
def BL (c:Bool):Tab:=(JT c).add 181 (g2 LE LE (fun x y=>([],.one (.fl (e2 (F2.sub x y))))))
theorem GW (c:Bool) (hB:TabOk prog (oZ c)):TabOk prog (BL c):=(MM c hB).ad func181 (fC fK fK fun x y hp args w ha=>aH aF (MM c hB) aL func181 (WI c x y) hp ha)
theorem Dd (c:Bool) (x:Q2):bN prog (BL c) qN (fun _=>true) f186 40 [.v (.fl (e2 x))]=some ([],.one (.fl (e2 (aJ x)))):=by kernel_rfl
def JU (c:Bool):Tab:=(BL c).add 186 (g1 LE (fun x=>([],.one (.fl (e2 (aJ x))))))
theorem MN (c:Bool) (hB:TabOk prog (oZ c)):TabOk prog (JU c):=(GW c hB).ad func186 (bM fK fun x hp args w ha=>aH aF (GW c hB) aL func186 (Dd c x) hp ha)
theorem PP (c:Bool) (x:Q2) (y:Fq):bN prog (JU c) qN (fun _=>true) f184 40 [.v (.fl (e2 x)),.v (.fl (e1 y))]=some ([],.one (.fl (e2 (qB x y)))):=by kernel_rfl
def wX (c:Bool):Tab:=(JU c).add 184 (g2 LE Ki (fun x y=>([],.one (.fl (e2 (qB x y))))))
theorem BW (c:Bool) (hB:TabOk prog (oZ c)):TabOk prog (wX c):=(MN c hB).ad func184 (fC fK lW fun x y hp args w ha=>aH aF (MN c hB) aL func184 (PP c x y) hp ha)
theorem Zc (c:Bool) (x:Q2):bN prog (wX c) qN (fun _=>true) f178 40 [.v (.fl (e2 x))]=some ([],.one (.fl (e2 ((F1.sub (F1.mul x.1 (fm 9)) x.2,F1.add (F1.mul x.2 (fm 9)) x.1))))):=by kernel_rfl
theorem aAq (x:Q2):F2.mul x dG=(F1.sub (F1.mul x.1 (fm 9)) x.2,F1.add (F1.mul x.2 (fm 9)) x.1):=by
 have h1:fm 1=F1.one:=by decide
 show (F1.add (F1.mul x.1 (fm 9)) (F1.mul (F1.neg F1.one) (F1.mul x.2 (fm 1))),F1.add (F1.mul x.1 (fm 1)) (F1.mul x.2 (fm 9)))=_;rw[h1,F1.mul_one,F1.mul_one,F1.neg_mul,F1.one_mul,F1.add_comm x.1];rfl
def Ie (c:Bool):Tab:=(wX c).add 178 (g1 LE (fun x=>([],.one (.fl (e2 (F2.mul x dG))))))
theorem Lf (c:Bool) (hB:TabOk prog (oZ c)):TabOk prog (Ie c):=(BW c hB).ad func178 (bM fK fun x hp args w ha=>by show Good _ _ (.one (.fl (e2 (F2.mul x dG)))) _ _; rw[aAq x]; exact aH aF (BW c hB) aL func178 (Zc c x) hp ha)
theorem Zr (c:Bool)  : bN prog (Ie c) qN (fun _=>true) f219 40 []=some ([],.one (.fl (e2 (F2.one)))):=by kernel_rfl
def Io (c:Bool):Tab:=(Ie c).add 219 (g0 (.one (.fl (e2 (F2.one)))))
theorem Lp (c:Bool) (hB:TabOk prog (oZ c)):TabOk prog (Io c):=(Lf c hB).ad func219 (gI fun w=>aH aF (Lf c hB) aL func219 (Zr c ) trivial (args:=[]) trivial)
theorem Db (c:Bool) (x:Q2):bN prog (Io c) qN (fun _=>true) f257 40 [.v (.fl (e2 x))]=some ([],.one (.fl (e1 (sE x)))):=by kernel_rfl
def yY (c:Bool):Tab:=(Io c).add 257 (g1 LE (fun x=>([],.one (.fl (e1 (sE x))))))
theorem AE (c:Bool) (hB:TabOk prog (oZ c)):TabOk prog (yY c):=(Lp c hB).ad func257 (bM fK fun x hp args w ha=>aH aF (Lp c hB) aL func257 (Db c x) hp ha)
theorem Rg (x:Q2):bN prog (yY true) qN (fun _=>true) f246 40 [.v (.fl (e2 x))]=some ([sE x≠F1.zero],.many [.fl (e2 (dV x)),.im (.int .i64 0)]):=by kernel_rfl
theorem Dc (x:Q2):bN prog (yY false) qN (fun _=>true) f246 40 [.v (.fl (e2 x))]=some ([sE x=F1.zero],.many [.fl (e2 F2.zero),.im (.int .i64 22)]):=by kernel_rfl
def aBW (c:Bool) (x:Q2):List Prop×RV:=bif c then ([sE x≠F1.zero],.many [.fl (e2 (dV x)),.im (.int .i64 0)])else ([sE x=F1.zero],.many [.fl (e2 F2.zero),.im (.int .i64 22)])
theorem aJe (c:Bool) (hB:TabOk prog (oZ c)) (x:Q2) (hp:aZ (aBW c x).1) (args:List Value) (w:World) (ha:bQ w [.v (.fl (e2 x))] args):Good prog 246 (aBW c x).2 args w:=by
 cases c
 ·exact aH aF (AE false hB) aL func246 (Dc x) hp ha
 ·exact aH aF (AE true hB) aL func246 (Rg x) hp ha
def yZ (c:Bool):Tab:=(yY c).add 246 (g1 LE (aBW c))
theorem yD (c:Bool) (hB:TabOk prog (oZ c)):TabOk prog (yZ c):=(AE c hB).ad func246 (bM fK (aJe c hB))
def Pu:Nat→List At→Option (List Q2)
 | 0,[]=>some []
 | n+1,.f a :: .f b::r=>match Pu n r with|some l=>some ((a,b)::l)|none=>none
 | _,_=>none
def e2s:List Q2→List At
 | []=>[]
 | x::r=>.f x.1 :: .f x.2::e2s r
theorem ON:∀{n:Nat} {l:List At} {x:List Q2},Pu n l=some x→l=e2s x∧x.length=n
 | 0,[],x,h=>by cases h; exact⟨rfl,rfl⟩
 | n+1,.f a :: .f b::r,x,h=>by
  unfold Pu at h;split at h
  ·rename_i l hl;cases h;obtain⟨h1,h2⟩:=ON hl;exact⟨by rw[h1]; rfl,by rw[List.length_cons,h2]⟩
  ·cases h
 | 0,_::_,x,h=>by cases h
 | n+1,[],x,h=>by cases h
 | n+1,[_],x,h=>by unfold Pu at h; split at h<;>first|(cases h; done)|(rename_i heq; cases heq)
 | n+1,.q _::_::_,x,h=>by cases h
 | n+1,.c _::_::_,x,h=>by cases h
 | n+1,.f _ :: .q _::_,x,h=>by cases h
 | n+1,.f _ :: .c _::_,x,h=>by cases h
def LN:List Q2→List Q2→Q2
 | [x],[y]=>F2.mul x y
 | [x,y],[z,t]=>F2.add (F2.mul x z) (F2.mul y t)
 | [x,y,z],[s,t,u]=>F2.add (F2.add (F2.mul x s) (F2.mul y t)) (F2.mul z u)
 | _,_=>F2.zero
def aQZ:jV
 | [.s l n m,.s l' n' m']=>bif Nat.beq n n'&&(Nat.ble n 3&&Nat.ble 1 n)then (match Pu n l,Pu n' l' with
  | some x,some y=>some ([],.one (.fl (e2 (LN x y))))
  | _,_=>none)else none
 | _=>none
def sl2:List Q2→List Fq
 | []=>[]
 | x::r=>x.1::F1.neg x.2::sl2 r
def cr2:List Q2→List Fq
 | []=>[]
 | x::r=>x.2::x.1::cr2 r
def Ql:List Q2→List Fq
 | []=>[]
 | x::r=>x.1::x.2::Ql r
theorem Zf (c:Bool) (x s:Q2) (m m':Nat):bN prog (yZ c) qN (fun _=>true) f179 40 [.s (e2s [x]) 1 m,.s (e2s [s]) 1 m']=some ([],.one (.fl (e2 (rL (sl2 [x]) (Ql [s]),rL (cr2 [x]) (Ql [s]))))):=by kernel_rfl
theorem Ze (c:Bool) (x y s t:Q2) (m m':Nat):bN prog (yZ c) qN (fun _=>true) f179 40 [.s (e2s [x,y]) 2 m,.s (e2s [s,t]) 2 m']=some ([],.one (.fl (e2 (rL (sl2 [x,y]) (Ql [s,t]),rL (cr2 [x,y]) (Ql [s,t]))))):=by kernel_rfl
theorem Zd (c:Bool) (x y z s t u:Q2) (m m':Nat):bN prog (yZ c) qN (fun _=>true) f179 40 [.s (e2s [x,y,z]) 3 m,.s (e2s [s,t,u]) 3 m']=some ([],.one (.fl (e2 (rL (sl2 [x,y,z]) (Ql [s,t,u]),rL (cr2 [x,y,z]) (Ql [s,t,u]))))):=by kernel_rfl
theorem AJ (x s:Q2):(F2.mul x s).1=F1.add (F1.mul x.1 s.1) (F1.mul (F1.neg x.2) s.2):=by
 show F1.add (F1.mul x.1 s.1) (F1.mul (F1.neg F1.one) (F1.mul x.2 s.2))=_;rw[F1.neg_mul,F1.one_mul,F1.neg_mul]
theorem AI (x s:Q2):(F2.mul x s).2=F1.add (F1.mul x.2 s.1) (F1.mul x.1 s.2):=F1.add_comm _ _
theorem aAt (x s:Q2):LN [x] [s]=(rL (sl2 [x]) (Ql [s]),rL (cr2 [x]) (Ql [s])):=Prod.ext (AJ x s) (AI x s)
theorem aAs (x y s t:Q2):LN [x,y] [s,t]=(rL (sl2 [x,y]) (Ql [s,t]),rL (cr2 [x,y]) (Ql [s,t])):=by
 refine Prod.ext ?_ ?_
 ·show F1.add (F2.mul x s).1 (F2.mul y t).1=F1.add (F1.add (F1.add (F1.mul x.1 s.1) (F1.mul (F1.neg x.2) s.2)) (F1.mul y.1 t.1)) (F1.mul (F1.neg y.2) t.2);rw[AJ,AJ]; simp only[F1.add_assoc]
 ·show F1.add (F2.mul x s).2 (F2.mul y t).2=F1.add (F1.add (F1.add (F1.mul x.2 s.1) (F1.mul x.1 s.2)) (F1.mul y.2 t.1)) (F1.mul y.1 t.2);rw[AI,AI]; simp only[F1.add_assoc]
theorem aAr (x y z s t u:Q2):LN [x,y,z] [s,t,u]=(rL (sl2 [x,y,z]) (Ql [s,t,u]),rL (cr2 [x,y,z]) (Ql [s,t,u])):=by
 refine Prod.ext ?_ ?_
 ·show F1.add (F1.add (F2.mul x s).1 (F2.mul y t).1) (F2.mul z u).1=F1.add (F1.add (F1.add (F1.add (F1.add (F1.mul x.1 s.1) (F1.mul (F1.neg x.2) s.2)) (F1.mul y.1 t.1)) (F1.mul (F1.neg y.2) t.2)) (F1.mul z.1 u.1)) (F1.mul (F1.neg z.2) u.2);rw[AJ,AJ,AJ]; simp only[F1.add_assoc]
 ·show F1.add (F1.add (F2.mul x s).2 (F2.mul y t).2) (F2.mul z u).2=F1.add (F1.add (F1.add (F1.add (F1.add (F1.mul x.2 s.1) (F1.mul x.1 s.2)) (F1.mul y.2 t.1)) (F1.mul y.1 t.2)) (F1.mul z.2 u.1)) (F1.mul z.1 u.2);rw[AI,AI,AI]; simp only[F1.add_assoc]
theorem aNS (c:Bool) (hB:TabOk prog (oZ c)):∀cs pre r,aQZ cs=some (pre,r)→aZ pre→∀(args:List Value) (w:World),bQ w cs args→Good prog 179 r args w:=by
 intro cs pre r hg hp args w ha;unfold aQZ at hg;split at hg
 ·rename_i l n m l' n' m';cases hb:(Nat.beq n n'&&(Nat.ble n 3&&Nat.ble 1 n))<;>rw[hb]at hg
  ·cases hg
  ·simp only[cond_true]at hg;split at hg
   ·rename_i x y hx hy;cases hg;obtain⟨e1,e2⟩:=ON hx;obtain⟨e3,e4⟩:=ON hy;subst e1; subst e3;simp only[Bool.and_eq_true]at hb;have hn:=Nat.eq_of_beq_eq_true hb.1;have h3:=Nat.le_of_ble_eq_true hb.2.1;have h1:=Nat.le_of_ble_eq_true hb.2.2;subst hn
    match x,y,n,e2,e4,h3,h1 with
    | [x],[s],1,_,_,_,_ =>
     rw[aAt];exact aH aF (yD c hB) aL func179 (Zf c x s m m') trivial ha
    | [x,y],[s,t],2,_,_,_,_ =>
     rw[aAs];exact aH aF (yD c hB) aL func179 (Ze c x y s t m m') trivial ha
    | [x,y,z],[s,t,u],3,_,_,_,_ =>
     rw[aAr];exact aH aF (yD c hB) aL func179 (Zd c x y z s t u m m') trivial ha
    | [],_,_,e2,_,_,h1=>exact absurd h1 (by rw[←e2]; decide)
    | _::_::_::_::l,_,_,e2,_,h3,_=>exact absurd h3 (by rw[←e2]; simp)
    | [_],[],_,e2,e4,_,_=>rw[←e2]at e4; cases e4
    | [_],_::_::_,_,e2,e4,_,_=>rw[←e2]at e4; simp at e4
    | [_,_],[],_,e2,e4,_,_=>rw[←e2]at e4; cases e4
    | [_,_],[_],_,e2,e4,_,_=>rw[←e2]at e4; cases e4
    | [_,_],_::_::_::_,_,e2,e4,_,_=>rw[←e2]at e4; simp at e4
    | [_,_,_],[],_,e2,e4,_,_=>rw[←e2]at e4; cases e4
    | [_,_,_],[_],_,e2,e4,_,_=>rw[←e2]at e4; cases e4
    | [_,_,_],[_,_],_,e2,e4,_,_=>rw[←e2]at e4; cases e4
    | [_,_,_],_::_::_::_::_,_,e2,e4,_,_=>rw[←e2]at e4; simp at e4
   ·cases hg
 ·cases hg
def If (c:Bool):Tab:=(yZ c).add 179 aQZ
theorem Lg (c:Bool) (hB:TabOk prog (oZ c)):TabOk prog (If c):=(yD c hB).ad func179 (aNS c hB)
theorem WH (c:Bool) (x:Q2) (y:Q2):bN prog (If c) qN (fun _=>true) f187 40 [.v (.fl (e2 x)),.v (.fl (e2 y))]=some ([],.one (.fl (e2 (F2.mul x y)))):=by kernel_rfl
def BK (c:Bool):Tab:=(If c).add 187 (g2 LE LE (fun x y=>([],.one (.fl (e2 (F2.mul x y))))))
theorem GV (c:Bool) (hB:TabOk prog (oZ c)):TabOk prog (BK c):=(Lg c hB).ad func187 (fC fK fK fun x y hp args w ha=>aH aF (Lg c hB) aL func187 (WH c x y) hp ha)
theorem Rv (c:Bool) (x:N2):bN prog (BK c) qN (fun _=>true) f177 40 [.v (.fl (q2 x))]=some ([],.one (.fl (e2 (m2 x)))):=by kernel_rfl
def TZ (c:Bool):Tab:=(BK c).add 177 (g1 rq2 (fun x=>([],.one (.fl (e2 (m2 x))))))
theorem ZJ (c:Bool) (hB:TabOk prog (oZ c)):TabOk prog (TZ c):=(GV c hB).ad func177 (bM sM fun x hp args w ha=>aH aF (GV c hB) aL func177 (Rv c x) hp ha)
def nZ (x:Q6):Q6:=(F2.sub (F2.mul x.1 x.1) (F2.mul (F2.mul x.2.1 x.2.2) dG),F2.sub (F2.mul (F2.mul x.2.2 x.2.2) dG) (F2.mul x.1 x.2.1),F2.sub (F2.mul x.2.1 x.2.1) (F2.mul x.1 x.2.2))
def n6 (x:Q6):Q2:=(F6.mul x (nZ x)).1
def s6 (x:Q6) (k:Q2):Q6:=(F2.mul x.1 k,F2.mul x.2.1 k,F2.mul x.2.2 k)
def iv6 (x:Q6):Q6:=s6 (nZ x) (dV (n6 x))
theorem Cz (c:Bool) (x:Q6) (y:Q6):bN prog (TZ c) qN (fun _=>true) f127 40 [.v (.fl (e6 x)),.v (.fl (e6 y))]=some ([],.one (.fl (e6 (F6.add x y)))):=by kernel_rfl
def JS (c:Bool):Tab:=(TZ c).add 127 (g2 Ts Ts (fun x y=>([],.one (.fl (e6 (F6.add x y))))))
theorem ML (c:Bool) (hB:TabOk prog (oZ c)):TabOk prog (JS c):=(ZJ c hB).ad func127 (fC nE nE fun x y hp args w ha=>aH aF (ZJ c hB) aL func127 (Cz c x y) hp ha)
theorem WG (c:Bool) (x:Q6) (y:Q6):bN prog (JS c) qN (fun _=>true) f129 40 [.v (.fl (e6 x)),.v (.fl (e6 y))]=some ([],.one (.fl (e6 (F6.sub x y)))):=by kernel_rfl
def BJ (c:Bool):Tab:=(JS c).add 129 (g2 Ts Ts (fun x y=>([],.one (.fl (e6 (F6.sub x y))))))
theorem GU (c:Bool) (hB:TabOk prog (oZ c)):TabOk prog (BJ c):=(ML c hB).ad func129 (fC nE nE fun x y hp args w ha=>aH aF (ML c hB) aL func129 (WG c x y) hp ha)
theorem aGA (c:Bool) (x:Q6):bN prog (BJ c) qN (fun _=>true) f128 40 [.v (.fl (e6 x))]=some ([],.one (.fl (e6 ((F2.mul x.2.2 dG,x.1,x.2.1))))):=by kernel_rfl
theorem DP (x:Q6):F6.mul vE x=(F2.mul x.2.2 dG,x.1,x.2.1):=by
 show (F2.add (F2.mul F2.zero x.1) (F2.mul dG (F2.add (F2.mul F2.one x.2.2) (F2.mul F2.zero x.2.1))),F2.add (F2.add (F2.mul F2.zero x.2.1) (F2.mul F2.one x.1)) (F2.mul dG (F2.mul F2.zero x.2.2)),F2.add (F2.add (F2.mul F2.zero x.2.2) (F2.mul F2.one x.2.1)) (F2.mul F2.zero x.1))=_;simp only[F2.zero_mul,F2.one_mul,F2.zero_add,F2.add_zero,F2.mul_zero,F2.mul_comm dG]
def aFi (c:Bool):Tab:=(BJ c).add 128 (g1 Ts (fun x=>([],.one (.fl (e6 (F6.mul vE x))))))
theorem aBA (c:Bool) (hB:TabOk prog (oZ c)):TabOk prog (aFi c):=(GU c hB).ad func128 (bM nE fun x hp args w ha=>by show Good _ _ (.one (.fl (e6 (F6.mul vE x)))) _ _; rw[DP x]; exact aH aF (GU c hB) aL func128 (aGA c x) hp ha)
theorem Rf (c:Bool) (x:Q6):bN prog (aFi c) qN (fun _=>true) f130 40 [.v (.fl (e6 x))]=some ([],.one (.fl (e6 (x)))):=by kernel_rfl
def TQ (c:Bool):Tab:=(aFi c).add 130 (g1 Ts (fun x=>([],.one (.fl (e6 (x))))))
theorem ZE (c:Bool) (hB:TabOk prog (oZ c)):TabOk prog (TQ c):=(aBA c hB).ad func130 (bM nE fun x hp args w ha=>aH aF (aBA c hB) aL func130 (Rf c x) hp ha)
theorem Zq (c:Bool)  : bN prog (TQ c) qN (fun _=>true) f176 40 []=some ([],.one (.fl (e6 (F6.one)))):=by kernel_rfl
def Im (c:Bool):Tab:=(TQ c).add 176 (g0 (.one (.fl (e6 (F6.one)))))
theorem Lo (c:Bool) (hB:TabOk prog (oZ c)):TabOk prog (Im c):=(ZE c hB).ad func176 (gI fun w=>aH aF (ZE c hB) aL func176 (Zq c ) trivial (args:=[]) trivial)
theorem Ru (c:Bool) (x:N6):bN prog (Im c) qN (fun _=>true) f125 40 [.v (.fl (q6 x))]=some ([],.one (.fl (e6 (m6 x)))):=by kernel_rfl
def TY (c:Bool):Tab:=(Im c).add 125 (g1 rq6 (fun x=>([],.one (.fl (e6 (m6 x))))))
theorem ZI (c:Bool) (hB:TabOk prog (oZ c)):TabOk prog (TY c):=(Lo c hB).ad func125 (bM aOw fun x hp args w ha=>aH aF (Lo c hB) aL func125 (Ru c x) hp ha)
theorem WF (c:Bool) (x:Q6) (y:Q6):bN prog (TY c) qN (fun _=>true) f126 40 [.v (.fl (e6 x)),.v (.fl (e6 y))]=some ([],.one (.fl (e6 ((LN [x.1,x.2.1,x.2.2] [y.1,F2.mul y.2.2 dG,F2.mul y.2.1 dG],LN [x.1,x.2.1,x.2.2] [y.2.1,y.1,F2.mul y.2.2 dG],LN [x.1,x.2.1,x.2.2] [y.2.2,y.2.1,y.1]))))):=by kernel_rfl
theorem XV (x:Q6) (y:Q6):F6.mul x y=(LN [x.1,x.2.1,x.2.2] [y.1,F2.mul y.2.2 dG,F2.mul y.2.1 dG],LN [x.1,x.2.1,x.2.2] [y.2.1,y.1,F2.mul y.2.2 dG],LN [x.1,x.2.1,x.2.2] [y.2.2,y.2.1,y.1]):=by
 refine Prod.ext ?_ (Prod.ext ?_ rfl)
 ·show F2.add (F2.mul x.1 y.1) (F2.mul dG (F2.add (F2.mul x.2.1 y.2.2) (F2.mul x.2.2 y.2.1)))=F2.add (F2.add (F2.mul x.1 y.1) (F2.mul x.2.1 (F2.mul y.2.2 dG))) (F2.mul x.2.2 (F2.mul y.2.1 dG));rw[F2.mul_add,F2.add_assoc,F2.mul_comm dG,F2.mul_comm dG,F2.mul_assoc,F2.mul_assoc]
 ·show F2.add (F2.add (F2.mul x.1 y.2.1) (F2.mul x.2.1 y.1)) (F2.mul dG (F2.mul x.2.2 y.2.2))=F2.add (F2.add (F2.mul x.1 y.2.1) (F2.mul x.2.1 y.1)) (F2.mul x.2.2 (F2.mul y.2.2 dG));rw[F2.mul_comm dG,F2.mul_assoc]
def uQ (c:Bool):Tab:=(TY c).add 126 (g2 Ts Ts (fun x y=>([],.one (.fl (e6 (F6.mul x y))))))
theorem wH (c:Bool) (hB:TabOk prog (oZ c)):TabOk prog (uQ c):=(ZI c hB).ad func126 (fC nE nE fun x y hp args w ha=>by show Good _ _ (.one (.fl (e6 (F6.mul x y)))) _ _; rw[XV x y]; exact aH aF (ZI c hB) aL func126 (WF c x y) hp ha)
def aBV (c:Bool) (x:Q6):List Prop×RV:=bif c then ([sE (n6 x)≠F1.zero],.many [.fl (e6 (iv6 x)),.im (.int .i64 0)])else ([sE (n6 x)=F1.zero],.many [.fl (e6 F6.zero),.im (.int .i64 22)])
theorem FT (x:Q6):bN prog (uQ true) qN (fun _=>true) f206 40 [.v (.fl (e6 x))]=some ([sE (n6 x)≠F1.zero],.many [.fl (e6 (iv6 x)),.im (.int .i64 0)]):=by kernel_rfl
theorem CX (x:Q6):bN prog (uQ false) qN (fun _=>true) f206 40 [.v (.fl (e6 x))]=some ([sE (n6 x)=F1.zero],.many [.fl (e6 F6.zero),.im (.int .i64 22)]):=by kernel_rfl
theorem aBU (c:Bool) (hB:TabOk prog (oZ c)) (x:Q6) (hp:aZ (aBV c x).1) (args:List Value) (w:World) (ha:bQ w [.v (.fl (e6 x))] args):Good prog 206 (aBV c x).2 args w:=by
 cases c
 ·exact aH aF (wH false hB) aL func206 (CX x) hp ha
 ·exact aH aF (wH true hB) aL func206 (FT x) hp ha
def TR (c:Bool):Tab:=(uQ c).add 206 (g1 Ts (aBV c))
theorem ZF (c:Bool) (hB:TabOk prog (oZ c)):TabOk prog (TR c):=(wH c hB).ad func206 (bM nE (aBU c hB))
def cE (x:aM):aM:=(x.1,F6.sub F6.zero x.2)
def n12 (x:aM):Q6:=F6.sub (F6.mul x.1 x.1) (F6.mul vE (F6.mul x.2 x.2))
def kI (x:aM):aM:=(F6.mul x.1 (iv6 (n12 x)),F6.mul (F6.sub F6.zero x.2) (iv6 (n12 x)))
def uU (x:aM):Fq:=sE (n6 (n12 x))
theorem PQ (c:Bool) (x:aM) (y:aM):bN prog (TR c) qN (fun _=>true) f66 40 [.v (.fl (aN x)),.v (.fl (aN y))]=some ([],.one (.fl (aN ((F6.add (F6.mul x.1 y.1) (F6.mul vE (F6.mul x.2 y.2)),F6.sub (F6.sub (F6.mul (F6.add x.1 x.2) (F6.add y.1 y.2)) (F6.mul x.1 y.1)) (F6.mul x.2 y.2)))))):=by kernel_rfl
theorem QB (x:aM) (y:aM):aC.mul x y=(F6.add (F6.mul x.1 y.1) (F6.mul vE (F6.mul x.2 y.2)),F6.sub (F6.sub (F6.mul (F6.add x.1 x.2) (F6.add y.1 y.2)) (F6.mul x.1 y.1)) (F6.mul x.2 y.2)):=by
 refine Prod.ext rfl ?_;exact aE F6 (aU F6 [x.1,x.2,y.1,y.2]) (Z0*Z3+Z1*Z2) ((Z0+Z1)*(Z2+Z3)-Z0*Z2-Z1*Z3) (by decide)
def wY (c:Bool):Tab:=(TR c).add 66 (g2 qQ qQ (fun x y=>([],.one (.fl (aN (aC.mul x y))))))
theorem BX (c:Bool) (hB:TabOk prog (oZ c)):TabOk prog (wY c):=(ZF c hB).ad func66 (fC eF eF fun x y hp args w ha=>by show Good _ _ (.one (.fl (aN (aC.mul x y)))) _ _; rw[QB x y]; exact aH aF (ZF c hB) aL func66 (PQ c x y) hp ha)
theorem WJ (c:Bool) (x:aM):bN prog (wY c) qN (fun _=>true) f139 40 [.v (.fl (aN x))]=some ([],.one (.fl (aN (cE x)))):=by kernel_rfl
def BM (c:Bool):Tab:=(wY c).add 139 (g1 qQ (fun x=>([],.one (.fl (aN (cE x))))))
theorem GX (c:Bool) (hB:TabOk prog (oZ c)):TabOk prog (BM c):=(BX c hB).ad func139 (bM eF fun x hp args w ha=>aH aF (BX c hB) aL func139 (WJ c x) hp ha)
theorem De (c:Bool) (x:aM):bN prog (BM c) qN (fun _=>true) f67 40 [.v (.fl (aN x))]=some ([],.one (.fl (aN (x)))):=by kernel_rfl
def JV (c:Bool):Tab:=(BM c).add 67 (g1 qQ (fun x=>([],.one (.fl (aN (x))))))
theorem MO (c:Bool) (hB:TabOk prog (oZ c)):TabOk prog (JV c):=(GX c hB).ad func67 (bM eF fun x hp args w ha=>aH aF (GX c hB) aL func67 (De c x) hp ha)
theorem Dp (c:Bool) (x:tR):bN prog (JV c) qN (fun _=>true) f65 40 [.v (.fl (uA x))]=some ([],.one (.fl (aN (gC x)))):=by kernel_rfl
def JZ (c:Bool):Tab:=(JV c).add 65 (g1 Fa (fun x=>([],.one (.fl (aN (gC x))))))
theorem MU (c:Bool) (hB:TabOk prog (oZ c)):TabOk prog (JZ c):=(MO c hB).ad func65 (bM xN fun x hp args w ha=>aH aF (MO c hB) aL func65 (Dp c x) hp ha)
theorem Sb (c:Bool)  : bN prog (JZ c) qN (fun _=>true) f122 40 []=some ([],.one (.fl (aN (aC.one)))):=by kernel_rfl
def ER (c:Bool):Tab:=(JZ c).add 122 (g0 (.one (.fl (aN (aC.one)))))
theorem GZ (c:Bool) (hB:TabOk prog (oZ c)):TabOk prog (ER c):=(MU c hB).ad func122 (gI fun w=>aH aF (MU c hB) aL func122 (Sb c ) trivial (args:=[]) trivial)
def Gd (c:Bool) (x:aM):List Prop×RV:=bif c then ([uU x≠F1.zero],.many [.fl (aN (kI x)),.im (.int .i64 0)])else ([uU x=F1.zero],.many [.fl (aN aC.zero),.im (.int .i64 22)])
theorem CY (x:aM):bN prog (ER true) qN (fun _=>true) f163 40 [.v (.fl (aN x))]=some ([uU x≠F1.zero],.many [.fl (aN (kI x)),.im (.int .i64 0)]):=by kernel_rfl
theorem zO (x:aM):bN prog (ER false) qN (fun _=>true) f163 40 [.v (.fl (aN x))]=some ([uU x=F1.zero],.many [.fl (aN aC.zero),.im (.int .i64 22)]):=by kernel_rfl
theorem Um (c:Bool) (hB:TabOk prog (oZ c)) (x:aM) (hp:aZ (Gd c x).1) (args:List Value) (w:World) (ha:bQ w [.v (.fl (aN x))] args):Good prog 163 (Gd c x).2 args w:=by
 cases c
 ·exact aH aF (GZ false hB) aL func163 (zO x) hp ha
 ·exact aH aF (GZ true hB) aL func163 (CY x) hp ha
def JW (c:Bool):Tab:=(ER c).add 163 (g1 qQ (Gd c))
theorem MP (c:Bool) (hB:TabOk prog (oZ c)):TabOk prog (JW c):=(GZ c hB).ad func163 (bM eF (Um c hB))
theorem Tk (c:Bool) (x:tR) (y:tR):bN prog (JW c) qN (fun _=>true) f26 40 [.v (.fl (uA x)),.v (.fl (uA y))]=some ([],.one (.fl (aN (aC.mul (gC x) (gC y))))):=by kernel_rfl
def EU (c:Bool):Tab:=(JW c).add 26 (g2 Fa Fa (fun x y=>([],.one (.fl (aN (aC.mul (gC x) (gC y)))))))
theorem ID (c:Bool) (hB:TabOk prog (oZ c)):TabOk prog (EU c):=(MP c hB).ad func26 (fC xN xN fun x y hp args w ha=>aH aF (MP c hB) aL func26 (Tk c x y) hp ha)
def aBT (c:Bool) (x:tR):List Prop×RV:=bif c then ([uU (gC x)≠F1.zero],.many [.fl (aN (kI (gC x))),.im (.int .i64 0)])else ([uU (gC x)=F1.zero],.many [.fl (aN aC.zero),.im (.int .i64 22)])
theorem FX (x:tR):bN prog (EU true) qN (fun _=>true) f109 40 [.v (.fl (uA x))]=some ([uU (gC x)≠F1.zero],.many [.fl (aN (kI (gC x))),.im (.int .i64 0)]):=by kernel_rfl
theorem CZ (x:tR):bN prog (EU false) qN (fun _=>true) f109 40 [.v (.fl (uA x))]=some ([uU (gC x)=F1.zero],.many [.fl (aN aC.zero),.im (.int .i64 22)]):=by kernel_rfl
theorem aBS (c:Bool) (hB:TabOk prog (oZ c)) (x:tR) (hp:aZ (aBT c x).1) (args:List Value) (w:World) (ha:bQ w [.v (.fl (uA x))] args):Good prog 109 (aBT c x).2 args w:=by
 cases c
 ·exact aH aF (ID false hB) aL func109 (CZ x) hp ha
 ·exact aH aF (ID true hB) aL func109 (FX x) hp ha
def UJ (c:Bool):Tab:=(EU c).add 109 (g1 Fa (aBT c))
theorem ZQ (c:Bool) (hB:TabOk prog (oZ c)):TabOk prog (UJ c):=(ID c hB).ad func109 (bM xN (aBS c hB))
theorem Tj (c:Bool)  : bN prog (UJ c) qN (fun _=>true) f60 40 []=some ([],.one (.fl (aN (aC.one)))):=by kernel_rfl
def ET (c:Bool):Tab:=(UJ c).add 60 (g0 (.one (.fl (aN (aC.one)))))
theorem IC (c:Bool) (hB:TabOk prog (oZ c)):TabOk prog (ET c):=(ZQ c hB).ad func60 (gI fun w=>aH aF (ZQ c hB) aL func60 (Tj c ) trivial (args:=[]) trivial)
def aBR (c:Bool) (x:N2):List Prop×RV:=bif c then ([sE (m2 x)≠F1.zero],.many [.fl (e2 (dV (m2 x))),.im (.int .i64 0)])else ([sE (m2 x)=F1.zero],.many [.fl (e2 F2.zero),.im (.int .i64 22)])
theorem LB (x:N2):bN prog (ET true) qN (fun _=>true) f304 40 [.v (.fl (q2 x))]=some ([sE (m2 x)≠F1.zero],.many [.fl (e2 (dV (m2 x))),.im (.int .i64 0)]):=by kernel_rfl
theorem FW (x:N2):bN prog (ET false) qN (fun _=>true) f304 40 [.v (.fl (q2 x))]=some ([sE (m2 x)=F1.zero],.many [.fl (e2 F2.zero),.im (.int .i64 22)]):=by kernel_rfl
theorem aBQ (c:Bool) (hB:TabOk prog (oZ c)) (x:N2) (hp:aZ (aBR c x).1) (args:List Value) (w:World) (ha:bQ w [.v (.fl (q2 x))] args):Good prog 304 (aBR c x).2 args w:=by
 cases c
 ·exact aH aF (IC false hB) aL func304 (FW x) hp ha
 ·exact aH aF (IC true hB) aL func304 (LB x) hp ha
def Ja (c:Bool):Tab:=(ET c).add 304 (g1 rq2 (aBR c))
theorem Mb (c:Bool) (hB:TabOk prog (oZ c)):TabOk prog (Ja c):=(IC c hB).ad func304 (bM sM (aBQ c hB))
theorem aAe (c:Bool) (x:N2) (y:N2):bN prog (Ja c) qN (fun _=>true) f213 40 [.v (.fl (q2 x)),.v (.fl (q2 y))]=some ([],.one (.fl (e2 (F2.mul (m2 x) (m2 y))))):=by kernel_rfl
def Iz (c:Bool):Tab:=(Ja c).add 213 (g2 rq2 rq2 (fun x y=>([],.one (.fl (e2 (F2.mul (m2 x) (m2 y)))))))
theorem Ma (c:Bool) (hB:TabOk prog (oZ c)):TabOk prog (Iz c):=(Mb c hB).ad func213 (fC sM sM fun x y hp args w ha=>aH aF (Mb c hB) aL func213 (aAe c x y) hp ha)
theorem aAd (c:Bool) (x:N2):bN prog (Iz c) qN (fun _=>true) f171 40 [.v (.fl (q2 x))]=some ([],.one (.fl (e2 (F2.sub F2.zero (m2 x))))):=by kernel_rfl
def BQ (c:Bool):Tab:=(Iz c).add 171 (g1 rq2 (fun x=>([],.one (.fl (e2 (F2.sub F2.zero (m2 x)))))))
theorem aID (c:Bool) (hB:TabOk prog (oZ c)):TabOk prog (BQ c):=(Ma c hB).ad func171 (bM sM fun x hp args w ha=>aH aF (Ma c hB) aL func171 (aAd c x) hp ha)
def Hi:Q2:=(fm 1,fm 0)
def JB:Q2:=(fm 8376118865763821496583973867626364092589906065868298776909617916018768340080,fm 16469823323077808223889137241176536799009286646108169935659301613961712198316)
def CL:Q2:=(fm 21575463638280843010398324269430826099269044274347216827212613867836435027261,fm 10307601595873709700152284273816112264069230130616436755625194854815875713954)
def Nt:Q2:=(fm 2821565182194536844548159561693502659359617185244120367078079554186484126554,fm 3505843767911556378687030309984248845540243509899259641013678093033130930403)
def Ns:Q2:=(fm 2581911344467009335267311115468803099551665605076196740867805258568234346338,fm 19937756971775647987995932169929341994314640652964949448313374472400716661030)
def fb5:Q2:=(fm 685108087231508774477564247770172212460312782337200605669322048753928464687,fm 8447204650696766136447902020341177575205426561248465145919723016860428151883)
def Qq:Fq:=fm 1
def Jx:Fq:=fm 21888242871839275220042445260109153167277707414472061641714758635765020556617
def Qp:Fq:=fm 21888242871839275220042445260109153167277707414472061641714758635765020556616
def Qo:Fq:=fm 21888242871839275222246405745257275088696311157297823662689037894645226208582
def Qn:Fq:=fm 2203960485148121921418603742825762020974279258880205651966
def Qm:Fq:=fm 2203960485148121921418603742825762020974279258880205651967
theorem aRN:Hi=F2.one:=by decide
theorem aOk:F2.mul (aJ Hi) Hi=(Qq,F1.zero):=by decide
theorem aOi:F2.mul (aJ JB) JB=(Jx,F1.zero):=by decide
theorem aOg:F2.mul (aJ CL) CL=(Qp,F1.zero):=by decide
theorem aOe:F2.mul (aJ Nt) Nt=(Qo,F1.zero):=by decide
theorem aOc:F2.mul (aJ Ns) Ns=(Qn,F1.zero):=by decide
theorem aOa:F2.mul (aJ fb5) fb5=(Qm,F1.zero):=by decide
def cU (x:aM):aM:=((F2.mul (aJ x.1.1) Hi,F2.mul (aJ x.1.2.1) CL,F2.mul (aJ x.1.2.2) Ns),(F2.mul (aJ x.2.1) JB,F2.mul (aJ x.2.2.1) Nt,F2.mul (aJ x.2.2.2) fb5))
def cM (x:aM):aM:=((qB x.1.1 Qq,qB x.1.2.1 Qp,qB x.1.2.2 Qn),(qB x.2.1 Jx,qB x.2.2.1 Qo,qB x.2.2.2 Qm))
theorem gO (x y:Q2):aJ (F2.mul x y)=F2.mul (aJ x) (aJ y):=by
 refine Prod.ext ?_ ?_
 ·exact aE F1 (aU F1 [x.1,x.2,y.1,y.2]) (Z0*Z2+(-RE.one)*(Z1*Z3)) (Z0*Z2+(-RE.one)*((-Z1)*(-Z3))) (by decide)
 ·exact aE F1 (aU F1 [x.1,x.2,y.1,y.2]) (-(Z0*Z3+Z1*Z2)) (Z0*(-Z3)+(-Z1)*Z2) (by decide)
theorem kR (x y:Q2):aJ (F2.add x y)=F2.add (aJ x) (aJ y):=Prod.ext rfl (F1.neg_add' _ _)
theorem aXy (x:Q2):aJ (aJ x)=x:=Prod.ext rfl (F1.neg_neg _)
theorem dZ (x:Q2) (k:Fq):qB x k=F2.mul x (k,F1.zero):=by
 refine Prod.ext ?_ ?_
 ·exact aE F1 (aU F1 [x.1,x.2,k]) (Z0*Z2) (Z0*Z2+(-RE.one)*(Z1*RE.zero)) (by decide)
 ·exact aE F1 (aU F1 [x.1,x.2,k]) (Z1*Z2) (Z0*RE.zero+Z1*Z2) (by decide)
theorem AD (c t:Q2) (k:Fq) (h:F2.mul (aJ t) t=(k,F1.zero)):F2.mul (aJ (F2.mul (aJ c) t)) t=qB c k:=by
 rw[gO,aXy,F2.mul_assoc,h,←dZ]
theorem ZA (x:aM):cU (cU x)=cM x:=by
 refine Prod.ext (Prod.ext (AD _ _ _ aOk) (Prod.ext (AD _ _ _ aOg) (AD _ _ _ aOc))) (Prod.ext (AD _ _ _ aOi) (Prod.ext (AD _ _ _ aOe) (AD _ _ _ aOa)))
theorem LU (c:Q2) (k l m:Fq):qB (qB (qB c k) l) m=qB c (F1.mul k (F1.mul l m)):=by
 refine Prod.ext ?_ ?_
 ·show F1.mul (F1.mul (F1.mul c.1 k) l) m=F1.mul c.1 (F1.mul k (F1.mul l m)); rw[F1.mul_assoc,F1.mul_assoc]
 ·show F1.mul (F1.mul (F1.mul c.2 k) l) m=F1.mul c.2 (F1.mul k (F1.mul l m)); rw[F1.mul_assoc,F1.mul_assoc]
theorem Cv (c:Q2):qB c F1.one=c:=Prod.ext (F1.mul_one _) (F1.mul_one _)
theorem Cw (c:Q2):qB c (F1.neg F1.one)=F2.sub F2.zero c:=by
 refine Prod.ext ?_ ?_
 ·show F1.mul c.1 (F1.neg F1.one)=F1.add F1.zero (F1.neg c.1); rw[F1.mul_neg,F1.mul_one,F1.zero_add]
 ·show F1.mul c.2 (F1.neg F1.one)=F1.add F1.zero (F1.neg c.2); rw[F1.mul_neg,F1.mul_one,F1.zero_add]
theorem aOl:F1.mul Qq (F1.mul Qq Qq)=F1.one:=by decide
theorem aOj:F1.mul Jx (F1.mul Jx Jx)=F1.neg F1.one:=by decide
theorem aOh:F1.mul Qp (F1.mul Qp Qp)=F1.one:=by decide
theorem aOf:F1.mul Qo (F1.mul Qo Qo)=F1.neg F1.one:=by decide
theorem aOd:F1.mul Qn (F1.mul Qn Qn)=F1.one:=by decide
theorem aOb:F1.mul Qm (F1.mul Qm Qm)=F1.neg F1.one:=by decide
theorem xD (x:aM):cM (cM (cM x))=cE x:=by
 refine Prod.ext (Prod.ext ?_ (Prod.ext ?_ ?_)) (Prod.ext ?_ (Prod.ext ?_ ?_))
 ·exact (LU _ _ _ _).trans (by rw[aOl,Cv]; rfl)
 ·exact (LU _ _ _ _).trans (by rw[aOh,Cv]; rfl)
 ·exact (LU _ _ _ _).trans (by rw[aOd,Cv]; rfl)
 ·exact (LU _ _ _ _).trans (by rw[aOj,Cw]; rfl)
 ·exact (LU _ _ _ _).trans (by rw[aOf,Cw]; rfl)
 ·exact (LU _ _ _ _).trans (by rw[aOb,Cw]; rfl)
def MJ (z:Q6):Q6:=(F2.mul (aJ z.1) Hi,F2.mul (aJ z.2.1) CL,F2.mul (aJ z.2.2) Ns)
theorem aRM:Ns=F2.mul CL CL:=by decide
theorem US:aJ dG=F2.mul dG (F2.mul CL (F2.mul CL CL)):=by decide
theorem QN (z:Q6):MJ z=(aJ z.1,F2.mul (aJ z.2.1) CL,F2.mul (aJ z.2.2) (F2.mul CL CL)):=by
 unfold MJ;rw[aRN,F2.mul_one,aRM]
theorem uD (z y:Q6):MJ (F6.add z y)=F6.add (MJ z) (MJ y):=by
 refine Prod.ext ?_ (Prod.ext ?_ ?_)
 ·show F2.mul (aJ (F2.add z.1 y.1)) Hi=F2.add _ _; rw[kR,F2.add_mul]; rfl
 ·show F2.mul (aJ (F2.add z.2.1 y.2.1)) CL=F2.add _ _; rw[kR,F2.add_mul]; rfl
 ·show F2.mul (aJ (F2.add z.2.2 y.2.2)) Ns=F2.add _ _; rw[kR,F2.add_mul]; rfl
theorem aIv {R:Type} (K:CR R) (a b c d e f t q:R):K.add (K.mul a d) (K.mul (K.mul q (K.mul t (K.mul t t))) (K.add (K.mul b f) (K.mul c e)))=K.add (K.mul a d) (K.mul q (K.add (K.mul (K.mul b t) (K.mul f (K.mul t t))) (K.mul (K.mul c (K.mul t t)) (K.mul e t)))) :=
 aE K (aU K [a,b,c,d,e,f,t,q]) (Z0*Z3+Z7*(Z6*(Z6*Z6))*(Z1*Z5+Z2*Z4)) (Z0*Z3+Z7*(Z1*Z6*(Z5*(Z6*Z6))+Z2*(Z6*Z6)*(Z4*Z6))) (by decide)
theorem aIu {R:Type} (K:CR R) (a b c d e f t q:R):K.mul (K.add (K.add (K.mul a e) (K.mul b d)) (K.mul (K.mul q (K.mul t (K.mul t t))) (K.mul c f))) t=K.add (K.add (K.mul a (K.mul e t)) (K.mul (K.mul b t) d)) (K.mul q (K.mul (K.mul c (K.mul t t)) (K.mul f (K.mul t t)))) :=
 aE K (aU K [a,b,c,d,e,f,t,q]) ((Z0*Z4+Z1*Z3+Z7*(Z6*(Z6*Z6))*(Z2*Z5))*Z6) (Z0*(Z4*Z6)+Z1*Z6*Z3+Z7*(Z2*(Z6*Z6)*(Z5*(Z6*Z6)))) (by decide)
theorem aIt {R:Type} (K:CR R) (a b c d e f t:R):K.mul (K.add (K.add (K.mul a f) (K.mul b e)) (K.mul c d)) (K.mul t t)=K.add (K.add (K.mul a (K.mul f (K.mul t t))) (K.mul (K.mul b t) (K.mul e t))) (K.mul (K.mul c (K.mul t t)) d) :=
 aE K (aU K [a,b,c,d,e,f,t]) ((Z0*Z5+Z1*Z4+Z2*Z3)*(Z6*Z6)) (Z0*(Z5*(Z6*Z6))+Z1*Z6*(Z4*Z6)+Z2*(Z6*Z6)*Z3) (by decide)
theorem oF (z y:Q6):MJ (F6.mul z y)=F6.mul (MJ z) (MJ y):=by
 rw[QN,QN,QN];refine Prod.ext ?_ (Prod.ext ?_ ?_)
 ·show aJ (F2.add (F2.mul z.1 y.1) (F2.mul dG (F2.add (F2.mul z.2.1 y.2.2) (F2.mul z.2.2 y.2.1))))=_;rw[kR,gO,gO,kR,gO,gO,US];exact aIv F2 _ _ _ _ _ _ _ _
 ·show F2.mul (aJ (F2.add (F2.add (F2.mul z.1 y.2.1) (F2.mul z.2.1 y.1)) (F2.mul dG (F2.mul z.2.2 y.2.2)))) CL=_;rw[kR,kR,gO,gO,gO,gO,US];exact aIu F2 _ _ _ _ _ _ _ _
 ·show F2.mul (aJ (F2.add (F2.add (F2.mul z.1 y.2.2) (F2.mul z.2.1 y.2.1)) (F2.mul z.2.2 y.1))) (F2.mul CL CL)=_;rw[kR,kR,gO,gO,gO];exact aIt F2 _ _ _ _ _ _ _
def tau:Q6:=(JB,F2.zero,F2.zero)
theorem Mk (z:Q6) (k:Q2):F6.mul z (k,F2.zero,F2.zero)=s6 z k:=by
 show (F2.add (F2.mul z.1 k) (F2.mul dG (F2.add (F2.mul z.2.1 F2.zero) (F2.mul z.2.2 F2.zero))),F2.add (F2.add (F2.mul z.1 F2.zero) (F2.mul z.2.1 k)) (F2.mul dG (F2.mul z.2.2 F2.zero)),F2.add (F2.add (F2.mul z.1 F2.zero) (F2.mul z.2.1 F2.zero)) (F2.mul z.2.2 k))=_;simp only[F2.mul_zero,F2.add_zero,F2.zero_add];rfl
theorem aWT:Nt=F2.mul CL JB:=by decide
theorem aWS:fb5=F2.mul Ns JB:=by decide
theorem aWV:JB=F2.mul Hi JB:=by decide
theorem qV (x:aM):cU x=(MJ x.1,F6.mul (MJ x.2) tau):=by
 refine Prod.ext rfl ?_;rw[show tau=(JB,F2.zero,F2.zero)from rfl,Mk];refine Prod.ext ?_ (Prod.ext ?_ ?_)
 ·show F2.mul (aJ x.2.1) JB=F2.mul (F2.mul (aJ x.2.1) Hi) JB; rw[F2.mul_assoc,←aWV]
 ·show F2.mul (aJ x.2.2.1) Nt=F2.mul (F2.mul (aJ x.2.2.1) CL) JB; rw[F2.mul_assoc,←aWT]
 ·show F2.mul (aJ x.2.2.2) fb5=F2.mul (F2.mul (aJ x.2.2.2) Ns) JB; rw[F2.mul_assoc,←aWS]
theorem aVN:MJ vE=F6.mul vE (F6.mul tau tau):=by decide
theorem Ld {R:Type} (K:CR R) (a b c d v t:R):K.add (K.mul a c) (K.mul (K.mul v (K.mul t t)) (K.mul b d))=K.add (K.mul a c) (K.mul v (K.mul (K.mul b t) (K.mul d t)))∧K.mul (K.add (K.mul a d) (K.mul b c)) t=K.add (K.mul a (K.mul d t)) (K.mul (K.mul b t) c) :=
 ⟨aE K (aU K [a,b,c,d,v,t]) (Z0*Z2+Z4*(Z5*Z5)*(Z1*Z3)) (Z0*Z2+Z4*(Z1*Z5*(Z3*Z5))) (by decide),
  aE K (aU K [a,b,c,d,t]) ((Z0*Z3+Z1*Z2)*Z4) (Z0*(Z3*Z4)+Z1*Z4*Z2) (by decide)⟩
theorem nJ (x y:aM):cU (aC.mul x y)=aC.mul (cU x) (cU y):=by
 rw[qV,qV,qV];refine Prod.ext ?_ ?_
 ·show MJ (F6.add (F6.mul x.1 y.1) (F6.mul vE (F6.mul x.2 y.2)))=_;rw[uD,oF,oF,oF,aVN];exact (Ld F6 _ _ _ _ _ _).1
 ·show F6.mul (MJ (F6.add (F6.mul x.1 y.2) (F6.mul x.2 y.1))) tau=_;rw[uD,oF,oF];exact (Ld F6 _ _ _ _ vE _).2
theorem pB (x y:aM):cM (aC.mul x y)=aC.mul (cM x) (cM y):=by rw[←ZA,←ZA,←ZA,nJ,nJ]
theorem JM (x y:aM):cE (aC.mul x y)=aC.mul (cE x) (cE y):=by simp only[←xD,pB]
end Go.Proofs.YtglgakbkdjhojaaGreat.Ex
namespace Go.Proofs.YtglgakbkdjhojaaGreat
open Go.Proofs.Tryz
theorem aV:dW 2:=aP 2 1 (by decide) (by decide) (by kernel_rfl)
theorem fG:dW 3:=aP 3 1 (by decide) (by decide) (by kernel_rfl)
theorem QG:dW 13:=aP 13 3 (by decide) (by decide) (by kernel_rfl)
theorem aAL:dW 29:=aP 29 5 (by decide) (by decide) (by kernel_rfl)
theorem aOH:dW 67:=aP 67 8 (by decide) (by decide) (by kernel_rfl)
theorem Kp:dW 229:=aP 229 15 (by decide) (by decide) (by kernel_rfl)
theorem aHM:dW 311:=aP 311 17 (by decide) (by decide) (by kernel_rfl)
theorem QF:dW 983:=aP 983 31 (by decide) (by decide) (by kernel_rfl)
theorem MF:dW 11003:=aP 11003 104 (by decide) (by decide) (by kernel_rfl)
theorem QH:dW 11:=aP 11 3 (by decide) (by decide) (by kernel_rfl)
theorem aAI:dW 3691:=aP 3691 60 (by decide) (by decide) (by kernel_rfl)
theorem aAH:dW 4999:=aP 4999 70 (by decide) (by decide) (by kernel_rfl)
theorem GB:Root 405928799 22:=by
 refine bA (l:=[2,11,3691,4999]) (by kernel_rfl) fun q hq => ?_
 simp only[List.mem_cons,List.not_mem_nil,or_false]at hq
 rcases hq with rfl|rfl|rfl|rfl
 ·exact aV
 ·exact QH
 ·exact aAI
 ·exact aAH
theorem vG:dW 405928799:=GB.prm
theorem lC:dW 5:=aP 5 2 (by decide) (by decide) (by kernel_rfl)
theorem GI:dW 7:=aP 7 2 (by decide) (by decide) (by kernel_rfl)
theorem zZ:dW 19:=aP 19 4 (by decide) (by decide) (by kernel_rfl)
theorem aOM:dW 37:=aP 37 6 (by decide) (by decide) (by kernel_rfl)
theorem aHO:dW 233:=aP 233 15 (by decide) (by decide) (by kernel_rfl)
theorem XP:Root 327599 19:=by
 refine bA (l:=[2,19,37,233]) (by kernel_rfl) fun q hq => ?_
 simp only[List.mem_cons,List.not_mem_nil,or_false]at hq
 rcases hq with rfl|rfl|rfl|rfl
 ·exact aV
 ·exact zZ
 ·exact aOM
 ·exact aHO
theorem Fi:dW 327599:=XP.prm
theorem zW:Root 11465965001 3:=by
 refine bA (l:=[2,2,2,5,5,5,5,7,327599]) (by kernel_rfl) fun q hq => ?_
 simp only[List.mem_cons,List.not_mem_nil,or_false]at hq
 rcases hq with rfl|rfl|rfl|rfl|rfl|rfl|rfl|rfl|rfl
 ·exact aV
 ·exact aV
 ·exact aV
 ·exact lC
 ·exact lC
 ·exact lC
 ·exact lC
 ·exact GI
 ·exact Fi
theorem DE:dW 11465965001:=zW.prm
theorem aHN:dW 271:=aP 271 16 (by decide) (by decide) (by kernel_rfl)
theorem PX:Root 1853641 17:=by
 refine bA (l:=[2,2,2,3,3,5,19,271]) (by kernel_rfl) fun q hq => ?_
 simp only[List.mem_cons,List.not_mem_nil,or_false]at hq
 rcases hq with rfl|rfl|rfl|rfl|rfl|rfl|rfl|rfl
 ·exact aV
 ·exact aV
 ·exact aV
 ·exact fG
 ·exact fG
 ·exact lC
 ·exact zZ
 ·exact aHN
theorem YD:dW 1853641:=PX.prm
theorem aAN:dW 17:=aP 17 4 (by decide) (by decide) (by kernel_rfl)
theorem aHT:dW 109:=aP 109 10 (by decide) (by decide) (by kernel_rfl)
theorem aAP:dW 1231:=aP 1231 35 (by decide) (by decide) (by kernel_rfl)
theorem PW:Root 4562087 5:=by
 refine bA (l:=[2,17,109,1231]) (by kernel_rfl) fun q hq => ?_
 simp only[List.mem_cons,List.not_mem_nil,or_false]at hq
 rcases hq with rfl|rfl|rfl|rfl
 ·exact aV
 ·exact aAN
 ·exact aHT
 ·exact aAP
theorem YC:dW 4562087:=PW.prm
theorem aOG:dW 73:=aP 73 8 (by decide) (by decide) (by kernel_rfl)
theorem aOF:dW 89:=aP 89 9 (by decide) (by decide) (by kernel_rfl)
theorem Uc:dW 13327:=aP 13327 115 (by decide) (by decide) (by kernel_rfl)
theorem GC:Root 173171039 13:=by
 refine bA (l:=[2,73,89,13327]) (by kernel_rfl) fun q hq => ?_
 simp only[List.mem_cons,List.not_mem_nil,or_false]at hq
 rcases hq with rfl|rfl|rfl|rfl
 ·exact aV
 ·exact aOG
 ·exact aOF
 ·exact Uc
theorem LJ:dW 173171039:=GC.prm
theorem aOL:dW 41:=aP 41 6 (by decide) (by decide) (by kernel_rfl)
theorem aHF:dW 911:=aP 911 30 (by decide) (by decide) (by kernel_rfl)
theorem aAJ:dW 3557:=aP 3557 59 (by decide) (by decide) (by kernel_rfl)
theorem DA:Root 1263766531 10:=by
 refine bA (l:=[2,3,5,13,911,3557]) (by kernel_rfl) fun q hq => ?_
 simp only[List.mem_cons,List.not_mem_nil,or_false]at hq
 rcases hq with rfl|rfl|rfl|rfl|rfl|rfl
 ·exact aV
 ·exact fG
 ·exact lC
 ·exact QG
 ·exact aHF
 ·exact aAJ
theorem GJ:dW 1263766531:=DA.prm
theorem zT:Root 35385462869 2:=by
 refine bA (l:=[2,2,7,1263766531]) (by kernel_rfl) fun q hq => ?_
 simp only[List.mem_cons,List.not_mem_nil,or_false]at hq
 rcases hq with rfl|rfl|rfl|rfl
 ·exact aV
 ·exact aV
 ·exact GI
 ·exact GJ
theorem DB:dW 35385462869:=zT.prm
theorem sA:Root 2480874801745591 6:=by
 refine bA (l:=[2,3,3,5,19,41,35385462869]) (by kernel_rfl) fun q hq => ?_
 simp only[List.mem_cons,List.not_mem_nil,or_false]at hq
 rcases hq with rfl|rfl|rfl|rfl|rfl|rfl|rfl
 ·exact aV
 ·exact fG
 ·exact fG
 ·exact lC
 ·exact zZ
 ·exact aOL
 ·exact DB
theorem sQ:dW 2480874801745591:=sA.prm
theorem fA:Root 13427688667394608761327070753331941386769 17:=by
 refine bA (l:=[2,2,2,2,3,7,11,1853641,4562087,173171039,2480874801745591]) (by kernel_rfl) fun q hq => ?_
 simp only[List.mem_cons,List.not_mem_nil,or_false]at hq
 rcases hq with rfl|rfl|rfl|rfl|rfl|rfl|rfl|rfl|rfl|rfl|rfl
 ·exact aV
 ·exact aV
 ·exact aV
 ·exact aV
 ·exact fG
 ·exact GI
 ·exact QH
 ·exact YD
 ·exact YC
 ·exact LJ
 ·exact sQ
theorem fD:dW 13427688667394608761327070753331941386769:=fA.prm
theorem aAn:Root 21888242871839275222246405745257275088696311157297823662689037894645226208583 3:=by
 refine bA (l:=[2,3,3,13,29,67,229,311,983,11003,405928799,11465965001,13427688667394608761327070753331941386769]) (by kernel_rfl) fun q hq => ?_
 simp only[List.mem_cons,List.not_mem_nil,or_false]at hq
 rcases hq with rfl|rfl|rfl|rfl|rfl|rfl|rfl|rfl|rfl|rfl|rfl|rfl|rfl
 ·exact aV
 ·exact fG
 ·exact fG
 ·exact QG
 ·exact aAL
 ·exact aOH
 ·exact Kp
 ·exact aHM
 ·exact QF
 ·exact MF
 ·exact vG
 ·exact DE
 ·exact fD
theorem aHK:dW 449:=aP 449 21 (by decide) (by decide) (by kernel_rfl)
theorem XR:Root 237073 15:=by
 refine bA (l:=[2,2,2,2,3,11,449]) (by kernel_rfl) fun q hq => ?_
 simp only[List.mem_cons,List.not_mem_nil,or_false]at hq
 rcases hq with rfl|rfl|rfl|rfl|rfl|rfl|rfl
 ·exact aV
 ·exact aV
 ·exact aV
 ·exact aV
 ·exact fG
 ·exact QH
 ·exact aHK
theorem Fk:dW 237073:=XR.prm
theorem Kq:dW 107:=aP 107 10 (by decide) (by decide) (by kernel_rfl)
theorem aHJ:dW 661:=aP 661 25 (by decide) (by decide) (by kernel_rfl)
theorem Tz:dW 93001:=aP 93001 304 (by decide) (by decide) (by kernel_rfl)
theorem zV:Root 12048837557 2:=by
 refine bA (l:=[2,2,7,7,661,93001]) (by kernel_rfl) fun q hq => ?_
 simp only[List.mem_cons,List.not_mem_nil,or_false]at hq
 rcases hq with rfl|rfl|rfl|rfl|rfl|rfl
 ·exact aV
 ·exact aV
 ·exact GI
 ·exact GI
 ·exact aHJ
 ·exact Tz
theorem DD:dW 12048837557:=zV.prm
theorem vY:Root 5156902474397 2:=by
 refine bA (l:=[2,2,107,12048837557]) (by kernel_rfl) fun q hq => ?_
 simp only[List.mem_cons,List.not_mem_nil,or_false]at hq
 rcases hq with rfl|rfl|rfl|rfl
 ·exact aV
 ·exact aV
 ·exact Kq
 ·exact DD
theorem xW:dW 5156902474397:=vY.prm
theorem sB:Root 1670836401704629 2:=by
 refine bA (l:=[2,2,3,3,3,3,5156902474397]) (by kernel_rfl) fun q hq => ?_
 simp only[List.mem_cons,List.not_mem_nil,or_false]at hq
 rcases hq with rfl|rfl|rfl|rfl|rfl|rfl|rfl
 ·exact aV
 ·exact aV
 ·exact fG
 ·exact fG
 ·exact fG
 ·exact fG
 ·exact xW
theorem sR:dW 1670836401704629:=sB.prm
theorem aHH:dW 823:=aP 823 28 (by decide) (by decide) (by kernel_rfl)
theorem Ub:dW 41927:=aP 41927 204 (by decide) (by decide) (by kernel_rfl)
theorem PZ:Root 1593227 2:=by
 refine bA (l:=[2,19,41927]) (by kernel_rfl) fun q hq => ?_
 simp only[List.mem_cons,List.not_mem_nil,or_false]at hq
 rcases hq with rfl|rfl|rfl
 ·exact aV
 ·exact zZ
 ·exact Ub
theorem YG:dW 1593227:=PZ.prm
theorem aAG:dW 83:=aP 83 9 (by decide) (by decide) (by kernel_rfl)
theorem aHL:dW 379:=aP 379 19 (by decide) (by decide) (by kernel_rfl)
theorem YE:dW 1637:=aP 1637 40 (by decide) (by decide) (by kernel_rfl)
theorem aHG:dW 853:=aP 853 29 (by decide) (by decide) (by kernel_rfl)
theorem GA:Root 639533339 2:=by
 refine bA (l:=[2,229,853,1637]) (by kernel_rfl) fun q hq => ?_
 simp only[List.mem_cons,List.not_mem_nil,or_false]at hq
 rcases hq with rfl|rfl|rfl|rfl
 ·exact aV
 ·exact Kp
 ·exact aHG
 ·exact YE
theorem LI:dW 639533339:=GA.prm
theorem qM:Root 65865678001877903 5:=by
 refine bA (l:=[2,83,379,1637,639533339]) (by kernel_rfl) fun q hq => ?_
 simp only[List.mem_cons,List.not_mem_nil,or_false]at hq
 rcases hq with rfl|rfl|rfl|rfl|rfl
 ·exact aV
 ·exact aAG
 ·exact aHL
 ·exact YE
 ·exact LI
theorem sD:dW 65865678001877903:=qM.prm
theorem iF:Root 13818364434197438864469338081 3:=by
 refine bA (l:=[2,2,2,2,2,5,823,1593227,65865678001877903]) (by kernel_rfl) fun q hq => ?_
 simp only[List.mem_cons,List.not_mem_nil,or_false]at hq
 rcases hq with rfl|rfl|rfl|rfl|rfl|rfl|rfl|rfl|rfl
 ·exact aV
 ·exact aV
 ·exact aV
 ·exact aV
 ·exact aV
 ·exact lC
 ·exact aHH
 ·exact YG
 ·exact sD
theorem iT:dW 13818364434197438864469338081:=iF.prm
theorem aAm:Root 21888242871839275222246405745257275088548364400416034343698204186575808495617 5:=by
 refine bA (l:=[2,2,2,2,2,2,2,2,2,2,2,2,2,2,2,2,2,2,2,2,2,2,2,2,2,2,2,2,3,3,13,29,983,11003,237073,405928799,1670836401704629,13818364434197438864469338081]) (by kernel_rfl) fun q hq => ?_
 simp only[List.mem_cons,List.not_mem_nil,or_false]at hq
 rcases hq with rfl|rfl|rfl|rfl|rfl|rfl|rfl|rfl|rfl|rfl|rfl|rfl|rfl|rfl|rfl|rfl|rfl|rfl|rfl|rfl|rfl|rfl|rfl|rfl|rfl|rfl|rfl|rfl|rfl|rfl|rfl|rfl|rfl|rfl|rfl|rfl|rfl|rfl
 ·exact aV
 ·exact aV
 ·exact aV
 ·exact aV
 ·exact aV
 ·exact aV
 ·exact aV
 ·exact aV
 ·exact aV
 ·exact aV
 ·exact aV
 ·exact aV
 ·exact aV
 ·exact aV
 ·exact aV
 ·exact aV
 ·exact aV
 ·exact aV
 ·exact aV
 ·exact aV
 ·exact aV
 ·exact aV
 ·exact aV
 ·exact aV
 ·exact aV
 ·exact aV
 ·exact aV
 ·exact aV
 ·exact fG
 ·exact fG
 ·exact QG
 ·exact aAL
 ·exact QF
 ·exact MF
 ·exact Fk
 ·exact vG
 ·exact sR
 ·exact iT
theorem aAF:dW 21888242871839275222246405745257275088548364400416034343698204186575808495617:=aAm.prm
section
variable {M g:Nat}
theorem aAX (a n:Nat):(a%M)^n%M=a^n%M:=(Nat.pow_mod a n M).symm
theorem AF (a b:Nat):a%M*b%M=a*b%M:=by rw[Nat.mul_mod,Nat.mod_mod,←Nat.mul_mod]
theorem NC (a b:Nat):a*(b%M)%M=a*b%M:=by rw[Nat.mul_mod,Nat.mod_mod,←Nat.mul_mod]
theorem aDG (hr:Root M g) {a:Nat} (h0:0<a) (h:a<M):a^(M-1)%M=1:=by
 obtain⟨h1,hg,_,hs⟩:=hr;obtain⟨k,hk,rfl⟩:=hs a h0 h;rw[aAX,←Nat.pow_mul,Nat.mul_comm,sS h1 hg]
theorem Nb (hr:Root M g) {a:Nat} (h2:2≤M) (h0:0<a) (h:a<M):a*(a^(M-2)%M)%M=1:=by
 rw[NC,←Nat.pow_succ',show (M-2).succ=M-1 by omega,aDG hr h0 h]
theorem aEB (hr:Root M g) {a b c:Nat} (h2:2≤M) (h0:0<a) (h:a<M) (e:a*b%M=a*c%M):b%M=c%M:=by
 have hi:=Nb hr h2 h0 h;have key:∀x,a^(M-2)%M*(a*x%M)%M=x%M:=fun x=>by
  rw[NC,←Nat.mul_assoc,Nat.mul_mod,Nat.mul_comm _ a,hi,Nat.one_mul,Nat.mod_mod]
 rw[←key b,e,key c]
theorem Wt (hr:Root M g) {a b:Nat} (h2:2≤M) (h0:0<a) (h:a<M) (e:a*b%M=0):b%M=0:=by
 have:=aEB hr (c:=0) h2 h0 h (by rw[e,Nat.mul_zero,Nat.zero_mod]);rw[this,Nat.zero_mod]
theorem mul_ne (hr:Root M g) {a b:Nat} (h2:2≤M) (ha0:0<a) (ha:a<M) (hb0:0<b) (hb:b<M):0<a*b%M:=by
 rcases Nat.eq_zero_or_pos (a*b%M)with h|h
 ·have:=Wt hr h2 ha0 ha h;rw[Nat.mod_eq_of_lt hb]at this; omega
 ·exact h
end
theorem Hh:Root FP.M 3:=by
 rw[show FP.M=21888242871839275222246405745257275088696311157297823662689037894645226208583 from by decide];exact aAn
end Go.Proofs.YtglgakbkdjhojaaGreat
namespace Go.Proofs.YtglgakbkdjhojaaGreat.Ex
open Go.Proofs.Tryz
def Fld {R:Type} (K:CR R):Prop:=K.one≠K.zero∧∀x,x≠K.zero→∃y,K.mul x y=K.one
theorem Fld.zd {R:Type} {K:CR R} (h:Fld K) {a b:R} (e:K.mul a b=K.zero) (ha:a≠K.zero):b=K.zero:=by
 obtain⟨y,hy⟩:=h.2 a ha;have:=congrArg (K.mul y) e
 rwa [←K.mul_assoc,K.mul_comm y,hy,K.one_mul,K.mul_zero]at this
theorem xH {R:Type} {K:CR R} (h:Fld K) {a:R} (e:K.mul a a=K.zero):a=K.zero:=by
 by_cases ha:a=K.zero
 ·exact ha
 ·exact h.zd e ha
theorem Pn:F1.one≠F1.zero:=fun h=>by have:=congrArg Fin.val h; exact absurd this (by decide)
theorem aWR {x:Fq} (h:x≠F1.zero):0<x.1:=by
 rcases Nat.eq_zero_or_pos x.1 with h0|h0
 ·exact absurd (Fin.ext h0:x=F1.zero) h
 ·exact h0
theorem yQ {x:Fq} (h:x≠F1.zero):F1.mul x (cT x)=F1.one:=by
 apply Fin.ext;show x.1*(cT x).1%FP.M=1;rw[Ao,Nat.one_mul];exact Nb Hh (by decide) (aWR h) x.2
theorem aMq:Fld F1:=⟨Pn,fun x h=>⟨_,yQ h⟩⟩
theorem Vh {n:Nat} (h0:0<n) (h:n<FP.M):n^(FP.M-1)%FP.M=1:=aDG Hh h0 h
def sV:Nat:=(FP.M-1)/3
def GN:Nat:=(FP.M-1)/2
theorem VJ:3*sV=FP.M-1:=by decide
theorem RU:2*GN=FP.M-1:=by decide
theorem aEi:82^sV%FP.M≠1:=by
 rw[←BV FP.M 256 82 sV (by decide)];exact of_decide_eq_true (by kernel_rfl)
theorem aCZ:82^GN%FP.M≠1:=by
 rw[←BV FP.M 256 82 GN (by decide)];exact of_decide_eq_true (by kernel_rfl)
theorem aIL:(FP.M-1)^GN%FP.M≠1:=by
 rw[←BV FP.M 256 (FP.M-1) GN (by decide)];exact of_decide_eq_true (by kernel_rfl)
theorem aIK (n:Fq):F1.mul n (F1.mul n n)≠fm 82:=fun h=>by
 have hv:n.1^3%FP.M=82:=by
  have:=congrArg Fin.val h;have e:n.1*(n.1*n.1%FP.M)%FP.M=82%FP.M:=this;rw[Nat.mul_mod_mod,←Nat.mul_assoc,show n.1*n.1*n.1=n.1^3 by rw[Nat.pow_succ,Nat.pow_two]]at e;rw[e]; decide
 have h0:0<n.1:=by
  rcases Nat.eq_zero_or_pos n.1 with h0|h0
  ·rw[h0]at hv; exact absurd hv (by decide)
  ·exact h0
 have:=Vh h0 n.2;rw[←VJ,Nat.pow_mul,Nat.pow_mod,hv]at this;exact aEi this
theorem aWa (n:Fq):F1.mul n n≠fm 82:=fun h=>by
 have hv:n.1^2%FP.M=82:=by
  have:=congrArg Fin.val h;have e:n.1*n.1%FP.M=82%FP.M:=this;rw[Nat.pow_two,e]; decide
 have h0:0<n.1:=by
  rcases Nat.eq_zero_or_pos n.1 with h0|h0
  ·rw[h0]at hv; exact absurd hv (by decide)
  ·exact h0
 have:=Vh h0 n.2;rw[←RU,Nat.pow_mul,Nat.pow_mod,hv]at this;exact aCZ this
theorem aQl (n:Fq):F1.mul n n≠F1.neg F1.one:=fun h=>by
 have hv:n.1^2%FP.M=FP.M-1:=by
  have:=congrArg Fin.val h;have e:n.1*n.1%FP.M=(0+FP.M-1)%FP.M:=this;rw[Nat.pow_two,e]; decide
 have h0:0<n.1:=by
  rcases Nat.eq_zero_or_pos n.1 with h0|h0
  ·rw[h0]at hv; exact absurd hv (by decide)
  ·exact h0
 have:=Vh h0 n.2;rw[←RU,Nat.pow_mul,Nat.pow_mod,hv]at this;exact aIL this
theorem aEa {R:Type} {K:CR R} (h:Fld K) {a b q:R} (hb:b≠K.zero) (e:K.mul a a=K.mul q (K.mul b b)):∃t,K.mul t t=q:=by
 obtain⟨y,hy⟩:=h.2 b hb;refine⟨K.mul a y,?_⟩;have h1:K.mul (K.mul a y) (K.mul a y)=K.mul (K.mul a a) (K.mul y y):=aE K (aU K [a,y]) (Z0*Z1*(Z0*Z1)) (Z0*Z0*(Z1*Z1)) (by decide);have h2:K.mul (K.mul q (K.mul b b)) (K.mul y y)=K.mul q (K.mul (K.mul b y) (K.mul b y)):=aE K (aU K [q,b,y]) (Z0*(Z1*Z1)*(Z2*Z2)) (Z0*(Z1*Z2*(Z1*Z2))) (by decide);rw[h1,e,h2,hy,K.mul_one,K.mul_one]
theorem aEb {R:Type} {K:CR R} (h:Fld K) {a b q:R} (hb:b≠K.zero) (e:K.mul a (K.mul a a)=K.mul q (K.mul b (K.mul b b))):∃t,K.mul t (K.mul t t)=q:=by
 obtain⟨y,hy⟩:=h.2 b hb;refine⟨K.mul a y,?_⟩;have h1:K.mul (K.mul a y) (K.mul (K.mul a y) (K.mul a y))=K.mul (K.mul a (K.mul a a)) (K.mul y (K.mul y y)):=aE K (aU K [a,y]) (Z0*Z1*(Z0*Z1*(Z0*Z1))) (Z0*(Z0*Z0)*(Z1*(Z1*Z1))) (by decide);have h2:K.mul (K.mul q (K.mul b (K.mul b b))) (K.mul y (K.mul y y))=K.mul q (K.mul (K.mul b y) (K.mul (K.mul b y) (K.mul b y))):=aE K (aU K [q,b,y]) (Z0*(Z1*(Z1*Z1))*(Z2*(Z2*Z2))) (Z0*(Z1*Z2*(Z1*Z2*(Z1*Z2)))) (by decide);rw[h1,e,h2,hy,K.mul_one,K.mul_one,K.mul_one]
theorem pO {x:Q2} (h:sE x=F1.zero):x=F2.zero:=by
 have h1:F1.mul x.1 x.1=F1.mul (F1.neg F1.one) (F1.mul x.2 x.2):=by
  rw[F1.neg_mul,F1.one_mul];apply F1.add_cancel (a:=F1.mul x.2 x.2);rw[F1.add_neg,F1.add_comm];exact h
 by_cases hb:x.2=F1.zero
 ·rw[hb,F1.mul_zero,F1.mul_zero]at h1;exact Prod.ext (xH aMq h1) hb
 ·obtain⟨t,ht⟩:=aEa aMq hb h1;exact absurd ht (aQl t)
theorem UL {x:Q2} (h:sE x≠F1.zero):F2.mul x (dV x)=F2.one:=by
 have hi:=yQ h;refine Prod.ext ?_ ?_
 ·show F1.add (F1.mul x.1 (F1.mul x.1 (cT (sE x)))) (F1.mul (F1.neg F1.one) (F1.mul x.2 (F1.mul (F1.neg x.2) (cT (sE x)))))=F1.one;refine Eq.trans ?_ hi;exact aE F1 (aU F1 [x.1,x.2,cT (sE x)]) (Z0*(Z0*Z2)+(-RE.one)*(Z1*((-Z1)*Z2))) ((Z0*Z0+Z1*Z1)*Z2) (by decide)
 ·show F1.add (F1.mul x.1 (F1.mul (F1.neg x.2) (cT (sE x)))) (F1.mul x.2 (F1.mul x.1 (cT (sE x))))=F1.zero;exact aE F1 (aU F1 [x.1,x.2,cT (sE x)]) (Z0*((-Z1)*Z2)+Z1*(Z0*Z2)) .zero (by decide)
theorem AY:Fld F2:=⟨fun h=>Pn (congrArg Prod.fst h),fun x h=>⟨_,UL fun e=>h (pO e)⟩⟩
theorem yF (x y:Q2):sE (F2.mul x y)=F1.mul (sE x) (sE y) :=
 aE F1 (aU F1 [x.1,x.2,y.1,y.2]) ((Z0*Z2+(-RE.one)*(Z1*Z3))*(Z0*Z2+(-RE.one)*(Z1*Z3))+(Z0*Z3+Z1*Z2)*(Z0*Z3+Z1*Z2))
  ((Z0*Z0+Z1*Z1)*(Z2*Z2+Z3*Z3)) (by decide)
theorem aLV:sE dG=fm 82:=by decide
theorem Jl (t:Q2):F2.mul t (F2.mul t t)≠dG:=fun h=>by
 have:=congrArg sE h;rw[yF,yF,aLV]at this;exact aIK _ this
theorem aUl (t:Q2):F2.mul t t≠dG:=fun h=>by
 have:=congrArg sE h;rw[yF,aLV]at this;exact aWa _ this
theorem aKG (x:Q6) (k:Q2):F6.mul x (s6 (nZ x) k)=(F2.mul (n6 x) k,F2.zero,F2.zero):=by
 refine Prod.ext ?_ (Prod.ext ?_ ?_)
 ·exact aE F2 (aU F2 [x.1,x.2.1,x.2.2,dG,k])
   (Z0*((Z0*Z0-Z1*Z2*Z3)*Z4)+Z3*(Z1*((Z1*Z1-Z0*Z2)*Z4)+Z2*((Z2*Z2*Z3-Z0*Z1)*Z4)))
   ((Z0*(Z0*Z0-Z1*Z2*Z3)+Z3*(Z1*(Z1*Z1-Z0*Z2)+Z2*(Z2*Z2*Z3-Z0*Z1)))*Z4) (by decide)
 ·exact aE F2 (aU F2 [x.1,x.2.1,x.2.2,dG,k])
   (Z0*((Z2*Z2*Z3-Z0*Z1)*Z4)+Z1*((Z0*Z0-Z1*Z2*Z3)*Z4)+Z3*(Z2*((Z1*Z1-Z0*Z2)*Z4))) .zero (by decide)
 ·exact aE F2 (aU F2 [x.1,x.2.1,x.2.2,dG,k])
   (Z0*((Z1*Z1-Z0*Z2)*Z4)+Z1*((Z2*Z2*Z3-Z0*Z1)*Z4)+Z2*((Z0*Z0-Z1*Z2*Z3)*Z4)) .zero (by decide)
theorem IH {R:Type} {K:CR R} {a b:R} (h:K.add a (K.neg b)=K.zero):a=b:=by
 have h2:K.add (K.add a (K.neg b)) b=K.add K.zero b:=congrArg (fun x=>K.add x b) h
 rwa [K.add_assoc,K.neg_add,K.add_zero,K.zero_add]at h2
theorem Mj {x:Q6} (h:n6 x=F2.zero):x=F6.zero:=by
 have hA:F2.mul (nZ x).2.1 (F2.mul (nZ x).2.1 (nZ x).2.1)=F2.mul dG (F2.mul (nZ x).2.2 (F2.mul (nZ x).2.2 (nZ x).2.2)):=by
  apply IH;have e:F2.add (F2.mul (nZ x).2.1 (F2.mul (nZ x).2.1 (nZ x).2.1)) (F2.neg (F2.mul dG (F2.mul (nZ x).2.2 (F2.mul (nZ x).2.2 (nZ x).2.2))))=F2.mul (n6 x) (F2.add (F2.mul dG (F2.mul x.2.2 (F2.mul x.2.2 x.2.2))) (F2.neg (F2.mul x.2.1 (F2.mul x.2.1 x.2.1)))) :=
   aE F2 (aU F2 [x.1,x.2.1,x.2.2,dG])
    ((Z2*Z2*Z3-Z0*Z1)*((Z2*Z2*Z3-Z0*Z1)*(Z2*Z2*Z3-Z0*Z1))-Z3*((Z1*Z1-Z0*Z2)*((Z1*Z1-Z0*Z2)*(Z1*Z1-Z0*Z2))))
    ((Z0*(Z0*Z0-Z1*Z2*Z3)+Z3*(Z1*(Z1*Z1-Z0*Z2)+Z2*(Z2*Z2*Z3-Z0*Z1)))*(Z3*(Z2*(Z2*Z2))-Z1*(Z1*Z1))) (by decide)
  rw[e,h,F2.zero_mul]
 have h2:(nZ x).2.2=F2.zero:=by
  by_cases hb:(nZ x).2.2=F2.zero
  ·exact hb
  ·obtain⟨t,ht⟩:=aEb AY hb hA;exact absurd ht (Jl t)
 have h1:(nZ x).2.1=F2.zero:=by
  rw[h2,F2.mul_zero,F2.mul_zero,F2.mul_zero]at hA
  by_cases ha:(nZ x).2.1=F2.zero
  ·exact ha
  ·exact xH AY (AY.zd hA ha)
 have g2:F2.mul x.2.1 x.2.1=F2.mul x.1 x.2.2:=IH (K:=F2) h2;have g1:F2.mul (F2.mul x.2.2 x.2.2) dG=F2.mul x.1 x.2.1:=IH (K:=F2) h1;have h3:x.2.2=F2.zero:=by
  by_cases hc:x.2.2=F2.zero
  ·exact hc
  ·
   have e:F2.mul x.2.1 (F2.mul x.2.1 x.2.1)=F2.mul dG (F2.mul x.2.2 (F2.mul x.2.2 x.2.2)):=by
    rw[g2];have e1:F2.mul x.2.1 (F2.mul x.1 x.2.2)=F2.mul (F2.mul x.1 x.2.1) x.2.2:=aE F2 (aU F2 [x.1,x.2.1,x.2.2]) (Z1*(Z0*Z2)) (Z0*Z1*Z2) (by decide);rw[e1,←g1];exact aE F2 (aU F2 [x.2.2,dG]) (Z0*Z0*Z1*Z0) (Z1*(Z0*(Z0*Z0))) (by decide)
   obtain⟨t,ht⟩:=aEb AY hc e;exact absurd ht (Jl t)
 have h4:x.2.1=F2.zero:=by
  rw[h3,F2.mul_zero]at g2;exact xH AY g2
 have h5:x.1=F2.zero:=by
  have e:F2.mul x.1 (F2.mul x.1 x.1)=F2.zero:=by
   rw[←h];show F2.mul x.1 (F2.mul x.1 x.1)=F2.add (F2.mul x.1 (F2.sub (F2.mul x.1 x.1) (F2.mul (F2.mul x.2.1 x.2.2) dG))) (F2.mul dG (F2.add (F2.mul x.2.1 (nZ x).2.2) (F2.mul x.2.2 (nZ x).2.1)));rw[h1,h2,h3,F2.mul_zero x.2.1,F2.mul_zero F2.zero,F2.add_zero,F2.mul_zero dG,F2.add_zero,F2.zero_mul];show F2.mul x.1 (F2.mul x.1 x.1)=F2.mul x.1 (F2.add (F2.mul x.1 x.1) (F2.neg F2.zero));rw[bK,F2.add_zero]
  by_cases ha:x.1=F2.zero
  ·exact ha
  ·exact xH AY (AY.zd e ha)
 exact Prod.ext h5 (Prod.ext h4 h3)
theorem aFv {x:Q6} (h:sE (n6 x)≠F1.zero):F6.mul x (iv6 x)=F6.one:=by
 show F6.mul x (s6 (nZ x) (dV (n6 x)))=_;rw[aKG,UL h];rfl
theorem aRI:Fld F6:=⟨fun h=>AY.1 (congrArg Prod.fst h),fun x h=>⟨_,aFv fun e=>h (Mj (pO e))⟩⟩
theorem Wy {z:Q2} (h:F2.mul dG (F2.mul z z)=F2.one):False:=by
 have hz:z≠F2.zero:=fun e=>by rw[e,F2.mul_zero,F2.mul_zero]at h; exact AY.1 h.symm
 obtain⟨y,hy⟩:=AY.2 z hz;refine aUl y ?_;have e:F2.mul (F2.mul y y) (F2.mul dG (F2.mul z z))=F2.mul dG (F2.mul (F2.mul z y) (F2.mul z y)):=aE F2 (aU F2 [y,z,dG]) (Z0*Z0*(Z2*(Z1*Z1))) (Z2*(Z1*Z0*(Z1*Z0))) (by decide)
 rwa [h,hy,F2.mul_one,F2.mul_one,F2.mul_one]at e
theorem aYC (s:Q6):F6.mul s s≠vE:=fun h=>by
 have c0:F2.add (F2.mul s.1 s.1) (F2.mul dG (F2.add (F2.mul s.2.1 s.2.2) (F2.mul s.2.2 s.2.1)))=F2.zero:=congrArg Prod.fst h;have c1:F2.add (F2.add (F2.mul s.1 s.2.1) (F2.mul s.2.1 s.1)) (F2.mul dG (F2.mul s.2.2 s.2.2))=F2.one:=congrArg (fun x=>x.2.1) h;have c2:F2.add (F2.add (F2.mul s.1 s.2.2) (F2.mul s.2.1 s.2.1)) (F2.mul s.2.2 s.1)=F2.zero:=congrArg (fun x=>x.2.2) h;have e:F2.mul s.1 (F2.add (F2.mul s.1 s.2.1) (F2.neg (F2.mul (F2.add (F2.add F2.one F2.one) (F2.add F2.one F2.one)) (F2.mul dG (F2.mul s.2.2 s.2.2)))))=F2.zero:=by
  have e1:F2.mul s.1 (F2.add (F2.mul s.1 s.2.1) (F2.neg (F2.mul (F2.add (F2.add F2.one F2.one) (F2.add F2.one F2.one)) (F2.mul dG (F2.mul s.2.2 s.2.2)))))=F2.add (F2.mul s.2.1 (F2.add (F2.mul s.1 s.1) (F2.mul dG (F2.add (F2.mul s.2.1 s.2.2) (F2.mul s.2.2 s.2.1))))) (F2.neg (F2.mul (F2.mul (F2.add F2.one F2.one) (F2.mul dG s.2.2)) (F2.add (F2.add (F2.mul s.1 s.2.2) (F2.mul s.2.1 s.2.1)) (F2.mul s.2.2 s.1)))) :=
   aE F2 (aU F2 [s.1,s.2.1,s.2.2,dG])
    (Z0*(Z0*Z1-(RE.one+RE.one+(RE.one+RE.one))*(Z3*(Z2*Z2))))
    (Z1*(Z0*Z0+Z3*(Z1*Z2+Z2*Z1))-(RE.one+RE.one)*(Z3*Z2)*(Z0*Z2+Z1*Z1+Z2*Z0)) (by decide)
  rw[e1,c0,c2,F2.mul_zero,F2.mul_zero,bK,F2.add_zero]
 by_cases h0:s.1=F2.zero
 ·rw[h0,F2.zero_mul,F2.mul_zero,F2.zero_add,F2.zero_add]at c1;exact Wy c1
 ·have g:=IH (AY.zd e h0);rw[F2.mul_comm s.2.1 s.1,g]at c1;refine Wy (z:=F2.mul (F2.add (F2.add F2.one F2.one) F2.one) s.2.2) ?_;refine Eq.trans ?_ c1;exact aE F2 (aU F2 [s.2.2,dG]) (Z1*((RE.one+RE.one+RE.one)*Z0*((RE.one+RE.one+RE.one)*Z0)))
   ((RE.one+RE.one+(RE.one+RE.one))*(Z1*(Z0*Z0))+(RE.one+RE.one+(RE.one+RE.one))*(Z1*(Z0*Z0))+Z1*(Z0*Z0)) (by decide)
theorem aCh {x:aM} (h:n12 x=F6.zero):x=aC.zero:=by
 have e:F6.mul x.1 x.1=F6.mul vE (F6.mul x.2 x.2):=IH (K:=F6) h;have hb:x.2=F6.zero:=by
  by_cases hb:x.2=F6.zero
  ·exact hb
  ·obtain⟨t,ht⟩:=aEa aRI hb e;exact absurd ht (aYC t)
 rw[hb,F6.mul_zero,F6.mul_zero]at e;exact Prod.ext (xH aRI e) hb
theorem uF {x:aM} (h:uU x=F1.zero):x=aC.zero:=aCh (Mj (pO h))
theorem aJd {R:Type} (K:CR R) (a b v k:R):K.add (K.mul a (K.mul a k)) (K.mul v (K.mul b (K.mul (K.sub K.zero b) k)))=K.mul (K.sub (K.mul a a) (K.mul v (K.mul b b))) k :=
 aE K (aU K [a,b,v,k]) (Z0*(Z0*Z3)+Z2*(Z1*((RE.zero-Z1)*Z3))) ((Z0*Z0-Z2*(Z1*Z1))*Z3) (by decide)
theorem aJc {R:Type} (K:CR R) (a b k:R):K.add (K.mul a (K.mul (K.sub K.zero b) k)) (K.mul b (K.mul a k))=K.zero :=
 aE K (aU K [a,b,k]) (Z0*((RE.zero-Z1)*Z2)+Z1*(Z0*Z2)) .zero (by decide)
theorem UM {x:aM} (h:uU x≠F1.zero):aC.mul x (kI x)=aC.one:=by
 have hi:F6.mul (n12 x) (iv6 (n12 x))=F6.one:=aFv h;exact Prod.ext ((aJd F6 x.1 x.2 vE (iv6 (n12 x))).trans hi) (aJc F6 x.1 x.2 (iv6 (n12 x)))
theorem jJ:Fld aC:=⟨fun h=>aRI.1 (congrArg Prod.fst h),fun x h=>⟨_,UM fun e=>h (uF e)⟩⟩
def pf {R:Type} (K:CR R):Nat→R→Nat→R
 | 0,_,_=>K.one
 | f+1,b,e=>bif Nat.beq e 0 then K.one else bif Nat.beq (e%2) 1 then K.mul b (pf K f (K.mul b b) (e/2))else pf K f (K.mul b b) (e/2)
theorem Kr {R:Type} (K:CR R):∀(f:Nat) (b:R) (e:Nat),e<2^f→pf K f b e=bH K b e
 | 0,b,e,h=>by
  have:e=0:=by omega
  subst this; rfl
 | f+1,b,e,h=>by
  rw[Nat.pow_succ]at h;unfold pf;cases h0:Nat.beq e 0
  ·have hi:=Kr K f (K.mul b b) (e/2) (by omega);have hb:K.mul b b=bH K b 2:=by show _=K.mul (K.mul K.one b) b; rw[K.one_mul]
   have hs:bH K (K.mul b b) (e/2)=bH K b (2*(e/2)):=by rw[hb,←dQ]
   cases h1:Nat.beq (e%2) 1
   ·have:e%2≠1:=fun h=>by rw[h]at h1; cases h1
    simp only[cond_false];rw[hi,hs];congr 1; omega
   ·have:=Nat.eq_of_beq_eq_true h1;simp only[cond_true,cond_false];rw[hi,hs];have he:e=2*(e/2)+1:=by omega
    conv=>rhs; rw[he]
    show _=K.mul (bH K b (2*(e/2))) b;rw[K.mul_comm]
  ·have:=Nat.eq_of_beq_eq_true h0;subst this; rfl
theorem aCc {R:Type} (K:CR R) (q:R) (x:R×R):∀n,nt (K.sq q) x n=(nt K x.1 n,nt K x.2 n)
 | 0=>rfl
 | n+1=>by show (K.sq q).add (nt (K.sq q) x n) x=_; rw[aCc K q x n]; rfl
theorem aLU {R:Type} (K:CR R) (q:R) (x:R×R×R):∀n,nt (K.cu q) x n=(nt K x.1 n,nt K x.2.1 n,nt K x.2.2 n)
 | 0=>rfl
 | n+1=>by show (K.cu q).add (nt (K.cu q) x n) x=_; rw[aLU K q x n]; rfl
theorem aLT (x:Fq):∀n,(nt F1 x n).1=n*x.1%FP.M
 | 0=>by rw[Nat.zero_mul]; rfl
 | n+1=>by
  show ((nt F1 x n).1+x.1)%FP.M=_;rw[aLT x n,Nat.mod_add_mod,Nat.add_mul,Nat.one_mul]
theorem ch1 (x:Fq):nt F1 x FP.M=F1.zero:=Fin.ext (by rw[aLT,Nat.mul_mod_right]; rfl)
theorem ch2 (x:Q2):nt F2 x FP.M=F2.zero:=by unfold F2; rw[aCc,ch1,ch1]; rfl
theorem ch6 (x:Q6):nt F6 x FP.M=F6.zero:=by unfold F6; rw[aLU,ch2,ch2,ch2]; rfl
theorem bAF (x:aM):nt aC x FP.M=aC.zero:=by unfold aC; rw[aCc,ch6,ch6]; rfl
theorem aHU:dW FP.M:=Hh.prm
theorem mM {R S:Type} (K:CR R) (L:CR S) (φ:R→S) (h1:φ K.one=L.one) (hm:∀a b,φ (K.mul a b)=L.mul (φ a) (φ b)) (x:R):∀n,bH L (φ x) n=φ (bH K x n)
 | 0=>h1.symm
 | n+1=>by show L.mul (bH L (φ x) n) (φ x)=φ (K.mul _ _); rw[mM K L φ h1 hm x n,hm]
theorem aVy (x:Fq):∀n,(bH F1 x n).1=x.1^n%FP.M
 | 0=>rfl
 | n+1=>by show (bH F1 x n).1*x.1%FP.M=_; rw[aVy x n,Nat.pow_succ,Nat.mod_mul_mod]
theorem YK (x m:Nat) (h:0<m):x^m=x^(m-1)*x:=by
 obtain⟨n,rfl⟩:∃n,m=n+1:=⟨m-1,by omega⟩
 rw[Nat.add_sub_cancel,Nat.pow_succ]
theorem p1 (x:Fq):bH F1 x FP.M=x:=by
 apply Fin.ext;rw[aVy]
 rcases Nat.eq_zero_or_pos x.1 with h|h
 ·rw[YK x.1 FP.M fV,h,Nat.mul_zero,Nat.zero_mod]
 ·have:=Vh h x.2;rw[YK x.1 FP.M fV,Nat.mul_mod,this,Nat.one_mul,Nat.mod_mod,Nat.mod_eq_of_lt x.2]
def i2 (a:Fq):Q2:=(a,F1.zero)
def u2:Q2:=(F1.zero,F1.one)
theorem Gy (a b:Fq):i2 (F1.mul a b)=F2.mul (i2 a) (i2 b):=by
 refine Prod.ext ?_ ?_
 ·show F1.mul a b=F1.add (F1.mul a b) (F1.mul _ (F1.mul F1.zero F1.zero)); rw[F1.mul_zero,F1.mul_zero,F1.add_zero]
 ·show F1.zero=F1.add (F1.mul a F1.zero) (F1.mul F1.zero b); rw[F1.mul_zero,F1.zero_mul,F1.add_zero]
theorem aLf (x:Q2):x=F2.add (i2 x.1) (F2.mul (i2 x.2) u2):=by
 refine Prod.ext ?_ ?_
 ·show x.1=F1.add x.1 (F1.add (F1.mul x.2 F1.zero) (F1.mul _ (F1.mul F1.zero F1.one))); rw[F1.mul_zero,F1.zero_mul,F1.mul_zero,F1.add_zero,F1.add_zero]
 ·show x.2=F1.add F1.zero (F1.add (F1.mul x.2 F1.one) (F1.mul F1.zero F1.zero)); rw[F1.mul_one,F1.mul_zero,F1.add_zero,F1.zero_add]
theorem aYD:bH F2 u2 FP.M=aJ u2:=by
 rw[←Kr F2 256 u2 FP.M (by decide)]
 kernel_rfl
theorem Nc (a:Fq):aJ (i2 a)=i2 a:=Prod.ext rfl (bK F1)
theorem aRG (x:Q2):bH F2 x FP.M=aJ x:=by
 conv=>lhs; rw[aLf x]
 rw[Nl F2 aHU ch2,mL,mM F1 F2 i2 rfl Gy,mM F1 F2 i2 rfl Gy,p1,p1,aYD]
 conv=>rhs; rw[aLf x,kR,gO,Nc,Nc]
def i6 (a:Q2):Q6:=(a,F2.zero,F2.zero)
theorem Gx (a b:Q2):i6 (F2.mul a b)=F6.mul (i6 a) (i6 b):=by
 show _=F6.mul (i6 a) (b,F2.zero,F2.zero);rw[Mk];refine Prod.ext rfl (Prod.ext ?_ ?_)<;>exact (F2.zero_mul _).symm
theorem aCV (a:Q2):MJ (i6 a)=i6 (aJ a):=by
 rw[QN];have h:aJ F2.zero=F2.zero:=by decide
 refine Prod.ext rfl (Prod.ext ?_ ?_)
 ·show F2.mul (aJ F2.zero) _=F2.zero; rw[h,F2.zero_mul]
 ·show F2.mul (aJ F2.zero) _=F2.zero; rw[h,F2.zero_mul]
theorem aLe (x:Q6):x=F6.add (i6 x.1) (F6.add (F6.mul (i6 x.2.1) vE) (F6.mul (i6 x.2.2) (F6.mul vE vE))):=by
 have h1:∀c:Q2,F6.mul (i6 c) vE=(F2.zero,c,F2.zero):=fun c=>by
  rw[F6.mul_comm,DP];show (F2.mul F2.zero dG,c,F2.zero)=_;rw[F2.zero_mul]
 have h2:∀c:Q2,F6.mul (i6 c) (F6.mul vE vE)=(F2.zero,F2.zero,c):=fun c=>by
  rw[←F6.mul_assoc,h1,F6.mul_comm,DP];show (F2.mul F2.zero dG,F2.zero,c)=_;rw[F2.zero_mul]
 rw[h1,h2];refine Prod.ext ?_ (Prod.ext ?_ ?_)
 ·show x.1=F2.add x.1 (F2.add F2.zero F2.zero); rw[F2.add_zero,F2.add_zero]
 ·show x.2.1=F2.add F2.zero (F2.add x.2.1 F2.zero); rw[F2.add_zero,F2.zero_add]
 ·show x.2.2=F2.add F2.zero (F2.add F2.zero x.2.2); rw[F2.zero_add,F2.zero_add]
theorem v_p:bH F6 vE FP.M=MJ vE:=by
 rw[←Kr F6 256 vE FP.M (by decide)]
 kernel_rfl
theorem p6 (x:Q6):bH F6 x FP.M=MJ x:=by
 conv=>lhs; rw[aLe x]
 rw[Nl F6 aHU ch6,Nl F6 aHU ch6,mL,mL,mL,mM F2 F6 i6 rfl Gx,mM F2 F6 i6 rfl Gx,mM F2 F6 i6 rfl Gx,aRG,aRG,aRG,v_p]
 conv=>rhs; rw[aLe x,uD,uD,oF,oF,oF,aCV,aCV,aCV]
def i12 (a:Q6):aM:=(a,F6.zero)
def wE:aM:=(F6.zero,F6.one)
theorem Nd (a b:Q6):i12 (F6.mul a b)=aC.mul (i12 a) (i12 b):=by
 refine Prod.ext ?_ ?_
 ·show F6.mul a b=F6.add (F6.mul a b) (F6.mul _ (F6.mul F6.zero F6.zero)); rw[F6.mul_zero,F6.mul_zero,F6.add_zero]
 ·show F6.zero=F6.add (F6.mul a F6.zero) (F6.mul F6.zero b); rw[F6.mul_zero,F6.zero_mul,F6.add_zero]
theorem aAA (x:aM):x=aC.add (i12 x.1) (aC.mul (i12 x.2) wE):=by
 refine Prod.ext ?_ ?_
 ·show x.1=F6.add x.1 (F6.add (F6.mul x.2 F6.zero) (F6.mul _ (F6.mul F6.zero F6.one))); rw[F6.mul_zero,F6.zero_mul,F6.mul_zero,F6.add_zero,F6.add_zero]
 ·show x.2=F6.add F6.zero (F6.add (F6.mul x.2 F6.one) (F6.mul F6.zero F6.zero)); rw[F6.mul_one,F6.mul_zero,F6.add_zero,F6.zero_add]
theorem aBv:MJ F6.zero=F6.zero:=by decide
theorem aBw (x y:aM):cU (aC.add x y)=aC.add (cU x) (cU y):=by
 rw[qV,qV,qV];refine Prod.ext (uD _ _) ?_;show F6.mul (MJ (F6.add x.2 y.2)) tau=F6.add _ _;rw[uD,F6.add_mul]
theorem aCW (a:Q6):cU (i12 a)=i12 (MJ a):=by
 rw[qV];refine Prod.ext rfl ?_;show F6.mul (MJ F6.zero) tau=F6.zero;rw[aBv,F6.zero_mul]
theorem w_p:bH aC wE FP.M=cU wE:=by
 rw[←Kr aC 256 wE FP.M (by decide)]
 kernel_rfl
theorem p12 (x:aM):bH aC x FP.M=cU x:=by
 conv=>lhs; rw[aAA x]
 rw[Nl aC aHU bAF,mL,mM F6 aC i12 rfl Nd,mM F6 aC i12 rfl Nd,p6,p6,w_p]
 conv=>rhs; rw[aAA x,aBw,nJ,aCW,aCW]
theorem VO {R:Type} (K:CR R) {a b:R} (h:K.sub a b=K.zero):a=b:=by
 have h1:K.add (K.add a (K.neg b)) b=b:=by
  rw[show K.add a (K.neg b)=K.zero from h,K.zero_add]
 rw[K.add_assoc,K.neg_add,K.add_zero]at h1;exact h1
theorem zI {R:Type} (K:CR R) (a:R):K.sub a a=K.zero:=K.add_neg a
set_option maxRecDepth 10000
theorem aKf {R:Type} (K:CR R) (c0 c1 c2 c3 c4 c5 q z:R):(K.add (K.add (K.mul (K.mul K.one c0) c0) (K.mul q (K.add (K.mul (K.mul (K.neg z) c2) c4) (K.mul (K.mul (K.sub z K.one) c4) c2)))) (K.mul (K.add (K.add (K.mul (K.mul (K.sub z K.one) c1) c5) (K.mul (K.mul K.one c3) c3)) (K.mul (K.mul (K.neg z) c5) c1)) q))=(K.add (K.mul K.one c0) (K.mul K.one (K.sub (K.sub (K.add (K.mul c0 c0) (K.mul q (K.mul c3 c3))) (K.mul (K.add (K.mul c1 c5) (K.mul c4 c2)) q)) c0))) :=
 aE K (aU K [c0,c1,c2,c3,c4,c5,q,z]) (RE.one*Z0*Z0+Z6*((-Z7)*Z2*Z4+(Z7-RE.one)*Z4*Z2)+((Z7-RE.one)*Z1*Z5+RE.one*Z3*Z3+(-Z7)*Z5*Z1)*Z6) (RE.one*Z0+RE.one*(Z0*Z0+Z6*(Z3*Z3)-(Z1*Z5+Z4*Z2)*Z6-Z0)) (by decide)
theorem aKe {R:Type} (K:CR R) (c0 c1 c2 c3 c4 c5 q z:R):(K.add (K.add (K.mul (K.mul K.one c0) c1) (K.mul q (K.add (K.mul (K.mul (K.neg z) c2) c5) (K.mul (K.mul (K.sub z K.one) c4) c3)))) (K.add (K.mul (K.mul (K.sub z K.one) c1) c0) (K.mul q (K.add (K.mul (K.mul K.one c3) c4) (K.mul (K.mul (K.neg z) c5) c2)))))=(K.add (K.mul z c1) (K.mul z (K.sub (K.sub (K.add (K.mul c0 c1) (K.mul q (K.mul c3 c4))) (K.mul (K.add (K.mul c2 c5) (K.mul c5 c2)) q)) c1))) :=
 aE K (aU K [c0,c1,c2,c3,c4,c5,q,z]) (RE.one*Z0*Z1+Z6*((-Z7)*Z2*Z5+(Z7-RE.one)*Z4*Z3)+((Z7-RE.one)*Z1*Z0+Z6*(RE.one*Z3*Z4+(-Z7)*Z5*Z2))) (Z7*Z1+Z7*(Z0*Z1+Z6*(Z3*Z4)-(Z2*Z5+Z5*Z2)*Z6-Z1)) (by decide)
theorem aKd {R:Type} (K:CR R) (c0 c1 c2 c3 c4 c5 q z:R):(K.add (K.add (K.add (K.mul (K.mul K.one c0) c2) (K.mul (K.mul (K.neg z) c2) c0)) (K.mul q (K.mul (K.mul (K.sub z K.one) c4) c4))) (K.add (K.mul (K.mul (K.sub z K.one) c1) c1) (K.mul q (K.add (K.mul (K.mul K.one c3) c5) (K.mul (K.mul (K.neg z) c5) c3)))))=(K.add (K.mul (K.sub z K.one) c2) (K.mul (K.sub z K.one) (K.sub (K.sub (K.add (K.mul c1 c1) (K.mul q (K.mul c4 c4))) (K.add (K.mul c0 c2) (K.mul q (K.mul c3 c5)))) c2))) :=
 aE K (aU K [c0,c1,c2,c3,c4,c5,q,z]) (RE.one*Z0*Z2+(-Z7)*Z2*Z0+Z6*((Z7-RE.one)*Z4*Z4)+((Z7-RE.one)*Z1*Z1+Z6*(RE.one*Z3*Z5+(-Z7)*Z5*Z3))) ((Z7-RE.one)*Z2+(Z7-RE.one)*(Z1*Z1+Z6*(Z4*Z4)-(Z0*Z2+Z6*(Z3*Z5))-Z2)) (by decide)
theorem aKc {R:Type} (K:CR R) (c0 c1 c2 c3 c4 c5 q z:R):(K.add (K.add (K.add (K.mul (K.mul K.one c0) c3) (K.mul (K.mul (K.neg z) c2) c1)) (K.mul q (K.mul (K.mul (K.sub z K.one) c4) c5))) (K.add (K.add (K.mul (K.mul (K.sub z K.one) c1) c2) (K.mul (K.mul K.one c3) c0)) (K.mul q (K.mul (K.mul (K.neg z) c5) c4))))=(K.add (K.mul (K.neg K.one) c3) (K.mul K.one (K.sub (K.sub (K.add (K.mul c0 c3) (K.mul c3 c0)) (K.add (K.mul c1 c2) (K.mul q (K.mul c4 c5)))) (K.sub K.zero c3)))) :=
 aE K (aU K [c0,c1,c2,c3,c4,c5,q,z]) (RE.one*Z0*Z3+(-Z7)*Z2*Z1+Z6*((Z7-RE.one)*Z4*Z5)+((Z7-RE.one)*Z1*Z2+RE.one*Z3*Z0+Z6*((-Z7)*Z5*Z4))) ((-RE.one)*Z3+RE.one*(Z0*Z3+Z3*Z0-(Z1*Z2+Z6*(Z4*Z5))-(RE.zero-Z3))) (by decide)
theorem aKb {R:Type} (K:CR R) (c0 c1 c2 c3 c4 c5 q z:R):(K.add (K.add (K.add (K.mul (K.mul K.one c0) c4) (K.mul (K.mul (K.neg z) c2) c2)) (K.mul (K.mul (K.sub z K.one) c4) c0)) (K.add (K.add (K.mul (K.mul (K.sub z K.one) c1) c3) (K.mul (K.mul K.one c3) c1)) (K.mul q (K.mul (K.mul (K.neg z) c5) c5))))=(K.add (K.mul (K.neg z) c4) (K.mul z (K.sub (K.sub (K.add (K.mul c0 c4) (K.mul c3 c1)) (K.add (K.mul c2 c2) (K.mul q (K.mul c5 c5)))) (K.sub K.zero c4)))) :=
 aE K (aU K [c0,c1,c2,c3,c4,c5,q,z]) (RE.one*Z0*Z4+(-Z7)*Z2*Z2+(Z7-RE.one)*Z4*Z0+((Z7-RE.one)*Z1*Z3+RE.one*Z3*Z1+Z6*((-Z7)*Z5*Z5))) ((-Z7)*Z4+Z7*(Z0*Z4+Z3*Z1-(Z2*Z2+Z6*(Z5*Z5))-(RE.zero-Z4))) (by decide)
theorem aKa {R:Type} (K:CR R) (c0 c1 c2 c3 c4 c5 q z:R):(K.add (K.add (K.add (K.mul (K.mul K.one c0) c5) (K.mul (K.mul (K.neg z) c2) c3)) (K.mul (K.mul (K.sub z K.one) c4) c1)) (K.add (K.add (K.mul (K.mul (K.sub z K.one) c1) c4) (K.mul (K.mul K.one c3) c2)) (K.mul (K.mul (K.neg z) c5) c0)))=(K.add (K.mul (K.sub K.one z) c5) (K.mul (K.sub z K.one) (K.sub (K.sub (K.add (K.mul c1 c4) (K.mul c4 c1)) (K.add (K.mul c0 c5) (K.mul c3 c2))) (K.sub K.zero c5)))) :=
 aE K (aU K [c0,c1,c2,c3,c4,c5,q,z]) (RE.one*Z0*Z5+(-Z7)*Z2*Z3+(Z7-RE.one)*Z4*Z1+((Z7-RE.one)*Z1*Z4+RE.one*Z3*Z2+(-Z7)*Z5*Z0)) ((RE.one-Z7)*Z5+(Z7-RE.one)*(Z1*Z4+Z4*Z1-(Z0*Z5+Z3*Z2)-(RE.zero-Z5))) (by decide)
theorem aGq {R:Type} (K:CR R) (c0 c1 c2 c3 c4 c5 q z:R):(K.add (K.add (K.sub (K.add (K.mul c0 c0) (K.mul q (K.mul c3 c3))) c0) (K.sub (K.add (K.mul c0 c0) (K.mul q (K.mul c3 c3))) c0)) (K.add (K.mul c0 c0) (K.mul q (K.mul c3 c3))))=(K.add (K.add (K.add (K.mul c0 c0) (K.mul q (K.add (K.mul c2 c4) (K.mul c4 c2)))) (K.mul (K.add (K.add (K.mul c1 c5) (K.mul c3 c3)) (K.mul c5 c1)) q)) (K.add (K.sub (K.sub (K.add (K.mul c0 c0) (K.mul q (K.mul c3 c3))) (K.mul (K.add (K.mul c1 c5) (K.mul c4 c2)) q)) c0) (K.sub (K.sub (K.add (K.mul c0 c0) (K.mul q (K.mul c3 c3))) (K.mul (K.add (K.mul c1 c5) (K.mul c4 c2)) q)) c0))) :=
 aE K (aU K [c0,c1,c2,c3,c4,c5,q,z]) (Z0*Z0+Z6*(Z3*Z3)-Z0+(Z0*Z0+Z6*(Z3*Z3)-Z0)+(Z0*Z0+Z6*(Z3*Z3))) (Z0*Z0+Z6*(Z2*Z4+Z4*Z2)+(Z1*Z5+Z3*Z3+Z5*Z1)*Z6+(Z0*Z0+Z6*(Z3*Z3)-(Z1*Z5+Z4*Z2)*Z6-Z0+(Z0*Z0+Z6*(Z3*Z3)-(Z1*Z5+Z4*Z2)*Z6-Z0))) (by decide)
theorem aGp {R:Type} (K:CR R) (c0 c1 c2 c3 c4 c5 q z:R):(K.add (K.add (K.sub (K.mul (K.add (K.mul c2 c5) (K.mul c5 c2)) q) (K.sub K.zero c1)) (K.sub (K.mul (K.add (K.mul c2 c5) (K.mul c5 c2)) q) (K.sub K.zero c1))) (K.mul (K.add (K.mul c2 c5) (K.mul c5 c2)) q))=(K.sub (K.add (K.add (K.mul c0 c1) (K.mul q (K.add (K.mul c2 c5) (K.mul c4 c3)))) (K.add (K.mul c1 c0) (K.mul q (K.add (K.mul c3 c4) (K.mul c5 c2))))) (K.add (K.sub (K.sub (K.add (K.mul c0 c1) (K.mul q (K.mul c3 c4))) (K.mul (K.add (K.mul c2 c5) (K.mul c5 c2)) q)) c1) (K.sub (K.sub (K.add (K.mul c0 c1) (K.mul q (K.mul c3 c4))) (K.mul (K.add (K.mul c2 c5) (K.mul c5 c2)) q)) c1))) :=
 aE K (aU K [c0,c1,c2,c3,c4,c5,q,z]) ((Z2*Z5+Z5*Z2)*Z6-(RE.zero-Z1)+((Z2*Z5+Z5*Z2)*Z6-(RE.zero-Z1))+(Z2*Z5+Z5*Z2)*Z6) (Z0*Z1+Z6*(Z2*Z5+Z4*Z3)+(Z1*Z0+Z6*(Z3*Z4+Z5*Z2))-(Z0*Z1+Z6*(Z3*Z4)-(Z2*Z5+Z5*Z2)*Z6-Z1+(Z0*Z1+Z6*(Z3*Z4)-(Z2*Z5+Z5*Z2)*Z6-Z1))) (by decide)
theorem aGo {R:Type} (K:CR R) (c0 c1 c2 c3 c4 c5 q z:R):(K.add (K.add (K.sub (K.add (K.mul c1 c1) (K.mul q (K.mul c4 c4))) c2) (K.sub (K.add (K.mul c1 c1) (K.mul q (K.mul c4 c4))) c2)) (K.add (K.mul c1 c1) (K.mul q (K.mul c4 c4))))=(K.add (K.add (K.add (K.add (K.mul c0 c2) (K.mul c2 c0)) (K.mul q (K.mul c4 c4))) (K.add (K.mul c1 c1) (K.mul q (K.add (K.mul c3 c5) (K.mul c5 c3))))) (K.add (K.sub (K.sub (K.add (K.mul c1 c1) (K.mul q (K.mul c4 c4))) (K.add (K.mul c0 c2) (K.mul q (K.mul c3 c5)))) c2) (K.sub (K.sub (K.add (K.mul c1 c1) (K.mul q (K.mul c4 c4))) (K.add (K.mul c0 c2) (K.mul q (K.mul c3 c5)))) c2))) :=
 aE K (aU K [c0,c1,c2,c3,c4,c5,q,z]) (Z1*Z1+Z6*(Z4*Z4)-Z2+(Z1*Z1+Z6*(Z4*Z4)-Z2)+(Z1*Z1+Z6*(Z4*Z4))) (Z0*Z2+Z2*Z0+Z6*(Z4*Z4)+(Z1*Z1+Z6*(Z3*Z5+Z5*Z3))+(Z1*Z1+Z6*(Z4*Z4)-(Z0*Z2+Z6*(Z3*Z5))-Z2+(Z1*Z1+Z6*(Z4*Z4)-(Z0*Z2+Z6*(Z3*Z5))-Z2))) (by decide)
theorem aGn {R:Type} (K:CR R) (c0 c1 c2 c3 c4 c5 q z:R):(K.add (K.add (K.sub (K.add (K.mul c0 c3) (K.mul c3 c0)) (K.sub K.zero c3)) (K.sub (K.add (K.mul c0 c3) (K.mul c3 c0)) (K.sub K.zero c3))) (K.add (K.mul c0 c3) (K.mul c3 c0)))=(K.add (K.add (K.add (K.add (K.mul c0 c3) (K.mul c2 c1)) (K.mul q (K.mul c4 c5))) (K.add (K.add (K.mul c1 c2) (K.mul c3 c0)) (K.mul q (K.mul c5 c4)))) (K.add (K.sub (K.sub (K.add (K.mul c0 c3) (K.mul c3 c0)) (K.add (K.mul c1 c2) (K.mul q (K.mul c4 c5)))) (K.sub K.zero c3)) (K.sub (K.sub (K.add (K.mul c0 c3) (K.mul c3 c0)) (K.add (K.mul c1 c2) (K.mul q (K.mul c4 c5)))) (K.sub K.zero c3)))) :=
 aE K (aU K [c0,c1,c2,c3,c4,c5,q,z]) (Z0*Z3+Z3*Z0-(RE.zero-Z3)+(Z0*Z3+Z3*Z0-(RE.zero-Z3))+(Z0*Z3+Z3*Z0)) (Z0*Z3+Z2*Z1+Z6*(Z4*Z5)+(Z1*Z2+Z3*Z0+Z6*(Z5*Z4))+(Z0*Z3+Z3*Z0-(Z1*Z2+Z6*(Z4*Z5))-(RE.zero-Z3)+(Z0*Z3+Z3*Z0-(Z1*Z2+Z6*(Z4*Z5))-(RE.zero-Z3)))) (by decide)
theorem aGm {R:Type} (K:CR R) (c0 c1 c2 c3 c4 c5 q z:R):(K.add (K.add (K.sub (K.add (K.mul c2 c2) (K.mul q (K.mul c5 c5))) (K.sub K.zero (K.sub K.zero c4))) (K.sub (K.add (K.mul c2 c2) (K.mul q (K.mul c5 c5))) (K.sub K.zero (K.sub K.zero c4)))) (K.add (K.mul c2 c2) (K.mul q (K.mul c5 c5))))=(K.sub (K.add (K.add (K.add (K.mul c0 c4) (K.mul c2 c2)) (K.mul c4 c0)) (K.add (K.add (K.mul c1 c3) (K.mul c3 c1)) (K.mul q (K.mul c5 c5)))) (K.add (K.sub (K.sub (K.add (K.mul c0 c4) (K.mul c3 c1)) (K.add (K.mul c2 c2) (K.mul q (K.mul c5 c5)))) (K.sub K.zero c4)) (K.sub (K.sub (K.add (K.mul c0 c4) (K.mul c3 c1)) (K.add (K.mul c2 c2) (K.mul q (K.mul c5 c5)))) (K.sub K.zero c4)))) :=
 aE K (aU K [c0,c1,c2,c3,c4,c5,q,z]) (Z2*Z2+Z6*(Z5*Z5)-(RE.zero-(RE.zero-Z4))+(Z2*Z2+Z6*(Z5*Z5)-(RE.zero-(RE.zero-Z4)))+(Z2*Z2+Z6*(Z5*Z5))) (Z0*Z4+Z2*Z2+Z4*Z0+(Z1*Z3+Z3*Z1+Z6*(Z5*Z5))-(Z0*Z4+Z3*Z1-(Z2*Z2+Z6*(Z5*Z5))-(RE.zero-Z4)+(Z0*Z4+Z3*Z1-(Z2*Z2+Z6*(Z5*Z5))-(RE.zero-Z4)))) (by decide)
theorem aGl {R:Type} (K:CR R) (c0 c1 c2 c3 c4 c5 q z:R):(K.add (K.add (K.sub (K.add (K.mul c1 c4) (K.mul c4 c1)) (K.sub K.zero c5)) (K.sub (K.add (K.mul c1 c4) (K.mul c4 c1)) (K.sub K.zero c5))) (K.add (K.mul c1 c4) (K.mul c4 c1)))=(K.add (K.add (K.add (K.add (K.mul c0 c5) (K.mul c2 c3)) (K.mul c4 c1)) (K.add (K.add (K.mul c1 c4) (K.mul c3 c2)) (K.mul c5 c0))) (K.add (K.sub (K.sub (K.add (K.mul c1 c4) (K.mul c4 c1)) (K.add (K.mul c0 c5) (K.mul c3 c2))) (K.sub K.zero c5)) (K.sub (K.sub (K.add (K.mul c1 c4) (K.mul c4 c1)) (K.add (K.mul c0 c5) (K.mul c3 c2))) (K.sub K.zero c5)))) :=
 aE K (aU K [c0,c1,c2,c3,c4,c5,q,z]) (Z1*Z4+Z4*Z1-(RE.zero-Z5)+(Z1*Z4+Z4*Z1-(RE.zero-Z5))+(Z1*Z4+Z4*Z1)) (Z0*Z5+Z2*Z3+Z4*Z1+(Z1*Z4+Z3*Z2+Z5*Z0)+(Z1*Z4+Z4*Z1-(Z0*Z5+Z3*Z2)-(RE.zero-Z5)+(Z1*Z4+Z4*Z1-(Z0*Z5+Z3*Z2)-(RE.zero-Z5)))) (by decide)
def zE:Q2:=(Jx,F1.zero)
theorem tt0 (c:Q2):qB (qB c Qq) Qq=F2.mul F2.one c:=by
 rw[dZ,dZ,F2.mul_assoc,F2.mul_comm];rw[show F2.mul (Qq,F1.zero) (Qq,F1.zero)=F2.one by decide]
theorem tu0 (c:Q2):qB c Qq=F2.mul F2.one c:=by
 rw[dZ,F2.mul_comm];rw[show (Qq,F1.zero)=F2.one by decide]
theorem tt1 (c:Q2):qB (qB c Jx) Jx=F2.mul (F2.sub zE F2.one) c:=by
 rw[dZ,dZ,F2.mul_assoc,F2.mul_comm];rw[show F2.mul (Jx,F1.zero) (Jx,F1.zero)=(F2.sub zE F2.one) by decide]
theorem tu1 (c:Q2):qB c Jx=F2.mul zE c:=by
 rw[dZ,F2.mul_comm];rw[show (Jx,F1.zero)=zE by decide]
theorem tt2 (c:Q2):qB (qB c Qp) Qp=F2.mul (F2.neg zE) c:=by
 rw[dZ,dZ,F2.mul_assoc,F2.mul_comm];rw[show F2.mul (Qp,F1.zero) (Qp,F1.zero)=(F2.neg zE) by decide]
theorem tu2 (c:Q2):qB c Qp=F2.mul (F2.sub zE F2.one) c:=by
 rw[dZ,F2.mul_comm];rw[show (Qp,F1.zero)=(F2.sub zE F2.one) by decide]
theorem tt3 (c:Q2):qB (qB c Qo) Qo=F2.mul F2.one c:=by
 rw[dZ,dZ,F2.mul_assoc,F2.mul_comm];rw[show F2.mul (Qo,F1.zero) (Qo,F1.zero)=F2.one by decide]
theorem tu3 (c:Q2):qB c Qo=F2.mul (F2.neg F2.one) c:=by
 rw[dZ,F2.mul_comm];rw[show (Qo,F1.zero)=(F2.neg F2.one) by decide]
theorem tt4 (c:Q2):qB (qB c Qn) Qn=F2.mul (F2.sub zE F2.one) c:=by
 rw[dZ,dZ,F2.mul_assoc,F2.mul_comm];rw[show F2.mul (Qn,F1.zero) (Qn,F1.zero)=(F2.sub zE F2.one) by decide]
theorem tu4 (c:Q2):qB c Qn=F2.mul (F2.neg zE) c:=by
 rw[dZ,F2.mul_comm];rw[show (Qn,F1.zero)=(F2.neg zE) by decide]
theorem tt5 (c:Q2):qB (qB c Qm) Qm=F2.mul (F2.neg zE) c:=by
 rw[dZ,dZ,F2.mul_assoc,F2.mul_comm];rw[show F2.mul (Qm,F1.zero) (Qm,F1.zero)=(F2.neg zE) by decide]
theorem tu5 (c:Q2):qB c Qm=F2.mul (F2.sub F2.one zE) c:=by
 rw[dZ,F2.mul_comm];rw[show (Qm,F1.zero)=(F2.sub F2.one zE) by decide]
theorem AU {R:Type} (K:CR R) {L R' Z Zi A B:R} (h:L=K.add R' (K.mul Z (K.sub A B))) (hz:K.mul Zi Z=K.one):L=R'↔A=B:=by
 constructor
 ·intro e;rw[e]at h;have h1:K.mul Z (K.sub A B)=K.zero:=by
   have h2:K.add R' (K.mul Z (K.sub A B))=K.add R' K.zero:=by rw[←h,K.add_zero]
   exact K.add_cancel h2
  have h3:K.sub A B=K.zero:=by
   rw[←K.one_mul (K.sub A B),←hz,K.mul_assoc,h1,K.mul_zero]
  exact VO K h3
 ·intro e;rw[h,e,zI,K.mul_zero,K.add_zero]
abbrev Q4:=Q2×Q2
def F4:CR Q4:=F2.sq dG
def s4 (a:Q4):Q4:=(F2.mul a.2 dG,a.1)
def OB (a:Q4):Q4:=(a.1,F2.sub F2.zero a.2)
def Xo (a b:Q4):Q4:=(F2.add (F2.add (F2.sub a.1 b.1) (F2.sub a.1 b.1)) a.1,F2.add (F2.add (F2.sub a.2 b.2) (F2.sub a.2 b.2)) a.2)
def fX (x:aM):Q4:=(x.1.1,x.2.2.1)
def fY (x:aM):Q4:=(x.2.1,x.1.2.2)
def fZ (x:aM):Q4:=(x.1.2.1,x.2.2.2)
def aCJ (x y z:Q4):aM:=((x.1,z.1,y.2),(y.1,x.2,z.2))
def aCT (x:aM):Prop:=F4.sub (F4.mul (fX x) (fX x)) (s4 (F4.mul (fY x) (fZ x)))=OB (fX x)
def aCS (x:aM):Prop:=F4.sub (F4.mul (fX x) (fY x)) (s4 (F4.mul (fZ x) (fZ x)))=OB (fY x)
def aCR (x:aM):Prop:=F4.sub (F4.mul (fY x) (fY x)) (F4.mul (fX x) (fZ x))=OB (fZ x)
def aUH (x:aM):aM:=aCJ (Xo (F4.mul (fX x) (fX x)) (OB (fX x))) (Xo (s4 (F4.mul (fZ x) (fZ x))) (F4.sub F4.zero (OB (fY x)))) (Xo (F4.mul (fY x) (fY x)) (OB (fZ x)))
theorem oJ (x y:aM):aC.mul x y=(((F2.add (F2.add (F2.mul x.1.1 y.1.1) (F2.mul dG (F2.add (F2.mul x.1.2.1 y.1.2.2) (F2.mul x.1.2.2 y.1.2.1)))) (F2.mul (F2.add (F2.add (F2.mul x.2.1 y.2.2.2) (F2.mul x.2.2.1 y.2.2.1)) (F2.mul x.2.2.2 y.2.1)) dG)),(F2.add (F2.add (F2.add (F2.mul x.1.1 y.1.2.1) (F2.mul x.1.2.1 y.1.1)) (F2.mul dG (F2.mul x.1.2.2 y.1.2.2))) (F2.add (F2.mul x.2.1 y.2.1) (F2.mul dG (F2.add (F2.mul x.2.2.1 y.2.2.2) (F2.mul x.2.2.2 y.2.2.1))))),(F2.add (F2.add (F2.add (F2.mul x.1.1 y.1.2.2) (F2.mul x.1.2.1 y.1.2.1)) (F2.mul x.1.2.2 y.1.1)) (F2.add (F2.add (F2.mul x.2.1 y.2.2.1) (F2.mul x.2.2.1 y.2.1)) (F2.mul dG (F2.mul x.2.2.2 y.2.2.2))))),((F2.add (F2.add (F2.mul x.1.1 y.2.1) (F2.mul dG (F2.add (F2.mul x.1.2.1 y.2.2.2) (F2.mul x.1.2.2 y.2.2.1)))) (F2.add (F2.mul x.2.1 y.1.1) (F2.mul dG (F2.add (F2.mul x.2.2.1 y.1.2.2) (F2.mul x.2.2.2 y.1.2.1))))),(F2.add (F2.add (F2.add (F2.mul x.1.1 y.2.2.1) (F2.mul x.1.2.1 y.2.1)) (F2.mul dG (F2.mul x.1.2.2 y.2.2.2))) (F2.add (F2.add (F2.mul x.2.1 y.1.2.1) (F2.mul x.2.2.1 y.1.1)) (F2.mul dG (F2.mul x.2.2.2 y.1.2.2)))),(F2.add (F2.add (F2.add (F2.mul x.1.1 y.2.2.2) (F2.mul x.1.2.1 y.2.2.1)) (F2.mul x.1.2.2 y.2.1)) (F2.add (F2.add (F2.mul x.2.1 y.1.2.2) (F2.mul x.2.2.1 y.1.2.1)) (F2.mul x.2.2.2 y.1.1))))):=by
 refine Prod.ext ?_ rfl;show F6.add (F6.mul x.1 y.1) (F6.mul vE (F6.mul x.2 y.2))=_;rw[DP];rfl
theorem aYJ (x:aM):aC.mul (cM (cM x)) x=(((F2.add (F2.add (F2.mul (F2.mul F2.one x.1.1) x.1.1) (F2.mul dG (F2.add (F2.mul (F2.mul (F2.neg zE) x.1.2.1) x.1.2.2) (F2.mul (F2.mul (F2.sub zE F2.one) x.1.2.2) x.1.2.1)))) (F2.mul (F2.add (F2.add (F2.mul (F2.mul (F2.sub zE F2.one) x.2.1) x.2.2.2) (F2.mul (F2.mul F2.one x.2.2.1) x.2.2.1)) (F2.mul (F2.mul (F2.neg zE) x.2.2.2) x.2.1)) dG)),(F2.add (F2.add (F2.add (F2.mul (F2.mul F2.one x.1.1) x.1.2.1) (F2.mul (F2.mul (F2.neg zE) x.1.2.1) x.1.1)) (F2.mul dG (F2.mul (F2.mul (F2.sub zE F2.one) x.1.2.2) x.1.2.2))) (F2.add (F2.mul (F2.mul (F2.sub zE F2.one) x.2.1) x.2.1) (F2.mul dG (F2.add (F2.mul (F2.mul F2.one x.2.2.1) x.2.2.2) (F2.mul (F2.mul (F2.neg zE) x.2.2.2) x.2.2.1))))),(F2.add (F2.add (F2.add (F2.mul (F2.mul F2.one x.1.1) x.1.2.2) (F2.mul (F2.mul (F2.neg zE) x.1.2.1) x.1.2.1)) (F2.mul (F2.mul (F2.sub zE F2.one) x.1.2.2) x.1.1)) (F2.add (F2.add (F2.mul (F2.mul (F2.sub zE F2.one) x.2.1) x.2.2.1) (F2.mul (F2.mul F2.one x.2.2.1) x.2.1)) (F2.mul dG (F2.mul (F2.mul (F2.neg zE) x.2.2.2) x.2.2.2))))),((F2.add (F2.add (F2.mul (F2.mul F2.one x.1.1) x.2.1) (F2.mul dG (F2.add (F2.mul (F2.mul (F2.neg zE) x.1.2.1) x.2.2.2) (F2.mul (F2.mul (F2.sub zE F2.one) x.1.2.2) x.2.2.1)))) (F2.add (F2.mul (F2.mul (F2.sub zE F2.one) x.2.1) x.1.1) (F2.mul dG (F2.add (F2.mul (F2.mul F2.one x.2.2.1) x.1.2.2) (F2.mul (F2.mul (F2.neg zE) x.2.2.2) x.1.2.1))))),(F2.add (F2.add (F2.add (F2.mul (F2.mul F2.one x.1.1) x.2.2.1) (F2.mul (F2.mul (F2.neg zE) x.1.2.1) x.2.1)) (F2.mul dG (F2.mul (F2.mul (F2.sub zE F2.one) x.1.2.2) x.2.2.2))) (F2.add (F2.add (F2.mul (F2.mul (F2.sub zE F2.one) x.2.1) x.1.2.1) (F2.mul (F2.mul F2.one x.2.2.1) x.1.1)) (F2.mul dG (F2.mul (F2.mul (F2.neg zE) x.2.2.2) x.1.2.2)))),(F2.add (F2.add (F2.add (F2.mul (F2.mul F2.one x.1.1) x.2.2.2) (F2.mul (F2.mul (F2.neg zE) x.1.2.1) x.2.2.1)) (F2.mul (F2.mul (F2.sub zE F2.one) x.1.2.2) x.2.1)) (F2.add (F2.add (F2.mul (F2.mul (F2.sub zE F2.one) x.2.1) x.1.2.2) (F2.mul (F2.mul F2.one x.2.2.1) x.1.2.1)) (F2.mul (F2.mul (F2.neg zE) x.2.2.2) x.1.1))))):=by
 rw[show cM (cM x)=((F2.mul F2.one x.1.1,F2.mul (F2.neg zE) x.1.2.1,F2.mul (F2.sub zE F2.one) x.1.2.2),(F2.mul (F2.sub zE F2.one) x.2.1,F2.mul F2.one x.2.2.1,F2.mul (F2.neg zE) x.2.2.2))from Prod.ext (Prod.ext (tt0 _) (Prod.ext (tt2 _) (tt4 _))) (Prod.ext (tt1 _) (Prod.ext (tt3 _) (tt5 _)))];exact oJ _ _
theorem aYI (x:aM):cM x=(((F2.mul F2.one x.1.1),(F2.mul (F2.sub zE F2.one) x.1.2.1),(F2.mul (F2.neg zE) x.1.2.2)),((F2.mul zE x.2.1),(F2.mul (F2.neg F2.one) x.2.2.1),(F2.mul (F2.sub F2.one zE) x.2.2.2))):=Prod.ext (Prod.ext (tu0 _) (Prod.ext (tu2 _) (tu4 _))) (Prod.ext (tu1 _) (Prod.ext (tu3 _) (tu5 _)))
theorem Kk {a0 a1 a2 a3 a4 a5 b0 b1 b2 b3 b4 b5:Q2}:(((a0,a2,a4),(a1,a3,a5)):aM)=((b0,b2,b4),(b1,b3,b5))↔((a0=b0∧a3=b3)∧(a1=b1∧a4=b4)∧(a2=b2∧a5=b5)):=by
 simp only[Prod.mk.injEq];constructor
 ·rintro⟨⟨h0,h2,h4⟩,h1,h3,h5⟩
  exact⟨⟨h0,h3⟩,⟨h1,h4⟩,h2,h5⟩
 ·rintro⟨⟨h0,h3⟩,⟨h1,h4⟩,h2,h5⟩
  exact⟨⟨h0,h2,h4⟩,h1,h3,h5⟩
theorem zY {a b:Q4}:a=b↔(a.1=b.1∧a.2=b.2):=⟨fun h=>by rw[h]; exact⟨rfl,rfl⟩,fun h=>Prod.ext h.1 h.2⟩
theorem Oh (x:aM):aC.mul (cM (cM x)) x=cM x↔(aCT x∧aCS x∧aCR x):=by
 rw[aYJ,aYI,Kk];unfold aCT aCS aCR;rw[zY,zY,zY];have e0:=AU F2 (aKf F2 x.1.1 x.2.1 x.1.2.1 x.2.2.1 x.1.2.2 x.2.2.2 dG zE) (show F2.mul F2.one F2.one=F2.one by decide);have e1:=AU F2 (aKe F2 x.1.1 x.2.1 x.1.2.1 x.2.2.1 x.1.2.2 x.2.2.2 dG zE) (show F2.mul (F2.sub F2.one zE) zE=F2.one by decide);have e2:=AU F2 (aKd F2 x.1.1 x.2.1 x.1.2.1 x.2.2.1 x.1.2.2 x.2.2.2 dG zE) (show F2.mul (F2.neg zE) (F2.sub zE F2.one)=F2.one by decide);have e3:=AU F2 (aKc F2 x.1.1 x.2.1 x.1.2.1 x.2.2.1 x.1.2.2 x.2.2.2 dG zE) (show F2.mul F2.one F2.one=F2.one by decide);have e4:=AU F2 (aKb F2 x.1.1 x.2.1 x.1.2.1 x.2.2.1 x.1.2.2 x.2.2.2 dG zE) (show F2.mul (F2.sub F2.one zE) zE=F2.one by decide);have e5:=AU F2 (aKa F2 x.1.1 x.2.1 x.1.2.1 x.2.2.1 x.1.2.2 x.2.2.2 dG zE) (show F2.mul (F2.neg zE) (F2.sub zE F2.one)=F2.one by decide);constructor
 ·rintro⟨⟨h0,h3⟩,⟨h1,h4⟩,h2,h5⟩
  exact⟨⟨e0.1 h0,e3.1 h3⟩,⟨e1.1 h1,e4.1 h4⟩,⟨e2.1 h2,e5.1 h5⟩⟩
 ·rintro⟨⟨h0,h3⟩,⟨h1,h4⟩,⟨h2,h5⟩⟩
  exact⟨⟨e0.2 h0,e3.2 h3⟩,⟨e1.2 h1,e4.2 h4⟩,⟨e2.2 h2,e5.2 h5⟩⟩
theorem TL {R:Type} (K:CR R) {t s a b:R} (h:t=K.add s (K.add (K.sub a b) (K.sub a b))) (e:a=b):t=s:=by
 rw[h,e,zI,K.add_zero,K.add_zero]
theorem Ye {R:Type} (K:CR R) {t s a b:R} (h:t=K.sub s (K.add (K.sub a b) (K.sub a b))) (e:a=b):t=s:=by
 rw[h,e,zI,K.add_zero];show K.add s (K.neg K.zero)=s;rw[bK,K.add_zero]
theorem aNW (x:aM) (h:aCT x∧aCS x∧aCR x):aUH x=aC.mul x x:=by
 unfold aCT aCS aCR at h;rw[zY,zY,zY]at h;obtain⟨⟨h0,h3⟩,⟨h1,h4⟩,h2,h5⟩:=h;rw[oJ];have hz:aC.zero=aC.zero:=rfl;refine Kk.2 ⟨⟨?_,?_⟩,⟨?_,?_⟩,?_,?_⟩
 ·exact TL F2 (aGq F2 x.1.1 x.2.1 x.1.2.1 x.2.2.1 x.1.2.2 x.2.2.2 dG zE) h0
 ·exact TL F2 (aGn F2 x.1.1 x.2.1 x.1.2.1 x.2.2.1 x.1.2.2 x.2.2.2 dG zE) h3
 ·exact Ye F2 (aGp F2 x.1.1 x.2.1 x.1.2.1 x.2.2.1 x.1.2.2 x.2.2.2 dG zE) h1
 ·exact Ye F2 (aGm F2 x.1.1 x.2.1 x.1.2.1 x.2.2.1 x.1.2.2 x.2.2.2 dG zE) h4
 ·exact TL F2 (aGo F2 x.1.1 x.2.1 x.1.2.1 x.2.2.1 x.1.2.2 x.2.2.2 dG zE) h2
 ·exact TL F2 (aGl F2 x.1.1 x.2.1 x.1.2.1 x.2.2.1 x.1.2.2 x.2.2.2 dG zE) h5
def oY (x:aM):Prop:=x≠aC.zero∧aC.mul (cM (cM x)) x=cM x
end Go.Proofs.YtglgakbkdjhojaaGreat.Ex
