/- Pu13 -/
import Derived.Test.YtfnkbmlmgnadmaaGreatPu12
import Derived.Test.YtfnkbmlmgnadmaaGreatPu03
import Derived.Test.YtfnkbmlmgnadmaaGreatPu04
set_option maxRecDepth 100000
set_option linter.unusedVariables false
set_option linter.unusedSimpArgs false
noncomputable section
namespace Go.Proofs.YtfnkbmlmgnadmaaGreat.Ex
open Go.Proofs.Tryz
open Go.RowKit
theorem xL : ∀ {l : List At} {L : List Nat},kY l = some L → aC l = L.map fun b => Value.int .u8 (Int.ofNat b)
 | [],L,h => by cases h; rfl
 | a :: r,L,h => by
  unfold kY at h;split at h
  ·rename_i x l' h1 h2;cases h;have ha : a.cells = [.int .u8 (Int.ofNat x)]:=by
    unfold u8? at h1;split at h1
    ·cases h1; rfl
    ·cases h1
   show a.cells ++ aC r = _;rw [ha,xL h2];rfl
  ·cases h
theorem cQ : ∀ {L : List Nat},L.length = 32 → bN (fun k => L.getD k 0) = L
 | [a0,a1,a2,a3,a4,a5,a6,a7,a8,a9,a10,a11,a12,a13,a14,a15,a16,a17,a18,a19,a20,a21,a22,a23,a24,a25,a26,a27,a28,a29,a30,a31],_ => rfl
theorem qQ (B : Nat → Nat) : aC (bL B) = (bN B).map fun b => Value.int .u8 (Int.ofNat b):=rfl
theorem FH {l : List At} {L : List Nat} (h : kY l = some L) (h8 : L.length = 32) : aC l = aC (bL fun k => L.getD k 0):=by rw [xL h,qQ,cQ h8]
def gTk (m : Nat) : List CA → Option (List Prop × FS)
 | [.s l 32 c,.v (.im (.int .i64 (.ofNat 1)))] => match kY l with
  | some L => some ([L8 L,L.getD 0 0 / 64 = m,32 ≤ c],⟨[.q (xv (hv L)),.q 0],2,0,0,false,[.im (.int .u8 (Int.ofNat m))],[.im (.int .i64 0)]⟩)
  | none => none
 | _ => none
def aHI : fQ
 | [.s l 32 c,.v (.im (.int .i64 (.ofNat 1)))] => match kY l with
  | some L => some ([L8 L,L.getD 0 0 / 64 = 0,32 ≤ c],.many [.im (.int .u8 0),.im (.slice none 0 0),.im (.int .i64 44)])
  | none => none
 | _ => none
theorem pJ {w : World} {v : TV} {l l' : List At} {n c : Nat} (h : aC l = aC l') {args : List Value} (ha : bK w [.s l n c,.v v] args) : bK w [.s l' n c,.v v] args:=by
 match args,ha with
 | [s,u],ha => exact ⟨by obtain ⟨b,o,e,hb,hr⟩:=ha.1; exact ⟨b,o,e,hb,by rw [← h]; exact hr⟩,ha.2.1,trivial⟩
 | [],ha => exact ha.elim
 | [_],ha => exact ha.2.elim
 | _ :: _ :: _ :: _,ha => exact ha.2.2.elim
theorem nZ (n k : Nat) : fw n k < 18446744073709551616:=Nat.mod_lt _ (by omega)
theorem aHH (m : Nat) (hm : m = 1 ∨ m = 2 ∨ m = 3) : ∀ cs pre r,gTk m cs = some (pre,r) → aP pre → ∀ (args : List Value) (w : World),bK w cs args → Calls prog 32 args.toArray w (fun e w' => r.ok w e w'):=by
 intro cs pre r hg hp args w ha;unfold gTk at hg;split at hg
 ·rename_i l c;split at hg
  ·rename_i L hL;cases hg;obtain ⟨h8,hb,hc,_⟩:=hp;have ha':=pJ (FH hL h8.1) ha;have hN:=cQ h8.1;have AR : pC .shr 5 (.tmp 32) (.const (.int .u64 6)) (.int .u8 (Int.ofNat (L.getD 0 0))) (.int .u64 6) (.int .u8 (Int.ofNat m)):=by
    have:=tA (t:=5) (x:=.tmp 32) (y:=.const (.int .u64 6)) (h8.2 0);rw [hb] at this;exact this
   have fin : ∀ {e : Ending} {w' : World},(⟨[.c (.int .u64 (Int.ofNat (fw (hv L) 0))),.c (.int .u64 (Int.ofNat (fw (hv L) 1))),.c (.int .u64 (Int.ofNat (fw (hv L) 2))),.c (.int .u64 (Int.ofNat (fw (hv L) 3 % 4611686018427387904))),.q 0],2,0,0,false,[.im (.int .u8 (Int.ofNat m))],[.im (.int .i64 0)]⟩ : FS).ok w e w' → (⟨[.q (xv (hv L)),.q 0],2,0,0,false,[.im (.int .u8 (Int.ofNat m))],[.im (.int .i64 0)]⟩ : FS).ok w e w':=fun h => h.weak (Av (hv L)).symm
   rcases hm with rfl | rfl | rfl
   ·have h:=bJ aG (fun _ _ => mW.w _ _) (Am _ _ w) func32 (aAO (fun k => L.getD k 0) c) (by rw [hN]; exact ⟨AR,JA,by omega,hc,by omega,h8,tC (nZ _ _),tB (nZ _ _),trivial⟩) ha';rw [hN] at h;exact h.mono fun e w' h => fin h
   ·have h:=bJ aG (fun _ _ => mW.w _ _) (Am _ _ w) func32 (aAN (fun k => L.getD k 0) c) (by rw [hN]; exact ⟨AR,JA,by omega,hc,by omega,h8,tC (nZ _ _),tB (nZ _ _),trivial⟩) ha';rw [hN] at h;exact h.mono fun e w' h => fin h
   ·have h:=bJ aG (fun _ _ => mW.w _ _) (Am _ _ w) func32 (aAM (fun k => L.getD k 0) c) (by rw [hN]; exact ⟨AR,JA,by omega,hc,by omega,h8,tC (nZ _ _),tB (nZ _ _),trivial⟩) ha';rw [hN] at h;exact h.mono fun e w' h => fin h
  ·cases hg
 ·cases hg
theorem aDa : ∀ cs pre r,aHI cs = some (pre,r) → aP pre → ∀ (args : List Value) (w : World),bK w cs args → Good prog 32 r args w:=by
 intro cs pre r hg hp args w ha;unfold aHI at hg;split at hg
 ·rename_i l c;split at hg
  ·rename_i L hL;cases hg;obtain ⟨h8,hb,hc,_⟩:=hp;have ha':=pJ (FH hL h8.1) ha;have AR : pC .shr 5 (.tmp 32) (.const (.int .u64 6)) (.int .u8 (Int.ofNat (L.getD 0 0))) (.int .u64 6) (.int .u8 (Int.ofNat 0)):=by
    have:=tA (t:=5) (x:=.tmp 32) (y:=.const (.int .u64 6)) (h8.2 0);rw [hb] at this;exact this
   exact aU aG (fun _ _ => mW.w _ _) (Am _ _ w) func32 (aAP (fun k => L.getD k 0) c) ⟨AR,trivial⟩ ha'
  ·cases hg
 ·cases hg
def Xh (k : Bool) (x : Nat) : Fq:=bif k then F1.mul (F1.mul (m1 x) (m1 x)) (m1 x) else F1.zero
def gE3 (k : Bool) : fQ
 | [.v (.im (.int .i64 (.ofNat 1))),.v (.fl l),.v (.fl m)] => match vZ l with
  | some x => some ([(bif k then wv x < FP.M else ¬ wv x < FP.M),aC m = aC [.q 3]],.many [.fl (e1 (Xh k x)),.im (.int .i64 (bif k then 0 else 21))])
  | none => none
 | _ => none
theorem aIh (k : Bool) : ∀ cs pre r,gE3 k cs = some (pre,r) → aP pre → ∀ (args : List Value) (w : World),bK w cs args → Good prog 81 r args w:=by
 intro cs pre r hg hp args w ha;unfold gE3 at hg;split at hg
 ·rename_i l m;split at hg
  ·rename_i x hx;cases hg;obtain ⟨h1,h2,_⟩:=hp
   match args,ha with
   | [v,u,t],ha =>
    have e1 : v = .int .i64 1:=ha.1;have e2 : u = .agg (aC l).toArray:=ha.2.1;have e3 : t = .agg (aC m).toArray:=ha.2.2.1;rw [dJ l _ hx] at e2;rw [h2] at e3;subst e1; subst e2; subst e3;cases k
    ·have h1' : ¬ aA (fw x 0) (fw x 1) (fw x 2) (fw x 3) < FP.M:=h1;exact (Wg 1 21 _ _ _ _ _ _ _ _ (bM x) (bM 3) (Or.inr ⟨FP,fT,h1',rfl⟩) w).mono fun e w' h => ⟨h.1.trans (show Ending.returned (Value.tuple #[.agg #[.int .u64 0,.int .u64 0,.int .u64 0,.int .u64 0],.int .i64 21]) = Ending.returned (RV.many [TV.fl (e1 F1.zero),TV.im (.int .i64 21)]).den from by kernel_rfl),h.2⟩
    ·have h1' : aA (fw x 0) (fw x 1) (fw x 2) (fw x 3) < FP.M:=h1;refine (aDt 1 FP fT _ _ _ _ _ _ _ _ (bM x) (bM 3) h1' w).mono ?_
     rintro e w' ⟨s0,s1,s2,s3,rfl,hs,hv,hb⟩
     have hv' : aA s0 s1 s2 s3 = (Xh true x).1:=by
      rw [hv,AX (x:=3) (by omega)];have e4 : (m1 x).1 = wv x:=Nat.mod_eq_of_lt h1;show wv x ^ 3 % FP.M = (m1 x).1 * (m1 x).1 % FP.M * (m1 x).1 % FP.M;rw [e4,Nat.mod_mul_mod,Nat.pow_succ,Nat.pow_succ,Nat.pow_one]
     obtain ⟨rfl,rfl,rfl,rfl⟩:=fB hs (gV (Xh true x).2) hv';exact ⟨rfl,hb⟩
   | [],ha => exact ha.elim
   | [_],ha => exact ha.2.elim
   | [_,_],ha => exact ha.2.2.elim
   | _ :: _ :: _ :: _ :: _,ha => exact ha.2.2.2.elim
  ·cases hg
 ·cases hg
theorem Ut {x : Fq} (h : cP x) : x.1 ^ (FP.M / 2) % FP.M = 1 ∨ x.1 = 0:=by
 rw [xC] at h;unfold pI at h
 by_cases h0 : x.1 = 0
 ·exact Or.inr h0
 ·rw [if_neg h0] at h
  by_cases h1 : x.1 ^ (FP.M / 2) % FP.M = 1
  ·exact Or.inl h1
  ·rw [if_neg h1] at h; exact absurd rfl h
theorem Tj {x : Fq} (h : ¬ cP x) : x.1 ≠ 0 ∧ x.1 ^ (FP.M / 2) % FP.M ≠ 1:=by
 rw [IW] at h;unfold pI at h
 by_cases h0 : x.1 = 0
 ·rw [if_pos h0] at h; exact absurd h (by decide)
 ·rw [if_neg h0] at h;refine ⟨h0,fun e => ?_⟩;rw [if_pos e] at h;exact absurd h (by decide)
def Zx (d : Bool) (s : Fq) : Fq:=bif d then cZ s else F1.zero
theorem Pl (s : Fq) : Zx true s = cZ s:=by unfold Zx; rw [cond_true]
def aHK (d : Bool) : fQ
 | [.v (.im (.int .i64 (.ofNat 1))),.v (.fl l)] => match DO l with
  | some s => some ([(bif d then cP s else ¬ cP s)],.many [.fl (e1 (Zx d s)),.im (.int .i64 (bif d then 0 else 23))])
  | none => none
 | _ => none
theorem aDb (d : Bool) : ∀ cs pre r,aHK d cs = some (pre,r) → aP pre → ∀ (args : List Value) (w : World),bK w cs args → Good prog 84 r args w:=by
 intro cs pre r hg hp args w ha;unfold aHK at hg;split at hg
 ·rename_i l;split at hg
  ·rename_i x hx;cases hg;obtain ⟨h,_⟩:=hp
   match args,ha with
   | [v,u],ha =>
    have e1' : v = .int .i64 1:=ha.1;have e2' : u = .agg (aC l).toArray:=ha.2.1;rw [eP l _ hx] at e2';subst e1'; subst e2';have hx : aA (fw x.1 0) (fw x.1 1) (fw x.1 2) (fw x.1 3) = x.1:=bF x.2;cases d
    ·obtain ⟨h0,h1⟩:=Tj h;refine (vO 1 FP fT _ _ _ _ (bM x.1) (by rw [hx]; exact x.2) (by rw [hx]; exact h0) (by rw [hx]; exact h1) w).mono ?_
     rintro e w' ⟨s0,s1,s2,s3,rfl,hs,hv,hb⟩
     obtain ⟨rfl,rfl,rfl,rfl⟩:=fB hs (gV dC) hv;exact ⟨rfl,hb⟩
    ·show Calls _ _ _ _ _
     by_cases h0 : x.1 = 0
     ·refine (EN 1 FP fT _ _ _ _ (bM x.1) (by rw [hx]; exact x.2) (by rw [hx]; exact h0) w).mono ?_
      rintro e w' ⟨s0,s1,s2,s3,rfl,hs,hv,hb⟩
      have e3 : Zx true x = F1.zero:=(Pl x).trans ((congrArg cZ (xG h0)).trans lO);rw [e3];obtain ⟨rfl,rfl,rfl,rfl⟩:=fB hs (gV dC) hv;exact ⟨rfl,hb⟩
     ·refine (sN 1 FP fT _ _ _ _ (bM x.1) (by rw [hx]; exact x.2) (by rw [hx]; exact h0) (by rw [hx]; exact (Ut h).resolve_right h0) w).mono ?_
      rintro e w' ⟨V,⟨s0,s1,s2,s3,rfl,hs,hv,hb⟩,h1,h2,h3⟩
      rw [hx] at h1;have e3 : Zx true x = ⟨V,h2⟩:=(Pl x).trans (kB (Fin.ext h1) h3);rw [e3];obtain ⟨rfl,rfl,rfl,rfl⟩:=fB hs (gV h2) hv;exact ⟨rfl,hb⟩
   | [],ha => exact ha.elim
   | [_],ha => exact ha.2.elim
   | _ :: _ :: _ :: _,ha => exact ha.2.2.elim
  ·cases hg
 ·cases hg
def gNg : fQ
 | [.v (.im (.int .i64 (.ofNat 1))),.v (.fl l)] => match DO l with
  | some s => some ([],.many [.fl (e1 (F1.neg s)),.im (.int .i64 0)])
  | none => none
 | _ => none
theorem aHW : ∀ cs pre r,gNg cs = some (pre,r) → aP pre → ∀ (args : List Value) (w : World),bK w cs args → Good prog 85 r args w:=by
 intro cs pre r hg hp args w ha;unfold gNg at hg;split at hg
 ·rename_i l;split at hg
  ·rename_i x hx;cases hg
   match args,ha with
   | [v,u],ha =>
    have e1' : v = .int .i64 1:=ha.1;have e2' : u = .agg (aC l).toArray:=ha.2.1;rw [eP l _ hx] at e2';subst e1'; subst e2';have hx : aA (fw x.1 0) (fw x.1 1) (fw x.1 2) (fw x.1 3) = x.1:=bF x.2;refine (Dv 1 FP fT _ _ _ _ (bM x.1) (by rw [hx]; exact x.2) w).mono ?_
    rintro e w' ⟨s0,s1,s2,s3,rfl,hs,hv,hb⟩
    have hv' : aA s0 s1 s2 s3 = (F1.neg x).1:=by rw [hv,hx]; rfl
    obtain ⟨rfl,rfl,rfl,rfl⟩:=fB hs (gV (F1.neg x).2) hv';exact ⟨rfl,hb⟩
   | [],ha => exact ha.elim
   | [_],ha => exact ha.2.elim
   | _ :: _ :: _ :: _,ha => exact ha.2.2.elim
  ·cases hg
 ·cases hg
def aJG (k d : Bool) : Tab:=((fZ.add 81 (gE3 k)).add 84 (aHK d)).add 85 gNg
theorem aEK (k d : Bool) : TabOk prog (aJG k d):=((eE.ad func81 (aIh k)).ad func84 (aDb d)).ad func85 aHW
def Al (k : Bool) (x : Nat) : Fq:=F1.add (Xh k x) (fm 3)
def gRt (m : Nat) (k d : Bool) (x : Nat) : List Prop:=[(bif k then wv x < FP.M else ¬ wv x < FP.M),(bif d then cP (Al k x) else ¬ cP (Al k x))]
def yX (m : Nat) (k d : Bool) (x : Nat) : Fq:=bif Nat.beq m 3 then F1.neg (Zx d (Al k x)) else Zx d (Al k x)
theorem aAR (k d : Bool) (x : Nat) : aM prog (qG prog) (iK (aJG k d)) f47 60 [.v (.fl [.q x]),.v (.im (.int .u8 2))] = some ([(bif k then wv x < FP.M else ¬ wv x < FP.M),aC (nq [.c (.int .u64 3),.c (.int .u64 0),.c (.int .u64 0),.c (.int .u64 0)]) = aC [.q 3],(bif d then cP (Al k x) else ¬ cP (Al k x))],.one (.fl (e1 (Zx d (Al k x))))):=by kernel_rfl
theorem aAQ (k d : Bool) (x : Nat) : aM prog (qG prog) (iK (aJG k d)) f47 60 [.v (.fl [.q x]),.v (.im (.int .u8 3))] = some ([(bif k then wv x < FP.M else ¬ wv x < FP.M),aC (nq [.c (.int .u64 3),.c (.int .u64 0),.c (.int .u64 0),.c (.int .u64 0)]) = aC [.q 3],(bif d then cP (Al k x) else ¬ cP (Al k x))],.one (.fl (e1 (F1.neg (Zx d (Al k x)))))):=by kernel_rfl
def gRo (m : Nat) (k d : Bool) : fQ
 | [.v (.fl l),.v (.im (.int .u8 (.ofNat m')))] => match vZ l with
  | some x => bif Nat.beq m' m then some (gRt m k d x,.one (.fl (e1 (yX m k d x)))) else none
  | none => none
 | _ => none
theorem nq3 : aC (nq [.c (.int .u64 3),.c (.int .u64 0),.c (.int .u64 0),.c (.int .u64 0)]) = aC [.q 3]:=by kernel_rfl
theorem aHO (m : Nat) (hm : m = 2 ∨ m = 3) (k d : Bool) : ∀ cs pre r,gRo m k d cs = some (pre,r) → aP pre → ∀ (args : List Value) (w : World),bK w cs args → Good prog 47 r args w:=by
 intro cs pre r hg hp args w ha;unfold gRo at hg;split at hg
 ·rename_i l m';split at hg
  ·rename_i x hx;cases hb : Nat.beq m' m <;> rw [hb] at hg
   ·cases hg
   ·have hmm:=Nat.eq_of_beq_eq_true hb;subst hmm;cases hg;have ha' : bK w [.v (.fl [.q x]),.v (.im (.int .u8 (Int.ofNat m')))] args:=by
     match args,ha with
     | [u,v],ha => exact ⟨by have h1 : u = .agg (aC l).toArray:=ha.1; rw [dJ l _ hx] at h1; exact h1,ha.2.1,trivial⟩
     | [],ha => exact ha.elim
     | [_],ha => exact ha.2.elim
     | _ :: _ :: _ :: _,ha => exact ha.2.2.elim
    obtain ⟨h1,h2,_⟩:=hp
    rcases hm with rfl | rfl
    ·exact aD aG (fun _ _ => aEK k d) (aH prog) func47 (aAR k d x) ⟨h1,nq3,h2,trivial⟩ ha'
    ·exact aD aG (fun _ _ => aEK k d) (aH prog) func47 (aAQ k d x) ⟨h1,nq3,h2,trivial⟩ ha'
  ·cases hg
 ·cases hg
def zG : List At:=[.f F1.zero,.f F1.zero,.c (.bool false)]
def aJN (k : Bool) : Tab:=fZ.add 45 (gCk k)
theorem aEP (k : Bool) : TabOk prog (aJN k):=eE.ad func45 (Wa Rt k)
theorem Ow (x y : Nat) (i : Bool) : aM prog (qG prog) (iK (aJN true)) f48 60 [.v (.fl (LJ (x,y,i))),.v (.im (.func (.func 45) #[] #[]))] = some ([(oE x y i).1 = 0],.many [.fl (LJ (x,y,i)),.im (.int .i64 0)]):=by kernel_rfl
theorem Ox (x y : Nat) (i : Bool) : aM prog (qG prog) (cfN (aJN false) 12) f48 60 [.v (.fl (LJ (x,y,i))),.v (.im (.func (.func 45) #[] #[]))] = some ([aK .neq .i64 (oE x y i).1 0 = some (.bool true)],.many [.fl zG,.im (.int .i64 (oE x y i).1)]):=by kernel_rfl
def oAl (a : Bool) (p : DE) : List Prop × RV:=bif a then ([(oE p.1 p.2.1 p.2.2).1 = 0],.many [.fl (LJ p),.im (.int .i64 0)]) else ([(oE p.1 p.2.1 p.2.2).1 ≠ 0],.many [.fl zG,.im (.int .i64 (oE p.1 p.2.1 p.2.2).1)])
def gAl (a : Bool) : fQ
 | [.v (.fl l),.v (.im (.func (.func f) fi ca))] => match rg1 l with
  | some p => bif Nat.beq f 45 && (Nat.beq fi.size 0 && Nat.beq ca.size 0) then some (oAl a p) else none
  | none => none
 | _ => none
theorem aIr (a : Bool) : ∀ cs pre r,gAl a cs = some (pre,r) → aP pre → ∀ (args : List Value) (w : World),bK w cs args → Good prog 48 r args w:=by
 intro cs pre r hg hp args w ha;unfold gAl at hg;split at hg
 ·rename_i l f fi ca;split at hg
  ·rename_i p hx;cases hb : (Nat.beq f 45 && (Nat.beq fi.size 0 && Nat.beq ca.size 0)) <;> rw [hb] at hg
   ·cases hg
   ·simp only [Bool.and_eq_true] at hb;have hmm:=Nat.eq_of_beq_eq_true hb.1;subst hmm;have e5 : fi = #[]:=Array.eq_empty_of_size_eq_zero (Nat.eq_of_beq_eq_true hb.2.1);have e6 : ca = #[]:=Array.eq_empty_of_size_eq_zero (Nat.eq_of_beq_eq_true hb.2.2);subst e5; subst e6;have ha' : bK w [.v (.fl (LJ p)),.v (.im (.func (.func 45) #[] #[]))] args:=by
     match args,ha with
     | [u,v],ha => exact ⟨by have h1 : u = .agg (aC l).toArray:=ha.1; rw [yV l _ hx] at h1; exact h1,ha.2.1,trivial⟩
     | [],ha => exact ha.elim
     | [_],ha => exact ha.2.elim
     | _ :: _ :: _ :: _,ha => exact ha.2.2.elim
    obtain ⟨x,y,i⟩:=p;cases a
    ·cases hg;exact aD aG (fun _ _ => aEP false) (aH prog) func48 (Ox x y i) ⟨aJr hp.1,trivial⟩ ha'
    ·cases hg;exact aD aG (fun _ _ => aEP true) (aH prog) func48 (Ow x y i) ⟨hp.1,trivial⟩ ha'
  ·cases hg
 ·cases hg
def aMw (m : Nat) (k d a : Bool) : Tab:=((T0.add 33 AS).add 47 (gRo m k d)).add 48 (gAl a)
theorem aLc (m : Nat) (hm : m = 2 ∨ m = 3) (k d a : Bool) : TabOk prog (aMw m k d a):=(((dB _).ad func33 uQ).ad func47 (aHO m hm k d)).ad func48 (aIr a)
def xK (m : Nat) : Ext:=x3 (TE.add 32 (gTk m)) KL (fun _ => none) (fun _ => none)
theorem aKh (m : Nat) (hm : m = 1 ∨ m = 2 ∨ m = 3) (w : World) : cH prog (qY prog (xK m)) w.heap.size w:=kQ ((gX _).ad func32 (aHH m hm)) (gJ _) w
def pTk (m : Nat) (B : Nat → Nat) (c : Nat) : List Prop:=[L8 (bN B),B 0 / 64 = m,32 ≤ c]
def aFv : Tab:=T0.add 32 aHI
theorem aHe : TabOk prog aFv:=(dB _).ad func32 aDa
theorem aAT (B : Nat → Nat) (c : Nat) : aM prog (qG prog) (iK aFv) f20 80 [.s (bL B) 32 c] = some (pTk 0 B c,.many [.fl zG,.im (.int .i64 44)]):=by kernel_rfl
theorem aAS (k d a : Bool) (B : Nat → Nat) (c : Nat) : aM prog (qY prog (xK 2)) (iK (aMw 2 k d a)) f20 80 [.s (bL B) 32 c] = some (pTk 2 B c ++ gRt 2 k d (xv (hv (bN B))) ++ (oAl a (xv (hv (bN B)),(yX 2 k d (xv (hv (bN B)))).1,false)).1,(oAl a (xv (hv (bN B)),(yX 2 k d (xv (hv (bN B)))).1,false)).2):=by cases a <;> kernel_rfl
theorem nA {w : World} {l l' : List At} {n c : Nat} (h : aC l = aC l') {args : List Value} (ha : bK w [.s l n c] args) : bK w [.s l' n c] args:=by
 match args,ha with
 | [s],ha => exact ⟨by obtain ⟨b,o,e,hb,hr⟩:=ha.1; exact ⟨b,o,e,hb,by rw [← h]; exact hr⟩,trivial⟩
 | [],ha => exact ha.elim
 | _ :: _ :: _,ha => exact ha.2.elim
theorem aBz {l : List At} {L : List Nat} {c : Nat} (hL : kY l = some L) (h8 : L8 L) (hb : L.getD 0 0 / 64 = 0) (hc : 32 ≤ c) (args : List Value) (w : World) (ha : bK w [.s l 32 c] args) : Good prog 20 (.many [.fl zG,.im (.int .i64 44)]) args w :=
 aD aG (fun _ _ => aHe) (aH prog) func20 (aAT (fun k => L.getD k 0) c) ⟨by rw [cQ h8.1]; exact h8,hb,hc,trivial⟩ (nA (FH hL h8.1) ha)
theorem aGy {l : List At} {L : List Nat} {c : Nat} (k d a : Bool) (hL : kY l = some L) (h8 : L8 L) (hb : L.getD 0 0 / 64 = 2) (hc : 32 ≤ c) (hr : aP (gRt 2 k d (xv (hv L)))) (hp : aP (oAl a (xv (hv L),(yX 2 k d (xv (hv L))).1,false)).1) (args : List Value) (w : World) (ha : bK w [.s l 32 c] args) : Good prog 20 (oAl a (xv (hv L),(yX 2 k d (xv (hv L))).1,false)).2 args w:=by
 have hN:=cQ h8.1;have h:=aU aG (fun _ _ => (aLc 2 (Or.inl rfl) k d a).w _ _) (aKh 2 (Or.inr (Or.inl rfl)) w) func20 (aAS k d a (fun k => L.getD k 0) c) (aN.2 ⟨aN.2 ⟨⟨by rw [hN]; exact h8,hb,hc,trivial⟩,by rw [hN]; exact hr⟩,by rw [hN]; exact hp⟩) (nA (FH hL h8.1) ha);rw [hN] at h;exact h
def Bw : List Nat:=[128,0,0,0,0,0,0,0,0,0,0,0,0,0,0,0,0,0,0,0,0,0,0,0,0,0,0,0,0,0,0,1]
theorem XS : xv (hv Bw) = 1:=by kernel_rfl
theorem aAe : wv 1 = 1:=by kernel_rfl
theorem aKf : Al true 1 = fm 4:=by unfold Al Xh m1; rw [cond_true,aAe]; decide
theorem aKp : F1.mul (fm 2) (fm 2) = fm 4:=by decide
theorem y_2 : yX 2 true true 1 = fm 2:=by
 have h : Zx true (Al true 1) = fm 2:=by rw [Pl,aKf]; exact kB aKp (by decide)
 unfold yX;rw [h];rfl
theorem aLF : cP (Al true 1):=by rw [aKf]; exact ⟨fm 2,aKp⟩
theorem aFk : (oE 1 2 false).1 = 0:=by
 have hb : wK 1 ∧ wK 2:=by unfold wK; exact ⟨by rw [aAe]; decide,by rw [show wv 2 = 2 from by kernel_rfl]; decide⟩
 rw [KB,if_neg (by decide),if_neg (fun h => h hb),if_pos (by unfold m1; rw [aAe,show wv 2 = 2 from by kernel_rfl]; decide)]
theorem aIU : (oE 0 0 true).1 = 0:=by
 have hz : zr1 0 ∧ zr1 0:=by unfold zr1; exact ⟨by kernel_rfl,by kernel_rfl⟩
 rw [KB,if_pos rfl,if_pos hz]
theorem aEW {L : List Nat} (h : L.length = 32) (h2 : L.all (fun b => Nat.blt b 256) = true) : L8 L:=⟨h,fun k => by
 rw [List.all_eq_true] at h2
 by_cases hk : k < L.length
 ·rw [List.getD_eq_getElem?_getD,List.getElem?_eq_getElem hk];exact Nat.le_of_ble_eq_true (h2 _ (List.getElem_mem hk))
 ·rw [List.getD_eq_getElem?_getD,List.getElem?_eq_none (by omega)];exact Nat.succ_pos _⟩
theorem aHw : L8 Bw:=aEW rfl (by decide)
def gRA : fQ
 | [.s l 32 c] => match kY l with
  | some L => bif Nat.beq (L.getD 0 0) 0 then some ([L8 L,L.getD 0 0 = 0,32 ≤ c],.many [.fl zG,.im (.int .i64 44)]) else some ([L = Bw,32 ≤ c],.many [.fl (LJ (1,2,false)),.im (.int .i64 0)])
  | none => none
 | _ => none
theorem aHT : ∀ cs pre r,gRA cs = some (pre,r) → aP pre → ∀ (args : List Value) (w : World),bK w cs args → Good prog 20 r args w:=by
 intro cs pre r hg hp args w ha;unfold gRA at hg;split at hg
 ·rename_i l c;split at hg
  ·rename_i L hL;cases hb : Nat.beq (L.getD 0 0) 0 <;> rw [hb] at hg
   ·cases hg;obtain ⟨h1,hc,_⟩:=hp;subst h1;have h:=aGy true true true hL aHw rfl hc (by rw [XS]; exact ⟨by show wv 1 < _; rw [aAe]; decide,aLF,trivial⟩) (by rw [XS,y_2]; exact ⟨aFk,trivial⟩) args w ha;rw [XS,y_2] at h;exact h
   ·cases hg;obtain ⟨h8,h0,hc,_⟩:=hp;exact aBz hL h8 (by rw [h0]) hc args w ha
  ·cases hg
 ·cases hg
def Dp : fQ
 | [.v (.im v)] => some ([],.one (.im v))
 | _ => none
theorem Oi (v : Value) : aM prog (qG prog) (fun _ => ⟨fun _ => T0,fun _ => true,fun _ => none⟩) f10 60 [.v (.im v)] = some ([],.one (.im v)):=by kernel_rfl
theorem RR : ∀ cs pre r,Dp cs = some (pre,r) → aP pre → ∀ (args : List Value) (w : World),bK w cs args → Good prog 10 r args w:=by
 intro cs pre r hg hp args w ha;unfold Dp at hg;split at hg
 ·rename_i v;cases hg;exact aD aG (fun _ _ => dB _) (aH prog) func10 (Oi v) trivial ha
 ·cases hg
def oSA (c : Bool) (p : DE) : FS:=⟨bm (wv p.1) (aKz c p.2.2),32,5,1,true,[],[.im (.int .i64 0)]⟩
theorem aGE (c : Bool) (p : DE) (hp : aP (okP c p)) (args : List Value) (w : World) (ha : bK w [.v (.fl (LJ p))] args) : Calls prog 18 args.toArray w (fun e w' => (oSA c p).ok w e w'):=by
 obtain ⟨h0,h1,h2,_⟩:=hp;obtain ⟨x,y,i⟩:=p;cases i
 ·exact bJ aG (fun _ _ => (aEM true c).w _ _) (Bj w) func18 (Ny x y c) ⟨h0,h1,h2,aKA c,trivial⟩ ha
 ·exact bJ aG (fun _ _ => (aEM true c).w _ _) (Bj w) func18 (Nx x y c) ⟨h0,h1,h2,by decide,trivial⟩ ha
def Zs : Tab:=(T0.add 10 Dp).add 20 gRA
theorem aHk : TabOk prog Zs:=((dB _).ad func10 RR).ad func20 aHT
def xAl : Ext:=x3 (TE.add 18 (gFS (okP true) (oSA true))) KL (fun _ => none) (fun i => bif Nat.beq i 22 then some (32,z8 32) else none)
theorem TH (w : World) : cH prog (qY prog xAl) w.heap.size w:=kQ ((gX _).ad func18 (aIg fun p hp args w ha => aGE true p hp args w ha)) (gJ _) w
def oM : Code:=(f14.body).getD .skip
theorem aDY : oM = .seq (cA oM) (.seq (cA (cB oM)) (cB (cB oM))):=by kernel_rfl
def aMs : List Fact:=[.slot 1 (.so 13 32),.row 13 true (bm (wv 1) 2),.app 13 5 1 32,.slot 2 (.im (.int .i64 0))]
def aMr (cap : Nat) : List Fact:=[.slot 1 (.sl 13 0 32 cap),.row 13 true (bm (wv 1) 2),.slot 2 (.im (.int .i64 0))]
theorem Holds.cap {nt base : Nat} {w0 : World} {A : List Fact} {a : Act} {w : World} (h : Holds nt base w0 A a w) {s k n e sz : Nat} (h1 : Fact.slot s (.so k n) ∈ A) (h2 : Fact.app k e sz n ∈ A) : ∃ cap,n ≤ cap ∧ Holds nt base w0 (.slot s (.sl k 0 n cap) :: A) a w:=by
 obtain ⟨β,g1,g2⟩:=h.facts;have e1:=g1 _ h1;have e2:=g1 _ h2;simp only [Fact.ok] at e1 e2;obtain ⟨cur,q1,q2,q3,q4⟩:=e2;refine ⟨(β k).2.2,q2,h.defers,h.size,h.below,h.heap,β,fun φ hφ => ?_,fun k1 k2 l1 l2 q1 q2 => ?_⟩
 ·rcases List.mem_cons.1 hφ with rfl | hφ
  ·show a.tmps[s]? = _;rw [e1];simp [AV.den]
  ·exact g1 φ hφ
 ·rcases List.mem_cons.1 q1 with q1 | q1
  ·cases q1
  ·rcases List.mem_cons.1 q2 with q2 | q2
   ·cases q2
   ·exact g2 k1 k2 l1 l2 q1 q2
theorem aMq : cM prog (qY prog xAl) f14.ntmps (iK Zs) 60 (cA oM) [] [] = some ([],.nrm,[]):=by kernel_rfl
theorem aMp : cM prog (qY prog xAl) f14.ntmps (iK Zs) 60 (cA (cB oM)) [] aMs = some (okP true (1,2,false),.nrm,aMs):=by kernel_rfl
def z32 : List Nat:=[0,0,0,0,0,0,0,0,0,0,0,0,0,0,0,0,0,0,0,0,0,0,0,0,0,0,0,0,0,0,0,0]
theorem aMo (cap : Nat) : cM prog (qY prog xAl) f14.ntmps (iK Zs) 60 (cB (cB oM)) (aMr cap) [.slot 0 (.im (.bool true))] = some ([[bC (wv 1) 0 ||| 64 * 2,bC (wv 1) 1,bC (wv 1) 2,bC (wv 1) 3,bC (wv 1) 4,bC (wv 1) 5,bC (wv 1) 6,bC (wv 1) 7,bC (wv 1) 8,bC (wv 1) 9,bC (wv 1) 10,bC (wv 1) 11,bC (wv 1) 12,bC (wv 1) 13,bC (wv 1) 14,bC (wv 1) 15,bC (wv 1) 16,bC (wv 1) 17,bC (wv 1) 18,bC (wv 1) 19,bC (wv 1) 20,bC (wv 1) 21,bC (wv 1) 22,bC (wv 1) 23,bC (wv 1) 24,bC (wv 1) 25,bC (wv 1) 26,bC (wv 1) 27,bC (wv 1) 28,bC (wv 1) 29,bC (wv 1) 30,bC (wv 1) 31] = Bw,32 ≤ cap,Mk 32,L8 z32,z32.getD 0 0 = 0,32 ≤ 32] ++ okP true (0,0,true) ++ [aC (LJ (1,2,false)) = aC [.f (fm 1),.f (fm 2),.c (.bool false)]],.rt,[.slot 0 (.im (.bool true))]):=by kernel_rfl
theorem aHl : aP (okP true (1,2,false)):=⟨aFk,by show wv 2 < _; rw [show wv 2 = 2 from by kernel_rfl]; decide,by show fV _ (wv 2) = _; rw [show wv 2 = 2 from by kernel_rfl]; decide,trivial⟩
theorem aCs : aP (okP true (0,0,true)):=⟨aIU,by show wv 0 < _; rw [show wv 0 = 0 from by kernel_rfl]; decide,by show fV _ (wv 0) = _; rw [show wv 0 = 0 from by kernel_rfl]; decide,trivial⟩
theorem Ys (args : List Value) (w : World) (ha : bK w [] args) : Good prog 14 (.one (.im (.bool true))) args w:=by
 have hT : ∀ n d : Nat,TabOkW prog ((iK Zs n).T d) w.heap.size w:=fun _ _ => aHk.w _ _
 refine fX func14 (c:=oM) rfl ha (Nat.le_of_ble_eq_true (by kernel_rfl)) fun a w' hA => ?_
 rw [aDY];refine wp_seq (aT aG hT (TH w) aMq trivial hA fun a w' hA => ?_);refine wp_seq (aT aG hT (TH w) aMp aHl hA fun a w' hA => ?_);obtain ⟨cap,hc,hA⟩:=hA.cap (s:=1) (k:=13) (n:=32) (e:=5) (sz:=1) (List.mem_cons_self ..) (List.mem_cons_of_mem _ (List.mem_cons_of_mem _ (List.mem_cons_self ..)));have hA2 : Holds f14.ntmps w.heap.size w (aMr cap) a w':=hA.sub fun φ hφ => by
  rcases List.mem_cons.1 hφ with rfl | hφ
  ·exact List.mem_cons_self ..
  ·rcases List.mem_cons.1 hφ with rfl | hφ
   ·exact List.mem_cons_of_mem _ (List.mem_cons_of_mem _ (List.mem_cons_self ..))
   ·rcases List.mem_cons.1 hφ with rfl | hφ
    ·exact List.mem_cons_of_mem _ (List.mem_cons_of_mem _ (List.mem_cons_of_mem _ (List.mem_cons_of_mem _ (List.mem_cons_self ..))))
    ·cases hφ
 refine aT aG hT (TH w) (aMo cap) (aN.2 ⟨aN.2 ⟨⟨by kernel_rfl,hc,aLo 32 (by decide),aEW rfl (by decide),rfl,Nat.le_refl _,trivial⟩,aCs⟩,by kernel_rfl,trivial⟩) hA2 fun a w' hA => ?_
 exact gW (l:=[.im (.bool true)]) (r:=.one (.im (.bool true))) (by kernel_rfl) (by kernel_rfl) hA
theorem wN (N : Nat) : aC (wl N) = aC [.q N]:=rfl
def L6 (L : List Nat) : Prop:=L8 (L.take 32) ∧ L8 (L.drop 32)
def hi (L : List Nat) : Nat:=xv (hv (L.take 32))
def lo (L : List Nat) : Nat:=hv (L.drop 32)
theorem gI {l : List At} {L : List Nat} (h : kY l = some L) (h6 : L6 L) : aC l = aC (bL (fun k => (L.take 32).getD k 0) ++ bL fun k => (L.drop 32).getD k 0):=by
 rw [xL h,aI,qQ,qQ,cQ h6.1.1,cQ h6.2.1,← List.map_append,List.take_append_drop]
theorem Az {L : List Nat} (h8 : L8 L) {m : Nat} (hb : L.getD 0 0 / 64 = m) : pC .shr 5 (.tmp 32) (.const (.int .u64 6)) (.int .u8 (Int.ofNat (L.getD 0 0))) (.int .u64 6) (.int .u8 (Int.ofNat m)):=by
 have:=tA (t:=5) (x:=.tmp 32) (y:=.const (.int .u64 6)) (h8.2 0);rw [hb] at this;exact this
def cfO : Nat → Cfg:=fun _ => ⟨fun _ => T0,fun _ => true,fun n => bif Nat.beq n 23 then some (.bool true) else bif Nat.beq n 28 then some (.bool true) else none⟩
theorem Cx {n k : Nat} (h : n ≠ k) : aK .neq .i64 (n : Int) (k : Int) = some (.bool true):=by
 show some (Value.bool ((n : Int) != (k : Int))) = _;rw [bne_iff_ne.2 (by omega)]
set_option maxHeartbeats 1000000 in
theorem aJp (b o n c : Nat) (hn : n < 4611686018427387904) (w : World) (h : ∀ k,k < n → w.cell? ⟨b,o + k,none⟩ = some (.int .u8 0)) :
  Calls prog 68 #[.slice (some ⟨b,o,none⟩) n c] w fun e w' => e = .returned (.bool true) ∧ Below w.heap.size w w':=by
 have H1:=Lib.hid h;clear h
 go_enter func68,ntmps68
 go_wp2_with fail
 go_loopw [3] (fun x wr => ∃ k m : Nat,k ≤ n ∧ x = .int .i64 k ∧ wr = w.drewN m) (fun x _ => n - (intOf x).toNat)
 case atStart => exact ⟨0,0,by omega,rfl,rfl⟩
 case round =>
  obtain ⟨k,m,hk,rfl,rfl⟩:=hrel
  by_cases hlt : k < n
  ·have e1 : (w.drewN m).cell? ⟨b,o + k,none⟩ = _:=H1.out k hlt;have e3:=H1.out k hlt;have t1 : decide ((k : Int) < (n : Int)) = true:=decide_eq_true (by omega);go_wp2_with fail
   go_roundw
   case rel => exact ⟨k + 1,_,by omega,by go_num,rfl⟩
   case measure => first | (simp [intOf]; done) | (simp [intOf]; omega)
  ·obtain rfl : k = n:=by omega
   have t1 : decide ((k : Int) < (k : Int)) = false:=decide_eq_false (by omega);go_wp2_with fail;go_ret;exact ⟨rfl,aJ _ _ _⟩
set_option maxHeartbeats 1000000 in
theorem aJq (b o n c j : Nat) (p : Int) (hn : n < 4611686018427387904) (hj : j < n) (hp : p ≠ 0) (w : World) (h : ∀ k,k < j → w.cell? ⟨b,o + k,none⟩ = some (.int .u8 0)) (hb : w.cell? ⟨b,o + j,none⟩ = some (.int .u8 p)) :
  Calls prog 68 #[.slice (some ⟨b,o,none⟩) n c] w fun e w' => e = .returned (.bool false) ∧ Below w.heap.size w w':=by
 have H1:=Lib.hid h;have H2:=Lib.hid hb;have t0 : (p != 0) = true:=bne_iff_ne.2 hp;clear h hb
 go_enter func68,ntmps68
 go_wp2_with fail
 go_loopw [3] (fun x wr => ∃ k m : Nat,k ≤ j ∧ x = .int .i64 k ∧ wr = w.drewN m) (fun x _ => n - (intOf x).toNat)
 case atStart => exact ⟨0,0,by omega,rfl,rfl⟩
 case round =>
  obtain ⟨k,m,hk,rfl,rfl⟩:=hrel;have t1 : decide ((k : Int) < (n : Int)) = true:=decide_eq_true (by omega);have hkn : k < n:=by omega
  by_cases hlt : k < j
  ·have e1 : (w.drewN m).cell? ⟨b,o + k,none⟩ = _:=H1.out k hlt;have e3:=H1.out k hlt;go_wp2_with fail
   go_roundw
   case rel => exact ⟨k + 1,_,by omega,by go_num,rfl⟩
   case measure => first | (simp [intOf]; done) | (simp [intOf]; omega)
  ·obtain rfl : k = j:=by omega
   have e1 : (w.drewN m).cell? ⟨b,o + k,none⟩ = _:=H2.out;have e3:=H2.out;go_wp2_with fail;go_ret;exact ⟨rfl,aJ _ _ _⟩
def Wc (z : Bool) : fQ
 | [c] => match RD c with
  | some (l,n) => (match kY l with
   | some L => some ([L.length = n,n < 4611686018427387904,(bif z then ∀ k,k < n → L.getD k 0 = 0 else ¬ ∀ k,k < n → L.getD k 0 = 0)],.one (.im (.bool z)))
   | none => none)
  | _ => none
 | _ => none
theorem Ue {p : Nat → Prop} {n : Nat} (h : ¬ ∀ k,k < n → p k) : ∃ j,j < n ∧ ¬ p j ∧ ∀ k,k < j → p k:=by
 induction n with
 | zero => exact absurd (fun k hk => absurd hk (by omega)) h
 | succ n ih =>
  by_cases hn : ∀ k,k < n → p k
  ·refine ⟨n,by omega,fun hp => h fun k hk => ?_,hn⟩
   by_cases e : k = n
   ·rw [e]; exact hp
   ·exact hn k (by omega)
  ·obtain ⟨j,h1,h2,h3⟩:=ih hn;exact ⟨j,by omega,h2,h3⟩
theorem Wb (z : Bool) : ∀ cs pre r,Wc z cs = some (pre,r) → aP pre → ∀ (args : List Value) (w : World),bK w cs args → Good prog 68 r args w:=by
 intro cs pre r hg hp args w ha;unfold Wc at hg;split at hg
 ·rename_i c;split at hg
  ·rename_i l n hl;split at hg
   ·rename_i L hL;cases hg;obtain ⟨h1,h2,h3,_⟩:=hp
    match args,ha with
    | [v],ha =>
     obtain ⟨b,o,m,rfl,hb,hr⟩:=JE hl (by have:=ha; cases c <;> exact this.1);have hc : ∀ k,k < n → w.cell? ⟨b,o + k,none⟩ = some (.int .u8 (Int.ofNat (L.getD k 0))):=fun k hk => hr k _ (oH hL k (by omega))
     cases z
     ·obtain ⟨j,hj,h4,h5⟩:=Ue h3;exact aJq b o n m j _ h2 hj (by intro e; exact h4 (by have:=Int.ofNat.inj e; exact this)) w (fun k hk => by have:=hc k (by omega); rw [h5 k hk] at this; exact this) (hc j hj)
     ·exact aJp b o n m h2 w fun k hk => by have:=hc k hk; rw [h3 k hk] at this; exact this
    | [],ha => cases c <;> exact ha.elim
    | _ :: _ :: _,ha => cases c <;> exact ha.2.elim
   ·cases hg
  ·cases hg
 ·cases hg
def bz (B : Nat → Nat) : Nat → Nat:=fun k => if k = 0 then B 0 &&& 63 else B k
def xF (B : Nat → Nat) (m : Nat) : Ext:=x3 TE KL (assoc [(12,.int .u8 (Int.ofNat m)),(17,.int .u8 (Int.ofNat (B 0 &&& 63)))]) (fun _ => none)
theorem aEp (B : Nat → Nat) (m : Nat) (w : World) : cH prog (qY prog (xF B m)) w.heap.size w:=kQ (gX _) (gJ _) w
def pF (B : Nat → Nat) (m : Nat) : List Prop:=[pC .shr 5 (.tmp 11) (.const (.int .u64 6)) (.int .u8 (Int.ofNat (B 0))) (.int .u64 6) (.int .u8 (Int.ofNat m)),pC .and 5 (.tmp 16) (.const (.int .u8 63)) (.int .u8 (Int.ofNat (B 0))) (.int .u8 63) (.int .u8 (Int.ofNat (B 0 &&& 63)))]
def zL (B : Nat → Nat) : List At:=.c (.int .u8 (Int.ofNat (B 0 &&& 63))) :: (bL B).tail
theorem Om (B C : Nat → Nat) (m c : Nat) : iD prog (qY prog (xF B m)) TD f67 120 [.s (bL B ++ bL C) 64 c] = some (pF B m,⟨zL B ++ bL C,64,5,1,true,[.im (.int .u8 (Int.ofNat m))],[]⟩):=by kernel_rfl
def lB (L : List Nat) (k : Nat) : Nat:=L.getD k 0
theorem aEI {L : List Nat} (h8 : L8 L) {m : Nat} (hb : L.getD 0 0 / 64 = m) : aP (pF (lB L) m):=by
 have h1:=tA (t:=5) (x:=.tmp 11) (y:=.const (.int .u64 6)) (h8.2 0);rw [hb] at h1;exact ⟨h1,aDQ (a:=L.getD 0 0) (b:=63) (h8.2 0) (by decide),trivial⟩
def aMx (z : Bool) : Tab:=T0.add 68 (Wc z)
theorem pP (z : Bool) : TabOk prog (aMx z):=(dB _).ad func68 (Wb z)
def Zy (z : Bool) : Nat → Cfg:=fun _ => ⟨fun _ => aMx z,fun _ => true,fun _ => none⟩
def pZ (z : Bool) (L : List Nat) (n : Nat) : Prop:=bif z then ∀ k,k < n → L.getD k 0 = 0 else ¬ ∀ k,k < n → L.getD k 0 = 0
def zN (B : Nat → Nat) : List Nat:=(B 0 &&& 63) :: (bN B).tail
def p64 (m : Nat) (B C : Nat → Nat) : List Prop:=[L6 (bN B ++ bN C),B 0 / 64 = m]
def Jh (e : Int) : RV:=.many [.im (.int .u8 0),.im (.slice none 0 0),.im (.bool false),.im (.int .i64 e)]
def aOi : Nat → Cfg:=fun _ => ⟨fun _ => T0,fun _ => true,fun n => bif Nat.beq n 13 then some (.bool true) else bif Nat.beq n 19 then some (.bool true) else none⟩
def gRr : fQ
 | [c] => match RD c with
  | some (l,32) => (match kY l with | some L => some ([L8 (L.take 32)],.many [.fl (q1 (hv (L.take 32))),.im (.int .i64 0)]) | none => none)
  | _ => none
 | _ => none
theorem aHN : ∀ cs pre r,gRr cs = some (pre,r) → aP pre → ∀ (args : List Value) (w : World),bK w cs args → Good prog 69 r args w:=by
 intro cs pre r hg hp args w ha;unfold gRr at hg;split at hg
 ·rename_i c;split at hg
  ·rename_i l hl;split at hg
   ·rename_i L hL;cases hg;have h8 : L8 (L.take 32):=hp.1;have hle : 32 ≤ L.length:=by have:=h8.1; rw [List.length_take] at this; omega
    have htk : ∀ k,k < 32 → (L.take 32).getD k 0 = L.getD k 0:=fun k hk => by rw [List.getD_eq_getElem?_getD,List.getElem?_take,if_pos hk,← List.getD_eq_getElem?_getD]
    match args,ha with
    | [v],ha =>
     obtain ⟨b,o,m,rfl,hb,hr⟩:=JE hl (by have:=ha; cases c <;> exact this.1);have h:=XB b o m (fun k => (L.take 32).getD k 0) h8.2 w hb fun k hk => hr k _ (by have h:=oH hL k (by omega); rw [← htk k hk] at h; exact h)
     refine h.mono ?_
     rintro e w' ⟨s0,s1,s2,s3,c',rfl,hs,⟨h1,rfl⟩,hbl⟩
     obtain ⟨rfl,rfl,rfl,rfl⟩:=fB hs (Uy h8) h1;exact ⟨rfl,hbl⟩
    | [],ha => cases c <;> exact ha.elim
    | _ :: _ :: _,ha => cases c <;> exact ha.2.elim
   ·cases hg
  ·cases hg
 ·cases hg
def aJL (k : Bool) : Tab:=(T0.add 69 gRr).add 70 (EM k)
theorem aEN (k : Bool) : TabOk prog (aJL k):=((dB _).ad func69 aHN).ad func70 (xM k)
def cfP (j k : Bool) : Nat → Cfg:=fun n => ⟨fun _ => aJL (bif Nat.beq n 87 then j else k),fun _ => true,fun _ => none⟩
def x0 : Ext:=x3 TE KL (fun _ => none) (fun _ => none)
theorem mT (w : World) : cH prog (qY prog x0) w.heap.size w:=kQ (gX _) (gJ _) w
def PY : RV:=.many [.im (.slice none 0 0),.im (.bool false)]
theorem VW (B : Nat → Nat) (c : Nat) : iD prog (qY prog x0) (cfP true true) f37 100 [.s (bL B) 32 c] = some ([0 ≤ 32,32 ≤ c,0 < c,L8 (bN B),fY (hv (bN B)) = true],⟨[.q (hv (bN B))],1,24,4,true,[],[.im (.bool true)]⟩):=by kernel_rfl
theorem VX (B : Nat → Nat) (c : Nat) : aM prog (qY prog x0) (cfP false false) f37 100 [.s (bL B) 32 c] = some ([0 ≤ 32,32 ≤ c,0 < c,L8 (bN B),fY (hv (bN B)) = false],PY):=by kernel_rfl
theorem VT (B C : Nat → Nat) (c : Nat) : iD prog (qY prog x0) (cfP true true) f37 100 [.s (bL B ++ bL C) 64 c] = some ([0 ≤ 32,32 ≤ c,0 < c,L8 (bN B),fY (hv (bN B)) = true,32 ≤ 64,64 ≤ c,32 < c,L8 (bN C),fY (hv (bN C)) = true],⟨[.q (hv (bN B)),.q (hv (bN C))],2,24,4,true,[],[.im (.bool true)]⟩):=by kernel_rfl
theorem VV (B C : Nat → Nat) (c : Nat) : aM prog (qY prog x0) (cfP false false) f37 100 [.s (bL B ++ bL C) 64 c] = some ([0 ≤ 32,32 ≤ c,0 < c,L8 (bN B),fY (hv (bN B)) = false],PY):=by kernel_rfl
theorem VU (B C : Nat → Nat) (c : Nat) : aM prog (qY prog x0) (cfP true false) f37 100 [.s (bL B ++ bL C) 64 c] = some ([0 ≤ 32,32 ≤ c,0 < c,L8 (bN B),fY (hv (bN B)) = true,32 ≤ 64,64 ≤ c,32 < c,L8 (bN C),fY (hv (bN C)) = false],PY):=by kernel_rfl
def gPa : List CA → Option (List Prop × FS)
 | [.s l 32 c] => match kY l with
  | some L => some ([L8 L,32 ≤ c,fY (hv L) = true],⟨[.q (hv L)],1,24,4,true,[],[.im (.bool true)]⟩)
  | none => none
 | [.s l 64 c] => match kY l with
  | some L => some ([L6 L,64 ≤ c,fY (hv (L.take 32)) = true,fY (hv (L.drop 32)) = true],⟨[.q (hv (L.take 32)),.q (hv (L.drop 32))],2,24,4,true,[],[.im (.bool true)]⟩)
  | none => none
 | _ => none
def gPn : fQ
 | [.s l 32 c] => match kY l with
  | some L => some ([L8 L,32 ≤ c,fY (hv L) = false],PY)
  | none => none
 | [.s l 64 c] => match kY l with
  | some L => some ([L6 L,64 ≤ c,¬ (fY (hv (L.take 32)) = true ∧ fY (hv (L.drop 32)) = true)],PY)
  | none => none
 | _ => none
theorem Xz (j k : Bool) (n d : Nat) : TabOk prog ((cfP j k n).T d):=aEN _
theorem aHV : ∀ cs pre r,gPa cs = some (pre,r) → aP pre → ∀ (args : List Value) (w : World),bK w cs args → Calls prog 37 args.toArray w (fun e w' => r.ok w e w'):=by
 intro cs pre r hg hp args w ha;have hT : ∀ n d : Nat,TabOkW prog ((cfP true true n).T d) w.heap.size w:=fun n d => (Xz true true n d).w _ _
 unfold gPa at hg;split at hg
 ·rename_i l c;split at hg
  ·rename_i L hL;cases hg;obtain ⟨h8,hc,hb,_⟩:=hp;have hN:=cQ h8.1;have h:=bJ aG hT (mT w) func37 (VW (fun k => L.getD k 0) c) (by rw [hN]; exact ⟨by omega,hc,by omega,h8,hb,trivial⟩) (nA (FH hL h8.1) ha);rw [hN] at h;exact h
  ·cases hg
 ·rename_i l c;split at hg
  ·rename_i L hL;cases hg;obtain ⟨h6,hc,hb,hb2,_⟩:=hp;have hN:=cQ h6.1.1;have hM:=cQ h6.2.1;have h:=bJ aG hT (mT w) func37 (VT (fun k => (L.take 32).getD k 0) (fun k => (L.drop 32).getD k 0) c) (by rw [hN,hM]; exact ⟨by omega,by omega,by omega,h6.1,hb,by omega,hc,by omega,h6.2,hb2,trivial⟩) (nA (gI hL h6) ha);rw [hN,hM] at h;exact h
  ·cases hg
 ·cases hg
theorem aHU : ∀ cs pre r,gPn cs = some (pre,r) → aP pre → ∀ (args : List Value) (w : World),bK w cs args → Good prog 37 r args w:=by
 intro cs pre r hg hp args w ha;have hT : ∀ (j k : Bool) (n d : Nat),TabOkW prog ((cfP j k n).T d) w.heap.size w:=fun j k n d => (Xz j k n d).w _ _
 unfold gPn at hg;split at hg
 ·rename_i l c;split at hg
  ·rename_i L hL;cases hg;obtain ⟨h8,hc,hb,_⟩:=hp;have hN:=cQ h8.1;exact aU aG (hT _ _) (mT w) func37 (VX (fun k => L.getD k 0) c) (by rw [hN]; exact ⟨by omega,hc,by omega,h8,hb,trivial⟩) (nA (FH hL h8.1) ha)
  ·cases hg
 ·rename_i l c;split at hg
  ·rename_i L hL;cases hg;obtain ⟨h6,hc,hb,_⟩:=hp;have hN:=cQ h6.1.1;have hM:=cQ h6.2.1;cases hb1 : fY (hv (L.take 32)) with
   | false => exact aU aG (hT _ _) (mT w) func37 (VV (fun k => (L.take 32).getD k 0) (fun k => (L.drop 32).getD k 0) c) (by rw [hN]; exact ⟨by omega,by omega,by omega,h6.1,hb1,trivial⟩) (nA (gI hL h6) ha)
   | true =>
    have hb2 : fY (hv (L.drop 32)) = false:=by
     cases hb2 : fY (hv (L.drop 32)) with
     | false => rfl
     | true => exact absurd ⟨hb1,hb2⟩ hb
    exact aU aG (hT _ _) (mT w) func37 (VU (fun k => (L.take 32).getD k 0) (fun k => (L.drop 32).getD k 0) c) (by rw [hN,hM]; exact ⟨by omega,by omega,by omega,h6.1,hb1,by omega,hc,by omega,h6.2,hb2,trivial⟩) (nA (gI hL h6) ha)
  ·cases hg
 ·cases hg
def kN (f : FuncId) (cs : List CA) (r : RV) : Prop:=∀ (args : List Value) (w : World),bK w cs args → Good prog f r args w
def Zu (f : FuncId) (cs : List CA) (r : FS) : Prop:=∀ (args : List Value) (w : World),bK w cs args → Calls prog f args.toArray w (fun e w' => r.ok w e w')
def sM (f : FuncId) (r : RV) : fQ:=fun cs => some ([kN f cs r],r)
def Dq (f : FuncId) (r : FS) : List CA → Option (List Prop × FS):=fun cs => some ([Zu f cs r],r)
theorem iS (f : FuncId) (r0 : RV) : ∀ cs pre r,sM f r0 cs = some (pre,r) → aP pre → ∀ (args : List Value) (w : World),bK w cs args → Good prog f r args w:=by
 intro cs pre r hg hp args w ha;cases hg;exact hp.1 args w ha
theorem AT (f : FuncId) (r0 : FS) : ∀ cs pre r,Dq f r0 cs = some (pre,r) → aP pre → ∀ (args : List Value) (w : World),bK w cs args → Calls prog f args.toArray w (fun e w' => r.ok w e w'):=by
 intro cs pre r hg hp args w ha;cases hg;exact hp.1 args w ha
def aJO (e : Int) : Tab:=T0.add 36 (sM 36 (Jh e))
theorem aEQ (e : Int) : TabOk prog (aJO e):=(dB _).ad func36 (iS _ _)
def IG (rest : List At) (n m : Nat) (i : Bool) : FS:=⟨rest,n,5,1,true,[.im (.int .u8 (Int.ofNat m))],[.im (.bool i),.im (.int .i64 0)]⟩
def xBg (rest : List At) (n m : Nat) (i : Bool) : Ext:=x3 (TE.add 36 (Dq 36 (IG rest n m i))) KL (fun _ => none) (fun _ => none)
theorem Ls (rest : List At) (n m : Nat) (i : Bool) (w : World) : cH prog (qY prog (xBg rest n m i)) w.heap.size w:=kQ ((gX _).ad func36 (AT _ _)) (gJ _) w
def aJH : Tab:=T0.add 37 (sM 37 PY)
theorem aLb : TabOk prog aJH:=(dB _).ad func37 (iS _ _)
def CU (l : List At) (n : Nat) : FS:=⟨l,n,24,4,true,[],[.im (.bool true)]⟩
def xPa (l : List At) (n : Nat) : Ext:=x3 (TE.add 37 (Dq 37 (CU l n))) KL (fun _ => none) (fun _ => none)
theorem nD (l : List At) (n : Nat) (w : World) : cH prog (qY prog (xPa l n)) w.heap.size w:=kQ ((gX _).ad func37 (AT _ _)) (gJ _) w
def CT (l : List At) (e : Int) : List Fact:=[.slot 2 (.pt 2 0),.row 2 true l,.slot 3 (.im (.int .i64 e))]
def LH (rest : List At) (n cap : Nat) (r : FS) : Prop:=Zu 37 [.s rest n cap] r
def xU (a m : Nat) : Ext:=x3 TE KL (assoc [(33,.int .u8 (Int.ofNat m)),(84,.int .u64 (Int.ofNat (4 * a % 18446744073709551616))),(85,.int .u64 (Int.ofNat (a % 4611686018427387904)))]) (fun i => bif Nat.beq i 54 then some (4,[.q 0,.q 0,.q 0,.q 0]) else none)
theorem vD (a m : Nat) (w : World) : cH prog (qY prog (xU a m)) w.heap.size w:=kQ (gX _) (gJ _) w
def aMB : Prop:=∃ e,∀ w : World,(Instr.makeSlice 61 (.int .i64 4) (.int .i64 4)).run prog w = .ok (.slice (some ⟨w.heap.size,0,none⟩) 4 4) (w.alloc (.cells (aC [.q 0,.q 0,.q 0,.q 0]).toArray e))
theorem aCD : aMB :=
 RC (P:=prog) (t:=61) (e:=24) (z:=[.q 0]) (v:=.int .u64 0) (N:=4) (n:=4) (by8:=32) (by kernel_rfl) (by kernel_rfl) rfl (show aC [At.q 0] = List.replicate (aC [At.q 0]).length (Value.int .u64 0) from by kernel_rfl) (by omega) (by omega) (by omega)
def hdL (N : Nat) : List At:=[.c (.int .u64 (Int.ofNat (fw N 0))),.c (.int .u64 (Int.ofNat (fw N 1))),.c (.int .u64 (Int.ofNat (fw N 2))),.c (.int .u64 (Int.ofNat (fw N 3 % 4611686018427387904)))]
def ukP (B : Nat → Nat) (m : Nat) (mid : List Prop) : List Prop:=[pC .shr 5 (.tmp 32) (.const (.int .u64 6)) (.int .u8 (Int.ofNat (B 0))) (.int .u64 6) (.int .u8 (Int.ofNat m)),aMB] ++ mid ++ [pC .shl 22 (.tmp 83) (.const (.int .u64 2)) (.int .u64 (Int.ofNat (fw (hv (bN B)) 3))) (.int .u64 2) (.int .u64 (Int.ofNat (4 * fw (hv (bN B)) 3 % 18446744073709551616))),pC .shr 22 (.tmp 84) (.const (.int .u64 2)) (.int .u64 (Int.ofNat (4 * fw (hv (bN B)) 3 % 18446744073709551616))) (.int .u64 2) (.int .u64 (Int.ofNat (fw (hv (bN B)) 3 % 4611686018427387904)))]
def Cz (B C : Nat → Nat) (c : Nat) : List Prop:=[0 ≤ 32,32 ≤ c,0 < c,L8 (bN B),32 ≤ 64,64 ≤ c,32 < c,L8 (bN C)]
def YC (B C D E : Nat → Nat) (c : Nat) : List Prop:=[0 ≤ 32,32 ≤ c,0 < c,L8 (bN B),32 ≤ 64,64 ≤ c,32 < c,L8 (bN C),64 ≤ 96,96 ≤ c,64 < c,L8 (bN D),96 ≤ 128,128 ≤ c,96 < c,L8 (bN E)]
def wM (B C D E : Nat → Nat) : List At:=(bL B ++ bL C) ++ (bL D ++ bL E)
theorem aAK (B C : Nat → Nat) (c : Nat) : iD prog (qY prog (xU (fw (hv (bN B)) 3) 1)) (iK uY) f32 120 [.s (bL B ++ bL C) 64 c,.v (.im (.int .i64 2))] = some (ukP B 1 (Cz B C c),⟨hdL (hv (bN B)) ++ wl (hv (bN C)) ++ [.q 0,.q 0],4,0,0,false,[.im (.int .u8 (Int.ofNat 1))],[.im (.int .i64 0)]⟩):=by kernel_rfl
theorem aAJ (B C : Nat → Nat) (c : Nat) : iD prog (qY prog (xU (fw (hv (bN B)) 3) 2)) (iK uY) f32 120 [.s (bL B ++ bL C) 64 c,.v (.im (.int .i64 2))] = some (ukP B 2 (Cz B C c),⟨hdL (hv (bN B)) ++ wl (hv (bN C)) ++ [.q 0,.q 0],4,0,0,false,[.im (.int .u8 (Int.ofNat 2))],[.im (.int .i64 0)]⟩):=by kernel_rfl
theorem aAI (B C : Nat → Nat) (c : Nat) : iD prog (qY prog (xU (fw (hv (bN B)) 3) 3)) (iK uY) f32 120 [.s (bL B ++ bL C) 64 c,.v (.im (.int .i64 2))] = some (ukP B 3 (Cz B C c),⟨hdL (hv (bN B)) ++ wl (hv (bN C)) ++ [.q 0,.q 0],4,0,0,false,[.im (.int .u8 (Int.ofNat 3))],[.im (.int .i64 0)]⟩):=by kernel_rfl
theorem aAL (B C : Nat → Nat) (c : Nat) : aM prog (qY prog (xU (fw (hv (bN B)) 3) 0)) (iK uY) f32 120 [.s (bL B ++ bL C) 64 c,.v (.im (.int .i64 2))] = some ([pC .shr 5 (.tmp 32) (.const (.int .u64 6)) (.int .u8 (Int.ofNat (B 0))) (.int .u64 6) (.int .u8 (Int.ofNat 0))],.many [.im (.int .u8 0),.im (.slice none 0 0),.im (.int .i64 44)]):=by kernel_rfl
theorem aAH (B C D E : Nat → Nat) (c : Nat) : iD prog (qY prog (xU (fw (hv (bN B)) 3) 0)) (iK uY) f32 160 [.s (wM B C D E) 128 c,.v (.im (.int .i64 2))] = some (ukP B 0 (YC B C D E c),⟨hdL (hv (bN B)) ++ wl (hv (bN C)) ++ wl (hv (bN D)) ++ wl (hv (bN E)),4,0,0,false,[.im (.int .u8 (Int.ofNat 0))],[.im (.int .i64 0)]⟩):=by kernel_rfl
theorem aAG (B C D E : Nat → Nat) (c : Nat) : iD prog (qY prog (xU (fw (hv (bN B)) 3) 1)) (iK uY) f32 160 [.s (wM B C D E) 128 c,.v (.im (.int .i64 2))] = some (ukP B 1 (YC B C D E c),⟨hdL (hv (bN B)) ++ wl (hv (bN C)) ++ wl (hv (bN D)) ++ wl (hv (bN E)),4,0,0,false,[.im (.int .u8 (Int.ofNat 1))],[.im (.int .i64 0)]⟩):=by kernel_rfl
theorem aAF (B C D E : Nat → Nat) (c : Nat) : aM prog (qY prog (xU (fw (hv (bN B)) 3) 2)) (iK uY) f32 160 [.s (wM B C D E) 128 c,.v (.im (.int .i64 2))] = some ([pC .shr 5 (.tmp 32) (.const (.int .u64 6)) (.int .u8 (Int.ofNat (B 0))) (.int .u64 6) (.int .u8 (Int.ofNat 2))],.many [.im (.int .u8 0),.im (.slice none 0 0),.im (.int .i64 44)]):=by kernel_rfl
theorem aAE (B C D E : Nat → Nat) (c : Nat) : aM prog (qY prog (xU (fw (hv (bN B)) 3) 3)) (iK uY) f32 160 [.s (wM B C D E) 128 c,.v (.im (.int .i64 2))] = some ([pC .shr 5 (.tmp 32) (.const (.int .u64 6)) (.int .u8 (Int.ofNat (B 0))) (.int .u64 6) (.int .u8 (Int.ofNat 3))],.many [.im (.int .u8 0),.im (.slice none 0 0),.im (.int .i64 44)]):=by kernel_rfl
theorem aGr (p : Option Addr) (n c : Nat) : aM prog (qG prog) cfO f32 120 [.v (.im (.slice p n c)),.v (.im (.int .i64 2))] = some ([aK .neq .i64 (n : Int) 64 = some (.bool true),aK .neq .i64 (n : Int) 128 = some (.bool true)],.many [.im (.int .u8 0),.im (.slice none 0 0),.im (.int .i64 3)]):=by kernel_rfl
theorem Do (N : Nat) : aC (hdL N) = aC [.q (xv N)]:=by
 have h:=Av N;apply List.append_cancel_right (bs:=aC [.q 0]);rw [← aI,← aI];exact h
theorem FW (N M : Nat) : aC (hdL N ++ wl M ++ [.q 0,.q 0]) = aC [.q (xv N),.q M,.q 0,.q 0]:=by
 rw [aI,aI,Do,wN,← aI,← aI];rfl
theorem Aq (N M K J : Nat) : aC (hdL N ++ wl M ++ wl K ++ wl J) = aC [.q (xv N),.q M,.q K,.q J]:=by
 rw [aI,aI,aI,Do,wN,wN,wN,← aI,← aI,← aI];rfl
def LL (L : List Nat) : Prop:=L6 (L.take 64) ∧ L6 (L.drop 64)
def h4 (L : List Nat) : Nat:=hi (L.take 64)
def i4 (L : List Nat) : Nat:=lo (L.take 64)
def j4 (L : List Nat) : Nat:=hv ((L.drop 64).take 32)
def k4 (L : List Nat) : Nat:=lo (L.drop 64)
theorem iE {l : List At} {L : List Nat} (h : kY l = some L) (h6 : LL L) : aC l = aC (wM (fun k => ((L.take 64).take 32).getD k 0) (fun k => ((L.take 64).drop 32).getD k 0) (fun k => ((L.drop 64).take 32).getD k 0) fun k => ((L.drop 64).drop 32).getD k 0):=by
 unfold wM;rw [xL h,aI,aI,aI,qQ,qQ,qQ,qQ,cQ h6.1.1.1,cQ h6.1.2.1,cQ h6.2.1.1,cQ h6.2.2.1,← List.map_append,← List.map_append,← List.map_append,List.take_append_drop,List.take_append_drop,List.take_append_drop]
theorem b6N {L : List Nat} (h6 : L6 L) : bN (fun k => (L.take 32).getD k 0) ++ bN (fun k => (L.drop 32).getD k 0) = L:=by rw [cQ h6.1.1,cQ h6.2.1,List.take_append_drop]
def gUk (m : Nat) : List CA → Option (List Prop × FS)
 | [.s l 64 c,.v (.im (.int .i64 (.ofNat 2)))] => match kY l with
  | some L => some ([L6 L,(L.take 32).getD 0 0 / 64 = m,64 ≤ c],⟨[.q (hi L),.q (lo L),.q 0,.q 0],4,0,0,false,[.im (.int .u8 (Int.ofNat m))],[.im (.int .i64 0)]⟩)
  | none => none
 | _ => none
def aHG : fQ
 | [.s l 64 c,.v (.im (.int .i64 (.ofNat 2)))] => match kY l with
  | some L => some ([L6 L,(L.take 32).getD 0 0 / 64 = 0,64 ≤ c],.many [.im (.int .u8 0),.im (.slice none 0 0),.im (.int .i64 44)])
  | none => none
 | _ => none
def gUl (m : Nat) : List CA → Option (List Prop × FS)
 | [.s l 128 c,.v (.im (.int .i64 (.ofNat 2)))] => match kY l with
  | some L => some ([LL L,((L.take 64).take 32).getD 0 0 / 64 = m,128 ≤ c],⟨[.q (h4 L),.q (i4 L),.q (j4 L),.q (k4 L)],4,0,0,false,[.im (.int .u8 (Int.ofNat m))],[.im (.int .i64 0)]⟩)
  | none => none
 | _ => none
def aHE (m : Nat) : fQ
 | [.s l 128 c,.v (.im (.int .i64 (.ofNat 2)))] => match kY l with
  | some L => some ([LL L,((L.take 64).take 32).getD 0 0 / 64 = m,128 ≤ c],.many [.im (.int .u8 0),.im (.slice none 0 0),.im (.int .i64 44)])
  | none => none
 | _ => none
theorem yC {B : Nat → Nat} {m : Nat} {mid : List Prop} (AR : pC .shr 5 (.tmp 32) (.const (.int .u64 6)) (.int .u8 (Int.ofNat (B 0))) (.int .u64 6) (.int .u8 (Int.ofNat m))) (hm : aP mid) : aP (ukP B m mid) :=
 aN.2 ⟨aN.2 ⟨⟨AR,aCD,trivial⟩,hm⟩,tC (nZ _ _),tB (nZ _ _),trivial⟩
theorem aHF (m : Nat) (hm : m = 1 ∨ m = 2 ∨ m = 3) : ∀ cs pre r,gUk m cs = some (pre,r) → aP pre → ∀ (args : List Value) (w : World),bK w cs args → Calls prog 32 args.toArray w (fun e w' => r.ok w e w'):=by
 intro cs pre r hg hp args w ha;unfold gUk at hg;split at hg
 ·rename_i l c;split at hg
  ·rename_i L hL;cases hg;obtain ⟨h6,hb,hc,_⟩:=hp;have ha':=pJ (gI hL h6) ha;have hN:=cQ h6.1.1;have hM:=cQ h6.2.1;have AR:=Az h6.1 hb;have hmid : aP (Cz (fun k => (L.take 32).getD k 0) (fun k => (L.drop 32).getD k 0) c):=⟨by omega,by omega,by omega,by rw [hN]; exact h6.1,by omega,hc,by omega,by rw [hM]; exact h6.2,trivial⟩
   rcases hm with rfl | rfl | rfl
   ·have h:=bJ aG (fun _ _ => mW.w _ _) (vD _ _ w) func32 (aAK (fun k => (L.take 32).getD k 0) (fun k => (L.drop 32).getD k 0) c) (yC AR hmid) ha';rw [hN,hM] at h;exact h.mono fun e w' h => h.weak (FW _ _).symm
   ·have h:=bJ aG (fun _ _ => mW.w _ _) (vD _ _ w) func32 (aAJ (fun k => (L.take 32).getD k 0) (fun k => (L.drop 32).getD k 0) c) (yC AR hmid) ha';rw [hN,hM] at h;exact h.mono fun e w' h => h.weak (FW _ _).symm
   ·have h:=bJ aG (fun _ _ => mW.w _ _) (vD _ _ w) func32 (aAI (fun k => (L.take 32).getD k 0) (fun k => (L.drop 32).getD k 0) c) (yC AR hmid) ha';rw [hN,hM] at h;exact h.mono fun e w' h => h.weak (FW _ _).symm
  ·cases hg
 ·cases hg
theorem aCZ : ∀ cs pre r,aHG cs = some (pre,r) → aP pre → ∀ (args : List Value) (w : World),bK w cs args → Good prog 32 r args w:=by
 intro cs pre r hg hp args w ha;unfold aHG at hg;split at hg
 ·rename_i l c;split at hg
  ·rename_i L hL;cases hg;obtain ⟨h6,hb,hc,_⟩:=hp;exact aU aG (fun _ _ => mW.w _ _) (vD _ _ w) func32 (aAL (fun k => (L.take 32).getD k 0) (fun k => (L.drop 32).getD k 0) c) ⟨Az h6.1 hb,trivial⟩ (pJ (gI hL h6) ha)
  ·cases hg
 ·cases hg
theorem aHD (m : Nat) (hm : m = 0 ∨ m = 1) : ∀ cs pre r,gUl m cs = some (pre,r) → aP pre → ∀ (args : List Value) (w : World),bK w cs args → Calls prog 32 args.toArray w (fun e w' => r.ok w e w'):=by
 intro cs pre r hg hp args w ha;unfold gUl at hg;split at hg
 ·rename_i l c;split at hg
  ·rename_i L hL;cases hg;obtain ⟨h6,hb,hc,_⟩:=hp;have ha':=pJ (iE hL h6) ha;have e1:=cQ h6.1.1.1;have e2:=cQ h6.1.2.1;have e3:=cQ h6.2.1.1;have e4:=cQ h6.2.2.1;have AR:=Az h6.1.1 hb;have hmid : aP (YC (fun k => ((L.take 64).take 32).getD k 0) (fun k => ((L.take 64).drop 32).getD k 0) (fun k => ((L.drop 64).take 32).getD k 0) (fun k => ((L.drop 64).drop 32).getD k 0) c):=⟨by omega,by omega,by omega,by rw [e1]; exact h6.1.1,by omega,by omega,by omega,by rw [e2]; exact h6.1.2,by omega,by omega,by omega,by rw [e3]; exact h6.2.1,by omega,hc,by omega,by rw [e4]; exact h6.2.2,trivial⟩
   rcases hm with rfl | rfl
   ·have h:=bJ aG (fun _ _ => mW.w _ _) (vD _ _ w) func32 (aAH (fun k => ((L.take 64).take 32).getD k 0) (fun k => ((L.take 64).drop 32).getD k 0) (fun k => ((L.drop 64).take 32).getD k 0) (fun k => ((L.drop 64).drop 32).getD k 0) c) (yC AR hmid) ha';rw [e1,e2,e3,e4] at h;exact h.mono fun e w' h => h.weak (Aq _ _ _ _).symm
   ·have h:=bJ aG (fun _ _ => mW.w _ _) (vD _ _ w) func32 (aAG (fun k => ((L.take 64).take 32).getD k 0) (fun k => ((L.take 64).drop 32).getD k 0) (fun k => ((L.drop 64).take 32).getD k 0) (fun k => ((L.drop 64).drop 32).getD k 0) c) (yC AR hmid) ha';rw [e1,e2,e3,e4] at h;exact h.mono fun e w' h => h.weak (Aq _ _ _ _).symm
  ·cases hg
 ·cases hg
theorem aCY (m : Nat) (hm : m = 2 ∨ m = 3) : ∀ cs pre r,aHE m cs = some (pre,r) → aP pre → ∀ (args : List Value) (w : World),bK w cs args → Good prog 32 r args w:=by
 intro cs pre r hg hp args w ha;unfold aHE at hg;split at hg
 ·rename_i l c;split at hg
  ·rename_i L hL;cases hg;obtain ⟨h6,hb,hc,_⟩:=hp;have ha':=pJ (iE hL h6) ha;have AR:=Az h6.1.1 hb
   rcases hm with rfl | rfl
   ·exact aU aG (fun _ _ => mW.w _ _) (vD _ _ w) func32 (aAF (fun k => ((L.take 64).take 32).getD k 0) (fun k => ((L.take 64).drop 32).getD k 0) (fun k => ((L.drop 64).take 32).getD k 0) (fun k => ((L.drop 64).drop 32).getD k 0) c) ⟨AR,trivial⟩ ha'
   ·exact aU aG (fun _ _ => mW.w _ _) (vD _ _ w) func32 (aAE (fun k => ((L.take 64).take 32).getD k 0) (fun k => ((L.take 64).drop 32).getD k 0) (fun k => ((L.drop 64).take 32).getD k 0) (fun k => ((L.drop 64).drop 32).getD k 0) c) ⟨AR,trivial⟩ ha'
  ·cases hg
 ·cases hg
def gUo : fQ
 | [.v (.im (.slice p n c)),.v (.im (.int .i64 (.ofNat 2)))] => some ([n ≠ 64,n ≠ 128],.many [.im (.int .u8 0),.im (.slice none 0 0),.im (.int .i64 3)])
 | _ => none
theorem aHC : ∀ cs pre r,gUo cs = some (pre,r) → aP pre → ∀ (args : List Value) (w : World),bK w cs args → Good prog 32 r args w:=by
 intro cs pre r hg hp args w ha;unfold gUo at hg;split at hg
 ·rename_i p n c;cases hg;exact aD aG (fun _ _ => dB _) (aH prog) func32 (aGr p n c) ⟨Cx hp.1,Cx hp.2.1,trivial⟩ ha
 ·cases hg
def lZ : Q2:=(⟨21575463638280843010398324269430826099269044274347216827212613867836435027261,by decide⟩,⟨10307601595873709700152284273816112264069230130616436755625194854815875713954,by decide⟩)
def sK : Q2:=(⟨2821565182194536844548159561693502659359617185244120367078079554186484126554,by decide⟩,⟨3505843767911556378687030309984248845540243509899259641013678093033130930403,by decide⟩)
def Ds : Q2:=(⟨10857046999023057135944570762232829481370756359578518086990519993285655852781,by decide⟩,⟨11559732032986387107991004021392285783925812861821192530917403151452391805634,by decide⟩)
def Kr : Q2:=(⟨8495653923123431417604973247489272438418190587263600148770280649306958101930,by decide⟩,⟨4082367875863433681332203403145435568316851327593401208105741076214120093531,by decide⟩)
def dV : Nat:=147946756881789318990833708069417712966
def Vw : fQ
 | [.v (.im (.int .i64 (.ofNat 1)))] => some ([],.one (.fl (q1 FP.M)))
 | [.v (.im (.int .i64 (.ofNat 2)))] => some ([],.one (.fl (q1 Go.Proofs.YtfnkbmlmgnadmaaGreat.FR.M)))
 | _ => none
theorem aDs : ∀ cs pre r,Vw cs = some (pre,r) → aP pre → ∀ (args : List Value) (w : World),bK w cs args → Good prog 54 r args w:=by
 intro cs pre r hg hp args w ha;unfold Vw at hg;split at hg
 ·cases hg
  match args,ha with
  | [v],ha =>
   have h1 : v = .int .i64 1:=ha.1;subst h1;exact (pR 1 FP (Or.inl ⟨rfl,rfl⟩) w).mono fun e w' h => h
  | [],ha => exact ha.elim
  | _ :: _ :: _,ha => exact ha.2.elim
 ·cases hg
  match args,ha with
  | [v],ha =>
   have h1 : v = .int .i64 2:=ha.1;subst h1;exact (pR 2 Go.Proofs.YtfnkbmlmgnadmaaGreat.FR (Or.inr ⟨rfl,rfl⟩) w).mono fun e w' h => h
  | [],ha => exact ha.elim
  | _ :: _ :: _,ha => exact ha.2.elim
 ·cases hg
def Vr : fQ
 | [.v (.fl l),.v (.fl m)] => some ([aC l = aC (q1 FP.M),aC m = aC (q1 Go.Proofs.YtfnkbmlmgnadmaaGreat.FR.M)],.many [.fl (q1 dV),.im (.int .u64 0)])
 | _ => none
theorem aCJ : ∀ cs pre r,Vr cs = some (pre,r) → aP pre → ∀ (args : List Value) (w : World),bK w cs args → Good prog 53 r args w:=by
 intro cs pre r hg hp args w ha;unfold Vr at hg;split at hg
 ·rename_i l m;cases hg;obtain ⟨e1,e2,_⟩:=hp
  match args,ha with
  | [v,u],ha =>
   have h1 : v = .agg (aC l).toArray:=ha.1;have h2 : u = .agg (aC m).toArray:=ha.2.1;rw [e1] at h1;rw [e2] at h2;subst h1; subst h2;refine (lI _ _ _ _ _ _ _ _ (bM FP.M) (bM Go.Proofs.YtfnkbmlmgnadmaaGreat.FR.M) w).mono ?_
   rintro e w' ⟨s0,s1,s2,s3,c,rfl,hs,hc,hv,hb⟩
   have v1 : aA (fw FP.M 0) (fw FP.M 1) (fw FP.M 2) (fw FP.M 3) = 21888242871839275222246405745257275088696311157297823662689037894645226208583:=by kernel_rfl
   have v2 : aA (fw Go.Proofs.YtfnkbmlmgnadmaaGreat.FR.M 0) (fw Go.Proofs.YtfnkbmlmgnadmaaGreat.FR.M 1) (fw Go.Proofs.YtfnkbmlmgnadmaaGreat.FR.M 2) (fw Go.Proofs.YtfnkbmlmgnadmaaGreat.FR.M 3) = 21888242871839275222246405745257275088548364400416034343698204186575808495617:=by kernel_rfl
   rw [v1,v2] at hv;obtain ⟨h0,h1,h2,h3⟩:=hs;have hlt : aA s0 s1 s2 s3 < 115792089237316195423570985008687907853269984665640564039457584007913129639936:=by unfold aA; omega
   have hc0 : c = 0:=by omega
   subst hc0;have hv2 : aA s0 s1 s2 s3 = dV:=by unfold dV; omega
   obtain ⟨rfl,rfl,rfl,rfl⟩:=fB ⟨h0,h1,h2,h3⟩ (by unfold dV; omega) hv2;exact ⟨rfl,hb⟩
  | [],ha => exact ha.elim
  | [_],ha => exact ha.2.elim
  | _ :: _ :: _ :: _,ha => exact ha.2.2.elim
 ·cases hg
def Zk : Tab:=(Zb).add 54 Vw
theorem aCn : TabOk prog Zk:=(aCi).ad func54 aDs
def ZV : Tab:=(Zk).add 53 Vr
theorem Ch : TabOk prog ZV:=(aCn).ad func53 aCJ
theorem Pi  : aM prog (qG prog) (fun _ => ⟨fun s => ZV,fun s => true,fun _ => none⟩) f104 60 [] = some ([],.one (.fl (CG (some (Ds,Kr))))):=by kernel_rfl
def Ag : Tab:=(ZV).add 104 (g0 (.one (.fl (CG (some (Ds,Kr))))))
theorem Cr : TabOk prog Ag:=(Ch).ad func104 (AW fun w => aD aG (fun _ s => Ch) (aH prog) func104 Pi trivial (args:=[]) trivial)
theorem Iv  : aM prog (qG prog) (fun _ => ⟨fun s => Ag,fun s => true,fun _ => none⟩) f55 60 [] = some ([],.one (.fl (q1 Go.Proofs.YtfnkbmlmgnadmaaGreat.FR.M))):=by kernel_rfl
def LE : Tab:=(Ag).add 55 (g0 (.one (.fl (q1 Go.Proofs.YtfnkbmlmgnadmaaGreat.FR.M))))
theorem QN : TabOk prog LE:=(Cr).ad func55 (AW fun w => aD aG (fun _ s => Cr) (aH prog) func55 Iv trivial (args:=[]) trivial)
theorem VO  : aM prog (qG prog) (fun _ => ⟨fun s => LE,fun s => true,fun _ => none⟩) f60 60 [] = some ([],.one (.fl (q1 Go.Proofs.YtfnkbmlmgnadmaaGreat.FR.M))):=by kernel_rfl
def BX : Tab:=(LE).add 60 (g0 (.one (.fl (q1 Go.Proofs.YtfnkbmlmgnadmaaGreat.FR.M))))
theorem EB : TabOk prog BX:=(QN).ad func60 (AW fun w => aD aG (fun _ s => QN) (aH prog) func60 VO trivial (args:=[]) trivial)
theorem Gp  : aM prog (qG prog) (fun _ => ⟨fun s => BX,fun s => true,fun _ => none⟩) f88 60 [] = some ([],.many [.fl (e2 lZ),.fl (e2 sK)]):=by kernel_rfl
def KO : Tab:=(BX).add 88 (g0 (.many [.fl (e2 lZ),.fl (e2 sK)]))
theorem QG : TabOk prog KO:=(EB).ad func88 (AW fun w => aD aG (fun _ s => EB) (aH prog) func88 Gp trivial (args:=[]) trivial)
theorem aLn (x y : N2) : KO 89 [.v (.fl (q2 x)),.v (.fl (q2 y))] = some ([],.one (.fl (e2 (F2.mul (m2 x) (m2 y))))):=by kernel_rfl
def pB : Tab:=(KO).add 89 (g2 nC nC (fun x y => ([],.one (.fl (e2 (F2.mul x y))))))
theorem nU : TabOk prog pB:=(QG).ad func89 (gU cF cF fun x y hp args w ha => (QG _ _ _ _ (aLn x y) trivial).2 args w ha)
theorem CP (x y : N2) : aM prog (qG prog) (fun _ => ⟨fun s => pB,fun s => true,fun s => bif Nat.beq s 10 then some (.bool true) else none⟩) f52 60 [.v (.fl (dR (x,y,true)))] = some ([aK .neq .i64 (dI x y true).1 0 = some (.bool true)],.many [.fl (CG (some (F2.zero,F2.zero))),.im (.int .i64 (dI x y true).1)]):=by kernel_rfl
theorem CO (x y : N2) : aM prog (qG prog) (fun _ => ⟨fun s => pB,fun s => true,fun s => bif Nat.beq s 10 then some (.bool false) else none⟩) f52 60 [.v (.fl (dR (x,y,true)))] = some ([aK .neq .i64 (dI x y true).1 0 = some (.bool false)],.many [.fl (e2 (F2.mul (cL (m2 x)) lZ) ++ (e2 (F2.mul (cL (m2 y)) sK) ++ [.c (.bool true)])),.im (.int .i64 0)]):=by kernel_rfl
theorem yN (x y : N2) : aM prog (qG prog) (fun _ => ⟨fun s => pB,fun s => true,fun s => bif Nat.beq s 10 then some (.bool true) else none⟩) f52 60 [.v (.fl (dR (x,y,false)))] = some ([aK .neq .i64 (dI x y false).1 0 = some (.bool true)],.many [.fl (CG (some (F2.zero,F2.zero))),.im (.int .i64 (dI x y false).1)]):=by kernel_rfl
theorem yM (x y : N2) : aM prog (qG prog) (fun _ => ⟨fun s => pB,fun s => true,fun s => bif Nat.beq s 10 then some (.bool false) else none⟩) f52 60 [.v (.fl (dR (x,y,false)))] = some ([aK .neq .i64 (dI x y false).1 0 = some (.bool false)],.many [.fl (e2 (F2.mul (cL (m2 x)) lZ) ++ (e2 (F2.mul (cL (m2 y)) sK) ++ [.c (.bool false)])),.im (.int .i64 0)]):=by kernel_rfl
def psP : Pt Q2 → Pt Q2
 | none => none
 | some p => some (F2.mul (cL p.1) lZ,F2.mul (cL p.2) sK)
def dK (p : dM) : Pt Q2 × Int:=if (fJ p).1 ≠ 0 then (some (F2.zero,F2.zero),(fJ p).1) else (psP (Zz p),0)
theorem aEU {x : N2} (h : xV x) : m2 x = F2.zero:=by
 refine Prod.ext (Fin.ext ?_) (Fin.ext ?_)
 ·show wv x.1 % FP.M = 0;rw [h.1]; rfl
 ·show wv x.2 % FP.M = 0;rw [h.2]; rfl
theorem Es : cL F2.zero = F2.zero:=by decide
theorem aIW {x y : N2} (h : (dI x y true).1 = 0) : xV x ∧ xV y:=by
 rw [jI,if_pos rfl] at h
 by_cases hz : xV x ∧ xV y
 ·exact hz
 ·rw [if_neg hz] at h; cases h
theorem aGD (p : dM) (args : List Value) (w : World) (ha : bK w [.v (.fl (dR p))] args) : Good prog 52 (.many [.fl (CG (dK p).1),.im (.int .i64 (dK p).2)]) args w:=by
 obtain ⟨x,y,b⟩:=p
 by_cases h : (dI x y b).1 = 0
 ·rw [show dK (x,y,b) = (psP (Zz (x,y,b)),0) from if_neg (fun q => q h)];cases b with
  | false => exact aD aG (fun _ s => nU) (aH prog) func52 (yM x y) ⟨QX h,trivial⟩ ha
  | true =>
   refine Good.congr (aD aG (fun _ s => nU) (aH prog) func52 (CO x y) ⟨QX h,trivial⟩ ha) ?_;obtain ⟨hx,hy⟩:=aIW h;rw [aEU hx,aEU hy,Es,F2.zero_mul,F2.zero_mul];rfl
 ·rw [show dK (x,y,b) = (some (F2.zero,F2.zero),(dI x y b).1) from if_pos h];cases b with
  | true => exact aD aG (fun _ s => nU) (aH prog) func52 (CP x y) ⟨QV h,trivial⟩ ha
  | false => exact aD aG (fun _ s => nU) (aH prog) func52 (yN x y) ⟨QV h,trivial⟩ ha
def CD : Tab:=(pB).add 52 (g1 Jb fun p => ([],.many [.fl (CG (dK p).1),.im (.int .i64 (dK p).2)]))
theorem wY : TabOk prog CD:=(nU).ad func52 (cN jB fun p hp args w ha => aGD p args w ha)
theorem Hr (p : dM) : aM prog (qG prog) (fun _ => ⟨fun s => CD,fun s => true,fun s => bif Nat.beq s 15 then some (.bool true) else none⟩) f29 60 [.v (.fl (dR p))] = some ([aK .neq .i64 (dK p).2 0 = some (.bool true)],.one (.im (.bool false))):=by kernel_rfl
theorem Hq (p : dM) : aM prog (qG prog) (fun _ => ⟨fun s => CD,fun s => true,fun s => bif Nat.beq s 15 then some (.bool false) else none⟩) f29 60 [.v (.fl (dR p))] = some ([aK .neq .i64 (dK p).2 0 = some (.bool false),aC (q1 FP.M) = aC (q1 FP.M),aC (q1 Go.Proofs.YtfnkbmlmgnadmaaGreat.FR.M) = aC (q1 Go.Proofs.YtfnkbmlmgnadmaaGreat.FR.M),aC (CG (gY (fun _ => p) (fun _ => dV) 1).1) = aC (CG (dK p).1)],.one (.im (.bool true))):=by kernel_rfl
theorem Hp (p : dM) : aM prog (qG prog) (fun _ => ⟨fun s => CD,fun s => false,fun s => bif Nat.beq s 15 then some (.bool false) else none⟩) f29 60 [.v (.fl (dR p))] = some ([aK .neq .i64 (dK p).2 0 = some (.bool false),aC (q1 FP.M) = aC (q1 FP.M),aC (q1 Go.Proofs.YtfnkbmlmgnadmaaGreat.FR.M) = aC (q1 Go.Proofs.YtfnkbmlmgnadmaaGreat.FR.M),aC (CG (gY (fun _ => p) (fun _ => dV) 1).1) ≠ aC (CG (dK p).1)],.one (.im (.bool false))):=by kernel_rfl
theorem aCX {P Q : Pt Q2} (h : aC (CG P) = aC (CG Q)) : P = Q:=by
 have h' : w4 (ptX F2 P).1.1 ++ (w4 (ptX F2 P).2.1 ++ (w4 (ptY F2 P).1.1 ++ (w4 (ptY F2 P).2.1 ++ [Value.bool (ptI P)]))) = w4 (ptX F2 Q).1.1 ++ (w4 (ptX F2 Q).2.1 ++ (w4 (ptY F2 Q).1.1 ++ (w4 (ptY F2 Q).2.1 ++ [Value.bool (ptI Q)]))):=h;obtain ⟨h1,h'⟩:=List.append_inj h' rfl;obtain ⟨h2,h'⟩:=List.append_inj h' rfl;obtain ⟨h3,h'⟩:=List.append_inj h' rfl;obtain ⟨h4,h'⟩:=List.append_inj h' rfl;have h5 : ptI P = ptI Q:=by injection h' with h' _; injection h'
 have e : ∀ {a b : Fq},w4 a.1 = w4 b.1 → a = b:=fun {a b} hw => by
  have:=wO hw;refine Fin.ext ?_;have ha : wv a.1 = a.1:=bF a.2;have hb : wv b.1 = b.1:=bF b.2;rw [← ha,← hb,this]
 cases P with
 | none =>
  cases Q with
  | none => rfl
  | some q => cases h5
 | some p =>
  cases Q with
  | none => cases h5
  | some q => exact congrArg some (Prod.ext (Prod.ext (e h1) (e h2)) (Prod.ext (e h3) (e h4)))
open Classical in
def eH (p : dM) : Bool:=decide ((dK p).2 = 0 ∧ (gY (fun _ => p) (fun _ => dV) 1).1 = (dK p).1)
theorem Uw (p : dM) (args : List Value) (w : World) (ha : bK w [.v (.fl (dR p))] args) : Good prog 29 (.one (.im (.bool (eH p)))) args w:=by
 unfold eH
 by_cases h1 : (dK p).2 = 0
 ·by_cases h2 : (gY (fun _ => p) (fun _ => dV) 1).1 = (dK p).1
  ·rw [decide_eq_true (And.intro h1 h2)];exact aD aG (fun _ s => wY) (aH prog) func29 (Hq p) ⟨QX h1,rfl,rfl,by rw [h2],trivial⟩ ha
  ·rw [decide_eq_false (fun h => h2 h.2)];exact aD aG (fun _ s => wY) (aH prog) func29 (Hp p) ⟨QX h1,rfl,rfl,fun h => h2 (aCX h),trivial⟩ ha
 ·rw [decide_eq_false (fun h => h1 h.1)];exact aD aG (fun _ s => wY) (aH prog) func29 (Hr p) ⟨QV h1,trivial⟩ ha
def pV : Tab:=(CD).add 29 (g1 Jb fun p => ([],.one (.im (.bool (eH p)))))
theorem mF : TabOk prog pV:=(wY).ad func29 (cN jB fun p hp args w ha => Uw p args w ha)
section
variable {R : Type} [DecidableEq R] (K : CR R)
def En (p q : Jc R) : Jc R :=
 if p.2.2 = K.zero then q else if q.2.2 = K.zero then p else if qZ K p q = K.zero then (if JH K p q = K.zero then dT K p else (K.one,K.one,K.zero)) else DB K p q
theorem Xi (p q : Jc R) : En K p q = rplus K p q:=by
 unfold En rplus
 by_cases h1 : p.2.2 = K.zero
 ·rw [if_pos h1,if_pos h1]
 ·rw [if_neg h1,if_neg h1]
  by_cases h2 : q.2.2 = K.zero
  ·rw [if_pos h2,if_pos h2]
  ·rw [if_neg h2,if_neg h2]
   by_cases h3 : qZ K p q = K.zero
   ·rw [if_pos h3]
    by_cases h4 : JH K p q = K.zero
    ·rw [if_pos h4,if_pos ⟨h3,h4⟩]
    ·rw [if_neg h4,if_neg (fun h => h4 h.2),if_pos h3]
   ·rw [if_neg h3,if_neg (fun h => h3 h.1),if_neg h3]
def LK (a : Jc R) (n L : Nat) : Nat → Jc R
 | 0 => (K.one,K.one,K.zero)
 | k + 1 => if Nat.beq (n / 2 ^ (L - (k + 1)) % 2) 1 = true then En K (dT K (LK a n L k)) a else dT K (LK a n L k)
variable {K} {inv : R → R} {b : R}
theorem El {E : EC K inv b} {a : Jc R} {g : {p : Pt R // On K b p}} (h : Rp E a g) (n L : Nat) (hn : n < 2 ^ L) : ∀ k,k ≤ L → Rp E (LK K a n L k) (E.grp.ns (n / 2 ^ (L - k)) g)
 | 0,_ => by
  rw [Nat.sub_zero,Nat.div_eq_of_lt hn];exact Rp.zero rfl
 | k + 1,hk => by
  have ih:=El h n L hn k (by omega);have e : n / 2 ^ (L - k) = n / 2 ^ (L - (k + 1)) / 2:=by
   rw [show L - k = (L - (k + 1)) + 1 by omega,Nat.pow_add,← Nat.div_div_eq_div_mul]
  rw [e] at ih;have h2:=ih.dbl;rw [← E.grp.ns_add] at h2
  by_cases hb : n / 2 ^ (L - (k + 1)) % 2 = 1
  ·rw [show LK K a n L (k + 1) = En K (dT K (LK K a n L k)) a from if_pos (by rw [hb]; rfl),Xi];have h3:=h2.rplus h;rw [show n / 2 ^ (L - (k + 1)) = n / 2 ^ (L - (k + 1)) / 2 + n / 2 ^ (L - (k + 1)) / 2 + 1 by omega];exact h3
  ·rw [show LK K a n L (k + 1) = dT K (LK K a n L k) from if_neg (fun hq => hb (Nat.eq_of_beq_eq_true hq))];rw [show n / 2 ^ (L - (k + 1)) = n / 2 ^ (L - (k + 1)) / 2 + n / 2 ^ (L - (k + 1)) / 2 by omega];exact h2
theorem xI {E : EC K inv b} {a : Jc R} {g : {p : Pt R // On K b p}} (h : Rp E a g) (n L : Nat) (hn : n < 2 ^ L) : Rp E (LK K a n L L) (E.grp.ns n g):=by
 have:=El h n L hn L (Nat.le_refl _)
 rwa [Nat.sub_self,Nat.pow_zero,Nat.div_one] at this
end
def ord : Nat:=21888242871839275222246405745257275088548364400416034343698204186575808495617
def psX : Q2:=F2.mul (cL Ds) lZ
def psY : Q2:=F2.mul (cL Kr) sK
def CZ : J2:=LK F2 (Ds,Kr,F2.one) dV 127 127
theorem aLy : CZ.2.2 ≠ F2.zero:=of_decide_eq_true (by kernel_rfl)
theorem aLA : CZ.1 = F2.mul psX (F2.mul CZ.2.2 CZ.2.2):=of_decide_eq_true (by kernel_rfl)
theorem aLz : CZ.2.1 = F2.mul psY (F2.mul (F2.mul CZ.2.2 CZ.2.2) CZ.2.2):=of_decide_eq_true (by kernel_rfl)
section
variable {R : Type} {K : CR R} {inv : R → R} {b : R}
theorem RI (E : EC K inv b) {p : Jc R} {x y : R} (hz : p.2.2 ≠ K.zero) (hx : p.1 = K.mul x (K.mul p.2.2 p.2.2)) (hy : p.2.1 = K.mul y (K.mul (K.mul p.2.2 p.2.2) p.2.2)) : hJ K inv p = some (x,y):=by
 have h1:=E.F.inv _ hz;rw [eG hz,hx,hy];generalize inv p.2.2 = i at h1 ⊢;generalize p.2.2 = z at h1 ⊢;refine congrArg some (Prod.ext ?_ ?_)
 ·show K.mul (K.mul x (K.mul z z)) (K.mul i i) = x;have e : K.mul (K.mul x (K.mul z z)) (K.mul i i) = K.mul x (K.mul (K.mul z i) (K.mul z i)):=aQ K (cE K [x,z,i]) (.mul (.mul (.v 0) (.mul (.v 1) (.v 1))) (.mul (.v 2) (.v 2))) (.mul (.v 0) (.mul (.mul (.v 1) (.v 2)) (.mul (.v 1) (.v 2)))) (by decide);rw [e,h1,K.one_mul,K.mul_one]
 ·show K.mul (K.mul y (K.mul (K.mul z z) z)) (K.mul (K.mul i i) i) = y;have e : K.mul (K.mul y (K.mul (K.mul z z) z)) (K.mul (K.mul i i) i) = K.mul y (K.mul (K.mul (K.mul z i) (K.mul z i)) (K.mul z i)):=aQ K (cE K [y,z,i]) (.mul (.mul (.v 0) (.mul (.mul (.v 1) (.v 1)) (.v 1))) (.mul (.mul (.v 2) (.v 2)) (.v 2))) (.mul (.v 0) (.mul (.mul (.mul (.v 1) (.v 2)) (.mul (.v 1) (.v 2))) (.mul (.v 1) (.v 2)))) (by decide);rw [e,h1,K.one_mul,K.one_mul,K.mul_one]
end
def Lh : dM:=((Ds.1.1,Ds.2.1),(Kr.1.1,Kr.2.1),false)
theorem Tz (x : Fq) : m1 x.1 = x:=Fin.ext (show wv x.1 % FP.M = x.1 by rw [show wv x.1 = x.1 from bF x.2]; exact Nat.mod_eq_of_lt x.2)
theorem Fd (x : Fq) : wK x.1:=by show wv x.1 < FP.M; rw [show wv x.1 = x.1 from bF x.2]; exact x.2
theorem JB (x : Q2) : m2 (x.1.1,x.2.1) = x:=Prod.ext (Tz x.1) (Tz x.2)
theorem Fc (x : Q2) : gD (x.1.1,x.2.1):=⟨Fd x.1,Fd x.2⟩
theorem Xn {x y : Q2} (h : On F2 lY (some (x,y))) : (fJ ((x.1.1,x.2.1),(y.1.1,y.2.1),false)).1 = 0:=by
 have e:=jI (x.1.1,x.2.1) (y.1.1,y.2.1) false;rw [if_neg (by simp),if_neg (fun q => q ⟨Fc x,Fc y⟩),JB,JB] at e;have h' : F2.mul y y = F2.add (F2.mul (F2.mul x x) x) lY:=by
  rw [F2.mul_comm (F2.mul x x) x]; exact h
 rw [if_pos h'] at e;show (dI (x.1.1,x.2.1) (y.1.1,y.2.1) false).1 = 0;rw [e]
theorem aLK : On F2 lY (some (Ds,Kr)):=by
 show F2.mul Kr Kr = F2.add (F2.mul Ds (F2.mul Ds Ds)) lY;exact of_decide_eq_true (by kernel_rfl)
theorem aFd : (fJ Lh).1 = 0:=Xn aLK
theorem ZJ (x y : Q2) : Zz ((x.1.1,x.2.1),(y.1.1,y.2.1),false) = some (x,y):=congrArg some (Prod.ext (JB x) (JB y))
theorem aIv : Rp cJ (Ds,Kr,F2.one) (uV Lh):=(cJ.jto_one _ _).trans ((uU aFd).trans (ZJ Ds Kr)).symm
theorem aCK : dV < 2 ^ 127:=of_decide_eq_true (by kernel_rfl)
theorem aCL : Rp cJ CZ (cJ.grp.ns dV (uV Lh)):=xI aIv dV 127 aCK
theorem aDp : (cJ.grp.ns dV (uV Lh)).1 = some (psX,psY):=by
 rw [← show hJ F2 kO CZ = (cJ.grp.ns dV (uV Lh)).1 from aCL];exact RI cJ aLy aLA aLz
theorem aFI : wv Go.Proofs.YtfnkbmlmgnadmaaGreat.FR.M = ord:=by kernel_rfl
theorem An : wv dV = dV:=by kernel_rfl
def tn2 (P : Pt Q2) : dM:=(((ptX F2 P).1.1,(ptX F2 P).2.1),((ptY F2 P).1.1,(ptY F2 P).2.1),ptI P)
theorem TR : ∀ {P : Pt Q2},On F2 lY P → (fJ (tn2 P)).1 = 0
 | none,_ => by
  have e:=jI (0,0) (0,0) true;rw [if_pos rfl,if_pos ⟨⟨by show wv 0 = 0; rfl,by show wv 0 = 0; rfl⟩,by show wv 0 = 0; rfl,by show wv 0 = 0; rfl⟩] at e;show (dI (0,0) (0,0) true).1 = 0;rw [e]
 | some p,h => Xn h
theorem Yx : ∀ P : Pt Q2,Zz (tn2 P) = P
 | none => rfl
 | some p => ZJ p.1 p.2
theorem aIM (P : C2) : uV (tn2 P.1) = P:=Subtype.ext ((uU (TR P.2)).trans (Yx P.1))
theorem tM2 (P : C2) (n : Nat) : gY (fun _ => tn2 P.1) (fun _ => n) 1 = ((cJ.grp.ns (wv n) P).1,0):=by
 rw [Bi,if_neg (fun q => q (TR P.2)),aIM]
open Classical
section
variable {R : Type} {K : CR R} {inv : R → R} {b : R}
structure Tw (K : CR R) (b : R) (s : R → R) (k : R) : Prop where
 add : ∀ x y,s (K.add x y) = K.add (s x) (s y)
 mul : ∀ x y,s (K.mul x y) = K.mul (s x) (s y)
 neg : ∀ x,s (K.neg x) = K.neg (s x)
 zero : s K.zero = K.zero
 ss : ∀ x,s (s x) = x
 k0 : k ≠ K.zero
 hb : K.mul (K.mul (K.mul (K.mul k k) k) (K.mul (K.mul k k) k)) (s b) = b
def tw (K : CR R) (s : R → R) (k : R) : Pt R → Pt R
 | none => none
 | some p => some (K.mul (s p.1) (K.mul k k),K.mul (s p.2) (K.mul (K.mul k k) k))
variable {s : R → R} {k : R}
theorem Tw.inj (t : Tw K b s k) {x y : R} (h : s x = s y) : x = y:=by rw [← t.ss x,h,t.ss]
theorem Tw.sub (t : Tw K b s k) (x y : R) : s (K.sub x y) = K.sub (s x) (s y):=by
 show s (K.add x (K.neg y)) = K.add (s x) (K.neg (s y));rw [t.add,t.neg]
theorem xB (E : EC K inv b) {x y c : R} (hc : c ≠ K.zero) (h : K.mul x c = K.mul y c) : x = y:=by
 have h1:=congrArg (fun z => K.mul z (inv c)) h;have h2:=E.F.inv c hc;simp only [K.mul_assoc,h2,K.mul_one] at h1;exact h1
theorem Tw.k2 (t : Tw K b s k) (E : EC K inv b) : K.mul k k ≠ K.zero:=E.F.mul_ne t.k0 t.k0
theorem Tw.k3 (t : Tw K b s k) (E : EC K inv b) : K.mul (K.mul k k) k ≠ K.zero:=E.F.mul_ne (t.k2 E) t.k0
theorem aKm (t : Tw K b s k) (E : EC K inv b) : ∀ {P : Pt R},On K b P → On K b (tw K s k P)
 | none,_ => trivial
 | some p,h => by
  have h' : K.mul p.2 p.2 = K.add (K.mul p.1 (K.mul p.1 p.1)) b:=h;have h1:=congrArg s h';rw [t.mul,t.add,t.mul,t.mul] at h1;show K.mul (K.mul (s p.2) (K.mul (K.mul k k) k)) (K.mul (s p.2) (K.mul (K.mul k k) k)) = K.add (K.mul (K.mul (s p.1) (K.mul k k)) (K.mul (K.mul (s p.1) (K.mul k k)) (K.mul (s p.1) (K.mul k k)))) b;have e1 : K.mul (K.mul (s p.2) (K.mul (K.mul k k) k)) (K.mul (s p.2) (K.mul (K.mul k k) k)) = K.mul (K.mul (K.mul (K.mul k k) k) (K.mul (K.mul k k) k)) (K.mul (s p.2) (s p.2)):=aQ K (cE K [s p.2,k]) (.mul (.mul (.v 0) (.mul (.mul (.v 1) (.v 1)) (.v 1))) (.mul (.v 0) (.mul (.mul (.v 1) (.v 1)) (.v 1)))) (.mul (.mul (.mul (.mul (.v 1) (.v 1)) (.v 1)) (.mul (.mul (.v 1) (.v 1)) (.v 1))) (.mul (.v 0) (.v 0))) (by decide);have e2 : K.mul (K.mul (s p.1) (K.mul k k)) (K.mul (K.mul (s p.1) (K.mul k k)) (K.mul (s p.1) (K.mul k k))) = K.mul (K.mul (K.mul (K.mul k k) k) (K.mul (K.mul k k) k)) (K.mul (s p.1) (K.mul (s p.1) (s p.1))):=aQ K (cE K [s p.1,k]) (.mul (.mul (.v 0) (.mul (.v 1) (.v 1))) (.mul (.mul (.v 0) (.mul (.v 1) (.v 1))) (.mul (.v 0) (.mul (.v 1) (.v 1))))) (.mul (.mul (.mul (.mul (.v 1) (.v 1)) (.v 1)) (.mul (.mul (.v 1) (.v 1)) (.v 1))) (.mul (.v 0) (.mul (.v 0) (.v 0)))) (by decide);rw [e1,e2,h1,K.mul_add,t.hb]
theorem Mc (t : Tw K b s k) (E : EC K inv b) {x1 y1 x2 y2 : R} (hp : On K b (some (x1,y1))) (hq : On K b (some (x2,y2))) (h : ¬ (x1 = x2 ∧ K.add y1 y2 = K.zero)) :
  gK K inv (K.mul (s x1) (K.mul k k)) (K.mul (s y1) (K.mul (K.mul k k) k)) (K.mul (s x2) (K.mul k k)) (K.mul (s y2) (K.mul (K.mul k k) k)) = K.mul (s (gK K inv x1 y1 x2 y2)) k:=by
 by_cases hx : x1 = x2
 ·subst hx;have hy : K.add y1 y2 ≠ K.zero:=fun e => h ⟨rfl,e⟩
  have hyy : y1 = y2:=by
   apply Classical.byContradiction;intro hn;exact hy (GK E (show K.mul y1 y1 = K.mul y2 y2 from (show K.mul y1 y1 = _ from hp).trans (show K.mul y2 y2 = _ from hq).symm) hn)
  subst hyy;have hl : K.mul (gK K inv x1 y1 x1 y1) (K.add y1 y1) = K.add (K.add (K.mul x1 x1) (K.mul x1 x1)) (K.mul x1 x1):=by
   unfold gK;rw [if_pos rfl,K.mul_assoc,K.mul_comm (inv _),E.F.inv _ hy,K.mul_one]
  generalize gK K inv x1 y1 x1 y1 = l at hl ⊢;have h1:=congrArg s hl;rw [t.mul,t.add,t.add,t.add,t.mul] at h1;have hys : K.add (s y1) (s y1) ≠ K.zero:=fun e => hy (t.inj (by rw [t.add,t.zero]; exact e))
  refine DJ E ?_ ?_
  ·intro e;refine hys ?_;apply xB E (t.k3 E);rw [K.add_mul,e,K.mul_comm K.zero,K.mul_zero]
  ·have e1 : K.mul (K.mul (s l) k) (K.add (K.mul (s y1) (K.mul (K.mul k k) k)) (K.mul (s y1) (K.mul (K.mul k k) k))) = K.mul (K.mul (s l) (K.add (s y1) (s y1))) (K.mul (K.mul k k) (K.mul k k)):=aQ K (cE K [s l,k,s y1]) (.mul (.mul (.v 0) (.v 1)) (.add (.mul (.v 2) (.mul (.mul (.v 1) (.v 1)) (.v 1))) (.mul (.v 2) (.mul (.mul (.v 1) (.v 1)) (.v 1))))) (.mul (.mul (.v 0) (.add (.v 2) (.v 2))) (.mul (.mul (.v 1) (.v 1)) (.mul (.v 1) (.v 1)))) (by decide);rw [e1,h1];exact aQ K (cE K [s x1,k]) (.mul (.add (.add (.mul (.v 0) (.v 0)) (.mul (.v 0) (.v 0))) (.mul (.v 0) (.v 0))) (.mul (.mul (.v 1) (.v 1)) (.mul (.v 1) (.v 1)))) (.add (.add (.mul (.mul (.v 0) (.mul (.v 1) (.v 1))) (.mul (.v 0) (.mul (.v 1) (.v 1)))) (.mul (.mul (.v 0) (.mul (.v 1) (.v 1))) (.mul (.v 0) (.mul (.v 1) (.v 1))))) (.mul (.mul (.v 0) (.mul (.v 1) (.v 1))) (.mul (.v 0) (.mul (.v 1) (.v 1))))) (by decide)
 ·have hl : K.mul (gK K inv x1 y1 x2 y2) (K.sub x2 x1) = K.sub y2 y1:=by
   unfold gK;rw [if_neg hx,K.mul_assoc,K.mul_comm (inv _),E.F.inv _ (GG fun e => hx e.symm),K.mul_one]
  generalize gK K inv x1 y1 x2 y2 = l at hl ⊢;have h1:=congrArg s hl;rw [t.mul,t.sub,t.sub] at h1;refine vF E (fun e => hx (t.inj (xB E (t.k2 E) e))) ?_;have e1 : K.mul (K.mul (s l) k) (K.sub (K.mul (s x2) (K.mul k k)) (K.mul (s x1) (K.mul k k))) = K.mul (K.mul (s l) (K.sub (s x2) (s x1))) (K.mul (K.mul k k) k):=aQ K (cE K [s l,k,s x1,s x2]) (.mul (.mul (.v 0) (.v 1)) (.add (.mul (.v 3) (.mul (.v 1) (.v 1))) (.neg (.mul (.v 2) (.mul (.v 1) (.v 1)))))) (.mul (.mul (.v 0) (.add (.v 3) (.neg (.v 2)))) (.mul (.mul (.v 1) (.v 1)) (.v 1))) (by decide);rw [e1,h1];exact aQ K (cE K [s y1,k,s y2]) (.mul (.add (.v 2) (.neg (.v 0))) (.mul (.mul (.v 1) (.v 1)) (.v 1))) (.add (.mul (.v 2) (.mul (.mul (.v 1) (.v 1)) (.v 1))) (.neg (.mul (.v 0) (.mul (.mul (.v 1) (.v 1)) (.v 1))))) (by decide)
theorem aFW (t : Tw K b s k) (E : EC K inv b) : ∀ {P Q : Pt R},On K b P → On K b Q → tw K s k (vL K inv P Q) = vL K inv (tw K s k P) (tw K s k Q)
 | none,_,_,_ => rfl
 | some p,none,_,_ => rfl
 | some p,some q,hp,hq => by
  by_cases h : p.1 = q.1 ∧ K.add p.2 q.2 = K.zero
  ·rw [rL h];refine (rL ⟨?_,?_⟩).symm
   ·show K.mul (s p.1) _ = K.mul (s q.1) _;rw [h.1]
   ·show K.add (K.mul (s p.2) _) (K.mul (s q.2) _) = K.zero;rw [← K.add_mul,← t.add,h.2,t.zero,K.mul_comm,K.mul_zero]
  ·rw [mE h];have h' : ¬ (K.mul (s p.1) (K.mul k k) = K.mul (s q.1) (K.mul k k) ∧ K.add (K.mul (s p.2) (K.mul (K.mul k k) k)) (K.mul (s q.2) (K.mul (K.mul k k) k)) = K.zero):=fun e => h ⟨t.inj (xB E (t.k2 E) e.1),by
    have e2:=e.2;rw [← K.add_mul,← t.add] at e2;exact t.inj (by rw [t.zero]; exact xB E (t.k3 E) (by rw [e2,K.mul_comm K.zero,K.mul_zero]))⟩
   have hS:=mE (K:=K) (inv:=inv) (p:=(K.mul (s p.1) (K.mul k k),K.mul (s p.2) (K.mul (K.mul k k) k))) (q:=(K.mul (s q.1) (K.mul k k),K.mul (s q.2) (K.mul (K.mul k k) k))) h';refine Eq.trans ?_ hS.symm;rw [Mc t E (x1:=p.1) (y1:=p.2) (x2:=q.1) (y2:=q.2) hp hq h];generalize gK K inv p.1 p.2 q.1 q.2 = l;have ex : s (sx K l p.1 q.1) = K.sub (K.sub (K.mul (s l) (s l)) (s p.1)) (s q.1):=by
    unfold sx;rw [t.sub,t.sub,t.mul]
   have ey : s (sy K l p.1 p.2 q.1) = K.sub (K.mul (s l) (K.sub (s p.1) (s (sx K l p.1 q.1)))) (s p.2):=by
    unfold sy;rw [t.sub,t.mul,t.sub]
   have fx : K.mul (s (sx K l p.1 q.1)) (K.mul k k) = sx K (K.mul (s l) k) (K.mul (s p.1) (K.mul k k)) (K.mul (s q.1) (K.mul k k)):=by
    rw [ex];exact aQ K (cE K [s l,k,s p.1,s q.1]) (.mul (.add (.add (.mul (.v 0) (.v 0)) (.neg (.v 2))) (.neg (.v 3))) (.mul (.v 1) (.v 1))) (.add (.add (.mul (.mul (.v 0) (.v 1)) (.mul (.v 0) (.v 1))) (.neg (.mul (.v 2) (.mul (.v 1) (.v 1))))) (.neg (.mul (.v 3) (.mul (.v 1) (.v 1))))) (by decide)
   refine congrArg some (Prod.ext fx ?_);show K.mul (s (sy K l p.1 p.2 q.1)) (K.mul (K.mul k k) k) = sy K (K.mul (s l) k) (K.mul (s p.1) (K.mul k k)) (K.mul (s p.2) (K.mul (K.mul k k) k)) (K.mul (s q.1) (K.mul k k));rw [ey];unfold sy;rw [← fx];generalize s (sx K l p.1 q.1) = S;exact aQ K (cE K [s l,k,s p.1,S,s p.2]) (.mul (.add (.mul (.v 0) (.add (.v 2) (.neg (.v 3)))) (.neg (.v 4))) (.mul (.mul (.v 1) (.v 1)) (.v 1))) (.add (.mul (.mul (.v 0) (.v 1)) (.add (.mul (.v 2) (.mul (.v 1) (.v 1))) (.neg (.mul (.v 3) (.mul (.v 1) (.v 1)))))) (.neg (.mul (.v 4) (.mul (.mul (.v 1) (.v 1)) (.v 1))))) (by decide)
end
def kE : Q2:=(⟨8376118865763821496583973867626364092589906065868298776909617916018768340080,by decide⟩,⟨16469823323077808223889137241176536799009286646108169935659301613961712198316,by decide⟩)
theorem Di : F2.mul kE kE = lZ:=of_decide_eq_true (by kernel_rfl)
theorem aHA : F2.mul (F2.mul kE kE) kE = sK:=of_decide_eq_true (by kernel_rfl)
theorem aJb (x y : Q2) : cL (F2.add x y) = F2.add (cL x) (cL y):=Prod.ext rfl (aQ F1 (cE F1 [x.2,y.2]) (.neg (.add (.v 0) (.v 1))) (.add (.neg (.v 0)) (.neg (.v 1))) (by decide))
theorem aJa (x y : Q2) : cL (F2.mul x y) = F2.mul (cL x) (cL y):=by
 refine Prod.ext ?_ ?_
 ·exact aQ F1 (cE F1 [x.1,x.2,y.1,y.2]) (.add (.mul (.v 0) (.v 2)) (.mul (.neg .one) (.mul (.v 1) (.v 3)))) (.add (.mul (.v 0) (.v 2)) (.mul (.neg .one) (.mul (.neg (.v 1)) (.neg (.v 3))))) (by decide)
 ·exact aQ F1 (cE F1 [x.1,x.2,y.1,y.2]) (.neg (.add (.mul (.v 0) (.v 3)) (.mul (.v 1) (.v 2)))) (.add (.mul (.v 0) (.neg (.v 3))) (.mul (.neg (.v 1)) (.v 2))) (by decide)
theorem aEt : Tw F2 lY cL kE where
 add:=aJb
 mul:=aJa
 neg:=fun x => rfl
 zero:=Es
 ss:=fun x => Prod.ext rfl (aQ F1 (cE F1 [x.2]) (.neg (.neg (.v 0))) (.v 0) (by decide))
 k0:=of_decide_eq_true (by kernel_rfl)
 hb:=of_decide_eq_true (by kernel_rfl)
theorem IH : ∀ P : Pt Q2,psP P = tw F2 cL kE P
 | none => rfl
 | some p => by
  show some (F2.mul (cL p.1) lZ,F2.mul (cL p.2) sK) = some (F2.mul (cL p.1) (F2.mul kE kE),F2.mul (cL p.2) (F2.mul (F2.mul kE kE) kE));rw [Di,← aHA,Di]
def PG (P : C2) : C2:=⟨psP P.1,by rw [IH]; exact aKm aEt cJ P.2⟩
theorem aBH (P Q : C2) : PG (cJ.grp.add P Q) = cJ.grp.add (PG P) (PG Q):=Subtype.ext (by
 show psP (vL F2 kO P.1 Q.1) = vL F2 kO (psP P.1) (psP Q.1);rw [IH,IH,IH];exact aFW aEt cJ P.2 Q.2)
theorem XE (P : C2) : ∀ n,PG (cJ.grp.ns n P) = cJ.grp.ns n (PG P)
 | 0 => rfl
 | n + 1 => by
  show PG (cJ.grp.add (cJ.grp.ns n P) P) = cJ.grp.add (cJ.grp.ns n (PG P)) (PG P);rw [aBH,XE P n]
theorem aBG : PG (uV Lh) = cJ.grp.ns dV (uV Lh):=by
 refine Subtype.ext ?_;rw [aDp];show psP (uV Lh).1 = _;rw [uU aFd,show Zz Lh = some (Ds,Kr) from ZJ Ds Kr]
 kernel_rfl
theorem Qq (n : Nat) : PG (cJ.grp.ns n (uV Lh)) = cJ.grp.ns dV (cJ.grp.ns n (uV Lh)):=by
 rw [XE,aBG,← cJ.grp.ns_mul,← cJ.grp.ns_mul,Nat.mul_comm]
theorem aNr (P : C2) : dK (tn2 P.1) = ((PG P).1,0):=by
 unfold dK;rw [if_neg (fun q => q (TR P.2)),Yx];rfl
theorem tIn (n : Nat) : eH (tn2 (cJ.grp.ns n (uV Lh)).1) = true:=by
 unfold eH;rw [aNr,tM2,An,Qq];exact decide_eq_true ⟨rfl,rfl⟩
namespace AG
variable {G : Type} (A : AG G)
theorem ns_modz {g : G} {n : Nat} (h : A.ns n g = A.zero) (m : Nat) : A.ns (m % n) g = A.ns m g:=by
 conv => rhs; rw [← Nat.div_add_mod m n,A.ns_add,A.ns_mul,h,A.ns_zero,A.zadd]
theorem ns_gcd {g : G} (a b : Nat) : A.ns a g = A.zero → A.ns b g = A.zero → A.ns (Nat.gcd a b) g = A.zero:=by
 induction a,b using Nat.gcd.induction with
 | H0 n => intro _ h; rw [Nat.gcd_zero_left]; exact h
 | H1 m n hm ih =>
  intro h1 h2;rw [Nat.gcd_rec];exact ih (by rw [A.ns_modz h1]; exact h2) h1
theorem exact {g : G} {N : Nat} {l : List Nat} (hl : l.foldr (· * ·) 1 = N) (hp : ∀ q,q ∈ l → dG q) (h0 : A.ns N g = A.zero) (hq : ∀ q,q ∈ l → A.ns (N / q) g ≠ A.zero) (k : Nat) (hk : 0 < k) (hN : k < N) : A.ns k g ≠ A.zero:=fun h => by
 have hd:=A.ns_gcd k N h h0;obtain ⟨e,he⟩:=Nat.gcd_dvd_right k N;have hdk : Nat.gcd k N ≤ k:=Nat.le_of_dvd hk (Nat.gcd_dvd_left k N);have hd0 : 0 < Nat.gcd k N:=Nat.gcd_pos_of_pos_left N hk;have he1 : 1 < e:=by
  rcases Nat.lt_or_ge 1 e with q | q
  ·exact q
  ·have : Nat.gcd k N * e ≤ Nat.gcd k N * 1:=Nat.mul_le_mul_left _ q;omega
 obtain ⟨q,hql,f,hf⟩:=rM l e (by rw [hl]; exact ⟨Nat.gcd k N,by rw [Nat.mul_comm]; exact he⟩) he1 hp;refine hq q hql ?_;have hq0 : 0 < q:=Nat.lt_trans Nat.zero_lt_one (hp q hql).1;have e1 : N / q = Nat.gcd k N * f:=by
  rw [Nat.div_eq_of_eq_mul_left hq0];rw [Nat.mul_assoc,Nat.mul_comm f q,← hf];exact he
 rw [e1,A.ns_mul,hd,A.ns_zero]
theorem ns_inj {g : G} {N : Nat} (h : ∀ k,0 < k → k < N → A.ns k g ≠ A.zero) {i j : Nat} (hi : i < N) (hj : j < N) (e : A.ns i g = A.ns j g) : i = j:=by
 have key : ∀ i j,i < j → j < N → A.ns i g = A.ns j g → False:=fun i j hij hj e => by
  refine h (j - i) (by omega) (by omega) ?_;have : A.ns j g = A.add (A.ns i g) (A.ns (j - i) g):=by rw [← A.ns_add,Nat.add_sub_cancel' (Nat.le_of_lt hij)]
  rw [this] at e;refine A.cancel (a:=A.ns i g) ?_;rw [← e,A.addz]
 rcases Nat.lt_trichotomy i j with q | q | q
 ·exact (key i j q hj e).elim
 ·exact q
 ·exact (key j i q hi e.symm).elim
theorem ns_dvd {g : G} {N : Nat} (hN : 0 < N) (h0 : A.ns N g = A.zero) (h : ∀ k,0 < k → k < N → A.ns k g ≠ A.zero) (a : Nat) : A.ns a g = A.zero ↔ N ∣ a:=by
 constructor
 ·intro e;refine Nat.dvd_of_mod_eq_zero ?_
  rcases Nat.eq_zero_or_pos (a % N) with q | q
  ·exact q
  ·exact (h (a % N) q (Nat.mod_lt _ hN) (by rw [A.ns_modz h0]; exact e)).elim
 ·rintro ⟨f,rfl⟩
  rw [A.ns_mul,h0,A.ns_zero]
theorem ns_back {g : G} {N : Nat} (h0 : A.ns N g = A.zero) {j : Nat} (hj : j ≤ N) : A.add (A.ns j g) (A.ns (N - j) g) = A.zero:=by
 rw [← A.ns_add,Nat.add_sub_cancel' hj,h0]
theorem cyclic {g : G} {N M : Nat} (hN : N % 2 = 1) (h0 : A.ns N g = A.zero) (h : ∀ k,0 < k → k < N → A.ns k g ≠ A.zero) (two : ∀ P,A.add P P = A.zero → P = A.zero)
  (code : G → Nat) (hc : ∀ P,code P < M) (hi : ∀ P Q,code P = code Q → P = Q) (hM : M < 3 * N) (P : G) : ∃ k,P = A.ns k g:=by
 apply Classical.byContradiction;intro hP;have hsub : ∀ i j,j < N → ∀ Q,A.ns i g = A.add Q (A.ns j g) → ∃ k,Q = A.ns k g:=fun i j hj Q e => by
  refine ⟨i + (N - j),?_⟩;rw [A.ns_add,e,A.assoc,A.ns_back h0 (Nat.le_of_lt hj),A.addz]
 by_cases hD : ∃ k,A.add P P = A.ns k g
 ·obtain ⟨k,hk⟩:=hD;obtain ⟨j,hj⟩ : ∃ j,A.ns (j + j) g = A.add P P:=by
   rcases Nat.mod_two_eq_zero_or_one k with q | q
   ·exact ⟨k / 2,by rw [hk,show k / 2 + k / 2 = k by omega]⟩
   ·refine ⟨(k + N) / 2,?_⟩;rw [hk,show (k + N) / 2 + (k + N) / 2 = k + N by omega,A.ns_add,h0,A.addz]
  have hz:=two (A.add P (A.neg (A.ns j g))) (by
   rw [A.add4,← hj,← A.neg_add,← A.ns_add,A.addn])
  refine hP ⟨j,?_⟩;refine A.cancel (a:=A.neg (A.ns j g)) ?_;rw [A.nadd,A.comm,hz]
 ·have pg:=Rs (3 * N) (fun i => if i < N then code (A.ns i g) else if i < 2 * N then code (A.add P (A.ns (i - N) g)) else code (A.add (A.add P P) (A.ns (i - 2 * N) g)))
   (fun i _ => by
    show (if i < N then _ else if i < 2 * N then _ else _) < 3 * N;split
    ·exact Nat.lt_trans (hc _) hM
    ·split
     ·exact Nat.lt_trans (hc _) hM
     ·exact Nat.lt_trans (hc _) hM)
   (fun i j hi3 hj3 e => by
    have e' : (if i < N then code (A.ns i g) else if i < 2 * N then code (A.add P (A.ns (i - N) g)) else code (A.add (A.add P P) (A.ns (i - 2 * N) g))) = (if j < N then code (A.ns j g) else if j < 2 * N then code (A.add P (A.ns (j - N) g)) else code (A.add (A.add P P) (A.ns (j - 2 * N) g))):=e
    by_cases i1 : i < N
    ·rw [if_pos i1] at e'
     by_cases j1 : j < N
     ·rw [if_pos j1] at e';exact A.ns_inj h i1 j1 (hi _ _ e')
     ·rw [if_neg j1] at e'
      by_cases j2 : j < 2 * N
      ·rw [if_pos j2] at e';exact (hP (hsub _ _ (by omega) _ (hi _ _ e'))).elim
      ·rw [if_neg j2] at e';exact (hD (hsub _ _ (by omega) _ (hi _ _ e'))).elim
    ·rw [if_neg i1] at e'
     by_cases i2 : i < 2 * N
     ·rw [if_pos i2] at e'
      by_cases j1 : j < N
      ·rw [if_pos j1] at e';exact (hP (hsub _ _ (by omega) _ (hi _ _ e'.symm))).elim
      ·rw [if_neg j1] at e'
       by_cases j2 : j < 2 * N
       ·rw [if_pos j2] at e';have:=A.ns_inj h (i:=i - N) (j:=j - N) (by omega) (by omega) (A.cancel (hi _ _ e'));omega
       ·rw [if_neg j2] at e';have e2:=hi _ _ e';rw [A.assoc] at e2;exact (hP (hsub _ _ (by omega) _ (A.cancel e2))).elim
     ·rw [if_neg i2] at e'
      by_cases j1 : j < N
      ·rw [if_pos j1] at e';exact (hD (hsub _ _ (by omega) _ (hi _ _ e'.symm))).elim
      ·rw [if_neg j1] at e'
       by_cases j2 : j < 2 * N
       ·rw [if_pos j2] at e';have e2:=(hi _ _ e').symm;rw [A.assoc] at e2;exact (hP (hsub _ _ (by omega) _ (A.cancel e2))).elim
       ·rw [if_neg j2] at e';have:=A.ns_inj h (i:=i - 2 * N) (j:=j - 2 * N) (by omega) (by omega) (A.cancel (hi _ _ e'));omega) M hM
  obtain ⟨i,_,hiM⟩:=pg;have : (if i < N then code (A.ns i g) else if i < 2 * N then code (A.add P (A.ns (i - N) g)) else code (A.add (A.add P P) (A.ns (i - 2 * N) g))) = M:=hiM;have hlt : (if i < N then code (A.ns i g) else if i < 2 * N then code (A.add P (A.ns (i - N) g)) else code (A.add (A.add P P) (A.ns (i - 2 * N) g))) < M:=by
   split
   ·exact hc _
   ·split
    ·exact hc _
    ·exact hc _
  omega
end AG
end Go.Proofs.YtfnkbmlmgnadmaaGreat.Ex
namespace Go.Proofs.YtfnkbmlmgnadmaaGreat
open Go.Proofs.Tryz
theorem Jn : dG 10069:=aO 10069 100 (by decide) (by decide) (by kernel_rfl)
theorem aBU : dG 181:=aO 181 13 (by decide) (by decide) (by kernel_rfl)
theorem GU : Root 5864401 38:=by
 refine aZ (l:=[2,2,2,2,3,3,3,3,5,5,181]) (by kernel_rfl) fun q hq => ?_
 simp only [List.mem_cons,List.not_mem_nil,or_false] at hq
 rcases hq with rfl | rfl | rfl | rfl | rfl | rfl | rfl | rfl | rfl | rfl | rfl
 ·exact aW
 ·exact aW
 ·exact aW
 ·exact aW
 ·exact eC
 ·exact eC
 ·exact eC
 ·exact eC
 ·exact iO
 ·exact iO
 ·exact aBU
theorem PH : dG 5864401:=GU.prm
theorem aBT : dG 199:=aO 199 14 (by decide) (by decide) (by kernel_rfl)
theorem Qz : dG 1511:=aO 1511 38 (by decide) (by decide) (by kernel_rfl)
theorem OQ : Root 601379 2:=by
 refine aZ (l:=[2,199,1511]) (by kernel_rfl) fun q hq => ?_
 simp only [List.mem_cons,List.not_mem_nil,or_false] at hq
 rcases hq with rfl | rfl | rfl
 ·exact aW
 ·exact aBT
 ·exact Qz
theorem XF : dG 601379:=OQ.prm
theorem tU : Root 17367825521 3:=by
 refine aZ (l:=[2,2,2,2,5,19,19,601379]) (by kernel_rfl) fun q hq => ?_
 simp only [List.mem_cons,List.not_mem_nil,or_false] at hq
 rcases hq with rfl | rfl | rfl | rfl | rfl | rfl | rfl | rfl
 ·exact aW
 ·exact aW
 ·exact aW
 ·exact aW
 ·exact iO
 ·exact tZ
 ·exact tZ
 ·exact XF
theorem wE : dG 17367825521:=tU.prm
theorem qC : Root 1875725156269 2:=by
 refine aZ (l:=[2,2,3,3,3,17367825521]) (by kernel_rfl) fun q hq => ?_
 simp only [List.mem_cons,List.not_mem_nil,or_false] at hq
 rcases hq with rfl | rfl | rfl | rfl | rfl | rfl
 ·exact aW
 ·exact aW
 ·exact eC
 ·exact eC
 ·exact eC
 ·exact wE
theorem rO : dG 1875725156269:=qC.prm
theorem aGJ : dG 59:=aO 59 7 (by decide) (by decide) (by kernel_rfl)
theorem aGK : dG 43:=aO 43 6 (by decide) (by decide) (by kernel_rfl)
theorem Qx : dG 23:=aO 23 4 (by decide) (by decide) (by kernel_rfl)
theorem aBM : dG 727:=aO 727 26 (by decide) (by decide) (by kernel_rfl)
theorem OU : Root 133769 3:=by
 refine aZ (l:=[2,2,2,23,727]) (by kernel_rfl) fun q hq => ?_
 simp only [List.mem_cons,List.not_mem_nil,or_false] at hq
 rcases hq with rfl | rfl | rfl | rfl | rfl
 ·exact aW
 ·exact aW
 ·exact aW
 ·exact Qx
 ·exact aBM
theorem XJ : dG 133769:=OU.prm
theorem aGI : dG 61:=aO 61 7 (by decide) (by decide) (by kernel_rfl)
theorem aBW : dG 149:=aO 149 12 (by decide) (by decide) (by kernel_rfl)
theorem GV : Root 5835139 3:=by
 refine aZ (l:=[2,3,61,107,149]) (by kernel_rfl) fun q hq => ?_
 simp only [List.mem_cons,List.not_mem_nil,or_false] at hq
 rcases hq with rfl | rfl | rfl | rfl | rfl
 ·exact aW
 ·exact eC
 ·exact aGI
 ·exact Bp
 ·exact aBW
theorem PI : dG 5835139:=GV.prm
theorem yQ : Root 758568071 14:=by
 refine aZ (l:=[2,5,13,5835139]) (by kernel_rfl) fun q hq => ?_
 simp only [List.mem_cons,List.not_mem_nil,or_false] at hq
 rcases hq with rfl | rfl | rfl | rfl
 ·exact aW
 ·exact iO
 ·exact IJ
 ·exact PI
theorem CW : dG 758568071:=yQ.prm
theorem lD : Root 1309000310535827101 2:=by
 refine aZ (l:=[2,2,3,5,5,43,133769,758568071]) (by kernel_rfl) fun q hq => ?_
 simp only [List.mem_cons,List.not_mem_nil,or_false] at hq
 rcases hq with rfl | rfl | rfl | rfl | rfl | rfl | rfl | rfl
 ·exact aW
 ·exact aW
 ·exact eC
 ·exact iO
 ·exact iO
 ·exact aGK
 ·exact XJ
 ·exact CW
theorem lJ : dG 1309000310535827101:=lD.prm
theorem aBV : dG 157:=aO 157 12 (by decide) (by decide) (by kernel_rfl)
theorem IC : Root 1233079 11:=by
 refine aZ (l:=[2,3,7,11,17,157]) (by kernel_rfl) fun q hq => ?_
 simp only [List.mem_cons,List.not_mem_nil,or_false] at hq
 rcases hq with rfl | rfl | rfl | rfl | rfl | rfl
 ·exact aW
 ·exact eC
 ·exact zH
 ·exact IK
 ·exact Qy
 ·exact aBV
theorem PP : dG 1233079:=IC.prm
theorem Rc : dG 1031:=aO 1031 32 (by decide) (by decide) (by kernel_rfl)
theorem Jk : dG 77339:=aO 77339 278 (by decide) (by decide) (by kernel_rfl)
theorem Qv : dG 3359:=aO 3359 57 (by decide) (by decide) (by kernel_rfl)
theorem OS : Root 268721 3:=by
 refine aZ (l:=[2,2,2,2,5,3359]) (by kernel_rfl) fun q hq => ?_
 simp only [List.mem_cons,List.not_mem_nil,or_false] at hq
 rcases hq with rfl | rfl | rfl | rfl | rfl | rfl
 ·exact aW
 ·exact aW
 ·exact aW
 ·exact aW
 ·exact iO
 ·exact Qv
theorem XH : dG 268721:=OS.prm
theorem GY : Root 1612327 5:=by
 refine aZ (l:=[2,3,268721]) (by kernel_rfl) fun q hq => ?_
 simp only [List.mem_cons,List.not_mem_nil,or_false] at hq
 rcases hq with rfl | rfl | rfl
 ·exact aW
 ·exact eC
 ·exact XH
theorem PN : dG 1612327:=GY.prm
theorem nL : Root 677736056450657 3:=by
 refine aZ (l:=[2,2,2,2,2,7,23,83,983,1612327]) (by kernel_rfl) fun q hq => ?_
 simp only [List.mem_cons,List.not_mem_nil,or_false] at hq
 rcases hq with rfl | rfl | rfl | rfl | rfl | rfl | rfl | rfl | rfl | rfl
 ·exact aW
 ·exact aW
 ·exact aW
 ·exact aW
 ·exact aW
 ·exact zH
 ·exact Qx
 ·exact Qr
 ·exact II
 ·exact PN
theorem pD : dG 677736056450657:=nL.prm
theorem jW : Root 209661715479349446893 2:=by
 refine aZ (l:=[2,2,77339,677736056450657]) (by kernel_rfl) fun q hq => ?_
 simp only [List.mem_cons,List.not_mem_nil,or_false] at hq
 rcases hq with rfl | rfl | rfl | rfl
 ·exact aW
 ·exact aW
 ·exact Jk
 ·exact pD
theorem kP : dG 209661715479349446893:=jW.prm
theorem iB : Root 3458579658547348475946929 3:=by
 refine aZ (l:=[2,2,2,2,1031,209661715479349446893]) (by kernel_rfl) fun q hq => ?_
 simp only [List.mem_cons,List.not_mem_nil,or_false] at hq
 rcases hq with rfl | rfl | rfl | rfl | rfl | rfl
 ·exact aW
 ·exact aW
 ·exact aW
 ·exact aW
 ·exact Rc
 ·exact kP
theorem iP : dG 3458579658547348475946929:=iB.prm
theorem fE : Root 213235097339095295568608163219551 31:=by
 refine aZ (l:=[2,5,5,1233079,3458579658547348475946929]) (by kernel_rfl) fun q hq => ?_
 simp only [List.mem_cons,List.not_mem_nil,or_false] at hq
 rcases hq with rfl | rfl | rfl | rfl | rfl
 ·exact aW
 ·exact iO
 ·exact iO
 ·exact PP
 ·exact iP
theorem fL : dG 213235097339095295568608163219551:=fE.prm
theorem cT : Root 197620364512881247228717050342013327560683201906968909 2:=by
 refine aZ (l:=[2,2,3,59,1309000310535827101,213235097339095295568608163219551]) (by kernel_rfl) fun q hq => ?_
 simp only [List.mem_cons,List.not_mem_nil,or_false] at hq
 rcases hq with rfl | rfl | rfl | rfl | rfl | rfl
 ·exact aW
 ·exact aW
 ·exact eC
 ·exact aGJ
 ·exact lJ
 ·exact fL
theorem cU : dG 197620364512881247228717050342013327560683201906968909:=cT.prm
end Go.Proofs.YtfnkbmlmgnadmaaGreat
