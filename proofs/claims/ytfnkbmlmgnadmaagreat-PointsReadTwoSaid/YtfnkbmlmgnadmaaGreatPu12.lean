/- Pu12 -/
import Derived.LoopTactic
import Derived.Deep.LoopGhost
import Derived.RegionTactic
import Derived.Test.YtfnkbmlmgnadmaaGreatPu00
import Derived.Test.YtfnkbmlmgnadmaaGreatPu11
import Derived.Test.YtfnkbmlmgnadmaaGreatPu10
import Derived.Test.YtfnkbmlmgnadmaaGreatPu07
import Derived.Test.YtfnkbmlmgnadmaaGreatPu03
import Derived.Test.YtfnkbmlmgnadmaaGreatPu04
import Derived.Test.YtfnkbmlmgnadmaaGreatPu06
import Derived.Test.YtfnkbmlmgnadmaaGreatPu09
set_option maxRecDepth 100000
set_option linter.unusedVariables false
set_option linter.unusedSimpArgs false
noncomputable section
namespace Go.Proofs.YtfnkbmlmgnadmaaGreat.R1
open Go.Proofs.Tryz
open Go.RowKit
theorem len_down {A m : Nat} (h : A < 2 ^ (m + 1)) (hb : dP A m = 0) : A < 2 ^ m:=by
 unfold dP at hb;have h1 : A / 2 ^ m < 2:=by rw [Nat.div_lt_iff_lt_mul (Nat.pow_pos (by omega)),Nat.mul_comm,← Nat.pow_succ]; exact h
 have h2 : A / 2 ^ m = 0:=by generalize A / 2 ^ m = q at h1 hb; omega
 have h3:=Nat.div_add_mod A (2 ^ m);have h4:=Nat.mod_lt A (show 0 < 2 ^ m from Nat.pow_pos (by omega));rw [h2] at h3; omega
theorem len_is {A m : Nat} (h : A < 2 ^ (m + 1)) (hb : dP A m = 1) : LenIs A (m + 1):=by
 refine ⟨h,fun _ => ?_⟩;unfold dP at hb;have h1 : 1 ≤ A / 2 ^ m:=by
  rcases Nat.eq_zero_or_pos (A / 2 ^ m) with e | e
  ·rw [e] at hb; omega
  ·exact e
 exact (Nat.one_le_div_iff (Nat.pow_pos (by omega))).1 h1
def LenP (A : Nat) (w : World) (e : Ending) (w' : World) : Prop :=
 ∃ L : Nat,e = .returned (.int .i64 L) ∧ L ≤ 256 ∧ LenIs A L ∧ Below w.heap.size w w'
theorem refLen_calls (a0 a1 a2 a3 : Nat) (ha : aY a0 a1 a2 a3) (w : World) :
  Calls prog 95 #[.agg #[.int .u64 a0,.int .u64 a1,.int .u64 a2,.int .u64 a3]] w (LenP (aA a0 a1 a2 a3) w):=by
 have h256 : aA a0 a1 a2 a3 < 2 ^ 256:=by have:=bH ha; simpa using this
 have HB:=Lib.hid (fun i h (w : World) => DN a0 a1 a2 a3 i ha h w);generalize hA : aA a0 a1 a2 a3 = A at *;have H256:=Lib.hid h256;clear h256 hA
 go_enter func95,ntmps95
 go_wp2_with fail
 go_loopw [3] (fun i wr => ∃ n : Int,-1 ≤ n ∧ n ≤ 255 ∧ i = .int .i64 n ∧ Hid (A < 2 ^ (n + 1).toNat) ∧ Mem w wr [(w.heap.size,a0,a1,a2,a3)]) (fun i _ => (intOf i + 1).toNat)
 case atStart => exact ⟨255,by omega,by omega,rfl,H256,(Mem.nil w).new w.heap.size a0 a1 a2 a3 81 rfl⟩
 case round =>
  obtain ⟨n,h1,h2,rfl,hA,m⟩:=hrel;have M:=Lib.hid m;obtain ⟨lt_a,c0,c1,c2,c3,cf⟩:=m.get (b:=w.heap.size) (c0:=a0) (c1:=a1) (c2:=a2) (c3:=a3) (by simp);clear m
  by_cases h0 : 0 ≤ n
  ·obtain ⟨i,rfl⟩:=Int.eq_ofNat_of_zero_le h0;have hA':=Lib.hid (show A < 2 ^ (i + 1) from hA.out);clear hA
   rcases kK A i with hb | hb
   ·have hB:=HB.out i (by omega);rw [hb] at hB;have HN:=Lib.hid (len_down hA'.out hb);clear hb hA';go_wp2_with fail;refine (hB _).mono ?_
    rintro e w1 ⟨rfl,hbl⟩
    have M':=M.out.on hbl;clear hbl;go_wp2_with fail
    go_roundw
    case rel => exact ⟨(i : Int) - 1,by omega,by omega,by first | rfl | go_num,Lib.hid (by rw [show ((i : Int) - 1 + 1).toNat = i by omega]; exact HN.out),M'⟩
    case measure => first | (simp [intOf]; done) | (simp [intOf]; omega)
   ·have hB:=HB.out i (by omega);rw [hb] at hB;have HN:=Lib.hid (len_is hA'.out hb);clear hb hA';go_wp2_with fail;refine (hB _).mono ?_
    rintro e w1 ⟨rfl,hbl⟩
    have M':=M.out.on hbl;clear hbl;go_wp2_with fail;go_ret;exact ⟨i + 1,rfl,by omega,HN.out,M'.1⟩
  ·obtain rfl : n = -1:=by omega
   go_wp2_with fail;go_ret;exact ⟨0,rfl,by omega,⟨hA.out,fun h => absurd h (by omega)⟩,M.out.1⟩
end Go.Proofs.YtfnkbmlmgnadmaaGreat.R1
namespace Go.Proofs.YtfnkbmlmgnadmaaGreat.Ex
open Go.Proofs.Tryz
open Go.RowKit
theorem aBp : ∀ cs pre r,Kp cs = some (pre,r) → aP pre → ∀ (args : List Value) (w : World),bK w cs args → Good prog 95 r args w:=by
 intro cs pre r hg hp args w ha;unfold Kp at hg;split at hg
 ·rename_i l;split at hg
  ·rename_i n hn;cases hg;rw [tD ha,dJ l _ hn];refine (R1.refLen_calls _ _ _ _ (bM n) w).mono ?_
   rintro e w' ⟨L,rfl,_,h,hbl⟩
   cases h.uniq (sG n);exact ⟨rfl,hbl⟩
  ·cases hg
 ·cases hg
theorem aBB : ∀ cs pre r,aIo cs = some (pre,r) → aP pre → ∀ (args : List Value) (w : World),bK w cs args → Good prog 97 r args w:=by
 intro cs pre r hg hp args w ha;unfold aIo at hg;split at hg
 ·rename_i l i;split at hg
  ·rename_i n hn;cases hg
   match args,ha with
   | [v,u],ha =>
    have h1 : v = .agg (aC l).toArray:=ha.1;have h2 : u = .int .i64 (Int.ofNat i):=ha.2.1;rw [dJ l _ hn] at h1;subst h1; subst h2;exact DN _ _ _ _ i (bM n) hp.1 w
   | [],ha => exact ha.elim
   | [_],ha => exact ha.2.elim
   | _ :: _ :: _ :: _,ha => exact ha.2.2.elim
  ·cases hg
 ·cases hg
def EM (c : Bool) : fQ
 | [.v (.im (.int .i64 (.ofNat 1))),.v (.fl l)] => match vZ l with
  | some n => some ([fY n = c],.one (.im (.bool c)))
  | none => none
 | _ => none
theorem xM (c : Bool) : ∀ cs pre r,EM c cs = some (pre,r) → aP pre → ∀ (args : List Value) (w : World),bK w cs args → Good prog 70 r args w:=by
 intro cs pre r hg hp args w ha;unfold EM at hg;split at hg
 ·rename_i l;split at hg
  ·rename_i n hn;cases hg;have h:=Ym [.v (.im (.int .i64 (.ofNat 1))),.v (.fl l)] [] (.one (.im (.bool (fY n)))) (by show (match vZ l with | some n => some ([],RV.one (.im (.bool (fY n)))) | none => none) = _; rw [hn]) trivial args w ha;rw [hp.1] at h;exact h
  ·cases hg
 ·cases hg
theorem kZ {n : Nat} : fY n = true ↔ wv n < FP.M:=by unfold fY sI; exact decide_eq_true_iff
def gO (x : N2) : Bool:=fY x.1 && fY x.2
def Fk : Tab:=(Zd).add 95 Kp
theorem Sk : TabOk prog Fk:=(aCj).ad func95 aBp
def tI : Tab:=(Fk).add 97 aIo
theorem rY : TabOk prog tI:=(Sk).ad func97 aBB
theorem WL (x : N2) : aM prog (qG prog) (fun _ => ⟨fun s => (tI).add 70 (EM (bif Nat.beq s 5 then true else true)),fun s => true,fun _ => none⟩) f57 60 [.v (.fl (q2 x))] = some ([fY x.1 = true,fY x.2 = true],.one (.im (.bool true))):=by kernel_rfl
theorem WM (x : N2) : aM prog (qG prog) (fun _ => ⟨fun s => (tI).add 70 (EM (bif Nat.beq s 5 then true else false)),fun s => true,fun _ => none⟩) f57 60 [.v (.fl (q2 x))] = some ([fY x.1 = true,fY x.2 = false],.one (.im (.bool false))):=by kernel_rfl
theorem Im (x : N2) : aM prog (qG prog) (fun _ => ⟨fun s => (tI).add 70 (EM (bif Nat.beq s 5 then false else true)),fun s => true,fun _ => none⟩) f57 60 [.v (.fl (q2 x))] = some ([fY x.1 = false],.one (.im (.bool false))):=by kernel_rfl
theorem Yi (c : Bool) (x : N2) (hp : gO x = c) (args : List Value) (w : World) (ha : bK w [.v (.fl (q2 x))] args) : Good prog 57 (.one (.im (.bool c))) args w:=by
 unfold gO at hp;cases h1 : fY x.1 with
 | false =>
  rw [h1] at hp;subst hp;exact aD aG (fun _ s => (rY).ad func70 (xM _)) (aH prog) func57 (Im x) ⟨h1,trivial⟩ ha
 | true =>
  cases h2 : fY x.2 with
  | false =>
   rw [h1,h2] at hp;subst hp;exact aD aG (fun _ s => (rY).ad func70 (xM _)) (aH prog) func57 (WM x) ⟨h1,h2,trivial⟩ ha
  | true =>
   rw [h1,h2] at hp;subst hp;exact aD aG (fun _ s => (rY).ad func70 (xM _)) (aH prog) func57 (WL x) ⟨h1,h2,trivial⟩ ha
def Zr : Tab:=(tI).add 57 (g1 Bh fun x => ([gO x = true],.one (.im (.bool true))))
theorem St : TabOk prog Zr:=(rY).ad func57 (cN jA fun x hp args w ha => Yi true x hp.1 args w ha)
theorem aAU  : aM prog (qG prog) (fun _ => ⟨fun s => Zr,fun s => true,fun _ => none⟩) f41 60 [] = some ([],.one (.fl (e2 lY))):=by kernel_rfl
def fZ : Tab:=(Zr).add 41 (g0 (.one (.fl (e2 lY))))
theorem eE : TabOk prog fZ:=(St).ad func41 (AW fun w => aD aG (fun _ s => St) (aH prog) func41 aAU trivial (args:=[]) trivial)
def vI (L k : Nat) : Value:=if k < L then iI (L - 1 - k) else .int .i64 (-1)
theorem aNi {L : Nat} (h : L ≤ 256) : aK .sub .i64 (Int.ofNat L) 1 = some (vI L 0):=by
 unfold vI;cases L with
 | zero => rfl
 | succ n =>
  rw [if_pos (by omega)];exact AA (k:=1) (i:=n + 1) (by omega) (by omega)
theorem aKl {L k : Nat} (h : L ≤ 256) (hk : k < L) : aK .sub .i64 (Int.ofNat (L - 1 - k)) 1 = some (vI L (k + 1)):=by
 unfold vI
 by_cases e : k + 1 < L
 ·rw [if_pos e,← Nat.sub_sub (L - 1) k 1];exact AA (k:=1) (by omega) (by omega)
 ·rw [if_neg e,show L - 1 - k = 0 by omega];rfl
theorem Sx (n : Nat) : aK .geq .i64 (Int.ofNat n) 0 = some (.bool true):=by
 show some (Value.bool (decide ((0 : Int) ≤ Int.ofNat n))) = _;rw [decide_eq_true (show (0 : Int) ≤ Int.ofNat n from Int.natCast_nonneg n)]
theorem aFg {c : Int} (h : c = 0) : aK .eql .i64 c 0 = some (.bool true):=by rw [h]; rfl
theorem aLT {c : Int} (h : c ≠ 0) : aK .eql .i64 c 0 = some (.bool false):=by
 show some (Value.bool (c == 0)) = _;rw [beq_eq_false_iff_ne.2 h]
def uR (c : Bool) : fQ:=g1 Bh fun x => ([gO x = c],.one (.im (.bool c)))
theorem gB (c : Bool) : ∀ cs pre r,uR c cs = some (pre,r) → aP pre → ∀ (args : List Value) (w : World),bK w cs args → Good prog 57 r args w:=cN (op:=fun x => ([gO x = c],.one (.im (.bool c)))) jA fun x hp args w ha => Yi c x hp.1 args w ha
theorem VG (x y : N2) : aM prog (qG prog) (fun _ => ⟨fun s => fZ,fun s => false,fun _ => none⟩) f30 60 [.v (.fl (dR (x,y,true)))] = some ([aC (q2 x) ≠ aC (e2 F2.zero)],.one (.im (.int .i64 44))):=by kernel_rfl
theorem VF (x y : N2) : aM prog (qG prog) (fun _ => ⟨fun s => fZ,fun s => Nat.beq s 7,fun _ => none⟩) f30 60 [.v (.fl (dR (x,y,true)))] = some ([aC (q2 x) = aC (e2 F2.zero),aC (q2 y) ≠ aC (e2 F2.zero)],.one (.im (.int .i64 44))):=by kernel_rfl
theorem VE (x y : N2) : aM prog (qG prog) (fun _ => ⟨fun s => fZ,fun s => true,fun _ => none⟩) f30 60 [.v (.fl (dR (x,y,true)))] = some ([aC (q2 x) = aC (e2 F2.zero),aC (q2 y) = aC (e2 F2.zero)],.one (.im (.int .i64 0))):=by kernel_rfl
theorem NR (x y : N2) : aM prog (qG prog) (fun _ => ⟨fun s => (fZ).add 57 (uR (bif Nat.beq s 27 then false else true)),fun s => false,fun _ => none⟩) f30 60 [.v (.fl (dR (x,y,false)))] = some ([aC (q2 x) ≠ aC (e2 F2.zero),gO x = false],.one (.im (.int .i64 21))):=by kernel_rfl
theorem NO (x y : N2) : aM prog (qG prog) (fun _ => ⟨fun s => (fZ).add 57 (uR (bif Nat.beq s 27 then true else false)),fun s => false,fun _ => none⟩) f30 60 [.v (.fl (dR (x,y,false)))] = some ([aC (q2 x) ≠ aC (e2 F2.zero),gO x = true,gO y = false],.one (.im (.int .i64 21))):=by kernel_rfl
theorem NL (x y : N2) : aM prog (qG prog) (fun _ => ⟨fun s => (fZ).add 57 (uR (bif Nat.beq s 27 then true else true)),fun s => false,fun _ => none⟩) f30 80 [.v (.fl (dR (x,y,false)))] = some ([aC (q2 x) ≠ aC (e2 F2.zero),gO x = true,gO y = true,aC (e2 (F2.mul (m2 y) (m2 y))) ≠ aC (e2 (F2.add (F2.mul (m2 x) (F2.mul (m2 x) (m2 x))) lY))],.one (.im (.int .i64 41))):=by kernel_rfl
theorem NI (x y : N2) : aM prog (qG prog) (fun _ => ⟨fun s => (fZ).add 57 (uR (bif Nat.beq s 27 then true else true)),fun s => false || Nat.beq s 51,fun _ => none⟩) f30 80 [.v (.fl (dR (x,y,false)))] = some ([aC (q2 x) ≠ aC (e2 F2.zero),gO x = true,gO y = true,aC (e2 (F2.mul (m2 y) (m2 y))) = aC (e2 (F2.add (F2.mul (m2 x) (F2.mul (m2 x) (m2 x))) lY))],.one (.im (.int .i64 0))):=by kernel_rfl
theorem NQ (x y : N2) : aM prog (qG prog) (fun _ => ⟨fun s => (fZ).add 57 (uR (bif Nat.beq s 27 then false else true)),fun s => Nat.beq s 7,fun _ => none⟩) f30 60 [.v (.fl (dR (x,y,false)))] = some ([aC (q2 x) = aC (e2 F2.zero),aC (q2 y) ≠ aC (e2 F2.zero),gO x = false],.one (.im (.int .i64 21))):=by kernel_rfl
theorem NN (x y : N2) : aM prog (qG prog) (fun _ => ⟨fun s => (fZ).add 57 (uR (bif Nat.beq s 27 then true else false)),fun s => Nat.beq s 7,fun _ => none⟩) f30 60 [.v (.fl (dR (x,y,false)))] = some ([aC (q2 x) = aC (e2 F2.zero),aC (q2 y) ≠ aC (e2 F2.zero),gO x = true,gO y = false],.one (.im (.int .i64 21))):=by kernel_rfl
theorem NK (x y : N2) : aM prog (qG prog) (fun _ => ⟨fun s => (fZ).add 57 (uR (bif Nat.beq s 27 then true else true)),fun s => Nat.beq s 7,fun _ => none⟩) f30 80 [.v (.fl (dR (x,y,false)))] = some ([aC (q2 x) = aC (e2 F2.zero),aC (q2 y) ≠ aC (e2 F2.zero),gO x = true,gO y = true,aC (e2 (F2.mul (m2 y) (m2 y))) ≠ aC (e2 (F2.add (F2.mul (m2 x) (F2.mul (m2 x) (m2 x))) lY))],.one (.im (.int .i64 41))):=by kernel_rfl
theorem NH (x y : N2) : aM prog (qG prog) (fun _ => ⟨fun s => (fZ).add 57 (uR (bif Nat.beq s 27 then true else true)),fun s => Nat.beq s 7 || Nat.beq s 51,fun _ => none⟩) f30 80 [.v (.fl (dR (x,y,false)))] = some ([aC (q2 x) = aC (e2 F2.zero),aC (q2 y) ≠ aC (e2 F2.zero),gO x = true,gO y = true,aC (e2 (F2.mul (m2 y) (m2 y))) = aC (e2 (F2.add (F2.mul (m2 x) (F2.mul (m2 x) (m2 x))) lY))],.one (.im (.int .i64 0))):=by kernel_rfl
theorem NP (x y : N2) : aM prog (qG prog) (fun _ => ⟨fun s => (fZ).add 57 (uR (bif Nat.beq s 27 then false else true)),fun s => Nat.beq s 7 || Nat.beq s 12,fun _ => none⟩) f30 60 [.v (.fl (dR (x,y,false)))] = some ([aC (q2 x) = aC (e2 F2.zero),aC (q2 y) = aC (e2 F2.zero),gO x = false],.one (.im (.int .i64 21))):=by kernel_rfl
theorem NM (x y : N2) : aM prog (qG prog) (fun _ => ⟨fun s => (fZ).add 57 (uR (bif Nat.beq s 27 then true else false)),fun s => Nat.beq s 7 || Nat.beq s 12,fun _ => none⟩) f30 60 [.v (.fl (dR (x,y,false)))] = some ([aC (q2 x) = aC (e2 F2.zero),aC (q2 y) = aC (e2 F2.zero),gO x = true,gO y = false],.one (.im (.int .i64 21))):=by kernel_rfl
theorem NJ (x y : N2) : aM prog (qG prog) (fun _ => ⟨fun s => (fZ).add 57 (uR (bif Nat.beq s 27 then true else true)),fun s => Nat.beq s 7 || Nat.beq s 12,fun _ => none⟩) f30 80 [.v (.fl (dR (x,y,false)))] = some ([aC (q2 x) = aC (e2 F2.zero),aC (q2 y) = aC (e2 F2.zero),gO x = true,gO y = true,aC (e2 (F2.mul (m2 y) (m2 y))) ≠ aC (e2 (F2.add (F2.mul (m2 x) (F2.mul (m2 x) (m2 x))) lY))],.one (.im (.int .i64 41))):=by kernel_rfl
theorem NG (x y : N2) : aM prog (qG prog) (fun _ => ⟨fun s => (fZ).add 57 (uR (bif Nat.beq s 27 then true else true)),fun s => Nat.beq s 7 || Nat.beq s 12 || Nat.beq s 51,fun _ => none⟩) f30 80 [.v (.fl (dR (x,y,false)))] = some ([aC (q2 x) = aC (e2 F2.zero),aC (q2 y) = aC (e2 F2.zero),gO x = true,gO y = true,aC (e2 (F2.mul (m2 y) (m2 y))) = aC (e2 (F2.add (F2.mul (m2 x) (F2.mul (m2 x) (m2 x))) lY))],.one (.im (.int .i64 0))):=by kernel_rfl
theorem jJ {x : N2} : gO x = true ↔ gD x:=by
 unfold gO gD;rw [Bool.and_eq_true,kZ,kZ]
theorem FF {x : N2} : gO x = false ↔ ¬ gD x:=by
 rw [← jJ];cases gO x <;> simp
theorem aBm (p : dM) (args : List Value) (w : World) (ha : bK w [.v (.fl (dR p))] args) : Good prog 30 (.one (.im (.int .i64 (dI p.1 p.2.1 p.2.2).1))) args w:=by
 obtain ⟨x,y,b⟩:=p;show Good _ _ (.one (.im (.int .i64 (dI x y b).1))) _ _;rw [jI];cases b with
 | true =>
  rw [if_pos rfl]
  by_cases hx : xV x
  ·by_cases hy : xV y
   ·rw [if_pos ⟨hx,hy⟩];exact aD aG (fun _ s => eE) (aH prog) func30 (VE x y) ⟨bY.2 hx,bY.2 hy,trivial⟩ ha
   ·rw [if_neg (fun h => hy h.2)];exact aD aG (fun _ s => eE) (aH prog) func30 (VF x y) ⟨bY.2 hx,fun h => hy (bY.1 h),trivial⟩ ha
  ·rw [if_neg (fun h => hx h.1)];exact aD aG (fun _ s => eE) (aH prog) func30 (VG x y) ⟨fun h => hx (bY.1 h),trivial⟩ ha
 | false =>
  rw [if_neg (by simp)]
  by_cases hx : gD x
  ·by_cases hy : gD y
   ·rw [if_neg (fun h => h ⟨hx,hy⟩)]
    by_cases h : F2.mul (m2 y) (m2 y) = F2.add (F2.mul (F2.mul (m2 x) (m2 x)) (m2 x)) lY
    ·rw [if_pos h];have h' : F2.mul (m2 y) (m2 y) = F2.add (F2.mul (m2 x) (F2.mul (m2 x) (m2 x))) lY:=by rw [h,F2.mul_comm (m2 x) (F2.mul (m2 x) (m2 x))]
     by_cases hx0 : xV x
     ·by_cases hy0 : xV y
      ·exact aD aG (fun _ s => (eE).ad func57 (gB _)) (aH prog) func30 (NG x y) ⟨bY.2 hx0,bY.2 hy0,(jJ.2 hx),(jJ.2 hy),by rw [h'],trivial⟩ ha
      ·exact aD aG (fun _ s => (eE).ad func57 (gB _)) (aH prog) func30 (NH x y) ⟨bY.2 hx0,fun h => hy0 (bY.1 h),(jJ.2 hx),(jJ.2 hy),by rw [h'],trivial⟩ ha
     ·exact aD aG (fun _ s => (eE).ad func57 (gB _)) (aH prog) func30 (NI x y) ⟨fun h => hx0 (bY.1 h),(jJ.2 hx),(jJ.2 hy),by rw [h'],trivial⟩ ha
    ·rw [if_neg h];have h' : F2.mul (m2 y) (m2 y) ≠ F2.add (F2.mul (m2 x) (F2.mul (m2 x) (m2 x))) lY:=by rw [F2.mul_comm (m2 x) (F2.mul (m2 x) (m2 x))]; exact h
     by_cases hx0 : xV x
     ·by_cases hy0 : xV y
      ·exact aD aG (fun _ s => (eE).ad func57 (gB _)) (aH prog) func30 (NJ x y) ⟨bY.2 hx0,bY.2 hy0,(jJ.2 hx),(jJ.2 hy),cG h',trivial⟩ ha
      ·exact aD aG (fun _ s => (eE).ad func57 (gB _)) (aH prog) func30 (NK x y) ⟨bY.2 hx0,fun h => hy0 (bY.1 h),(jJ.2 hx),(jJ.2 hy),cG h',trivial⟩ ha
     ·exact aD aG (fun _ s => (eE).ad func57 (gB _)) (aH prog) func30 (NL x y) ⟨fun h => hx0 (bY.1 h),(jJ.2 hx),(jJ.2 hy),cG h',trivial⟩ ha
   ·rw [if_pos (fun h => hy h.2)]
    by_cases hx0 : xV x
    ·by_cases hy0 : xV y
     ·exact aD aG (fun _ s => (eE).ad func57 (gB _)) (aH prog) func30 (NM x y) ⟨bY.2 hx0,bY.2 hy0,(jJ.2 hx),(FF.2 hy),trivial⟩ ha
     ·exact aD aG (fun _ s => (eE).ad func57 (gB _)) (aH prog) func30 (NN x y) ⟨bY.2 hx0,fun h => hy0 (bY.1 h),(jJ.2 hx),(FF.2 hy),trivial⟩ ha
    ·exact aD aG (fun _ s => (eE).ad func57 (gB _)) (aH prog) func30 (NO x y) ⟨fun h => hx0 (bY.1 h),(jJ.2 hx),(FF.2 hy),trivial⟩ ha
  ·rw [if_pos (fun h => hx h.1)]
   by_cases hx0 : xV x
   ·by_cases hy0 : xV y
    ·exact aD aG (fun _ s => (eE).ad func57 (gB _)) (aH prog) func30 (NP x y) ⟨bY.2 hx0,bY.2 hy0,(FF.2 hx),trivial⟩ ha
    ·exact aD aG (fun _ s => (eE).ad func57 (gB _)) (aH prog) func30 (NQ x y) ⟨bY.2 hx0,fun h => hy0 (bY.1 h),(FF.2 hx),trivial⟩ ha
   ·exact aD aG (fun _ s => (eE).ad func57 (gB _)) (aH prog) func30 (NR x y) ⟨fun h => hx0 (bY.1 h),(FF.2 hx),trivial⟩ ha
def KU : Tab:=(fZ).add 30 (g1 Jb fun p => ([],.one (.im (.int .i64 (dI p.1 p.2.1 p.2.2).1))))
theorem Cc : TabOk prog KU:=(eE).ad func30 (cN jB fun p hp args w ha => aBm p args w ha)
def iM (a : J2) (n L : Nat) : Nat → J2
 | 0 => (F2.one,F2.one,F2.zero)
 | k + 1 => if dP (wv n) (L - 1 - k) = 1 then rplus F2 (dT F2 (iM a n L k)) a else dT F2 (iM a n L k)
def nG (a : J2) (n : Nat) (v : Value) (c : J2) : List Fact:=[.slot 2 (.pt 2 0),.row 2 true (bI a),.slot 3 (.pt 3 0),.row 3 true [.q n],.slot 4 (.pt 4 0),.row 4 true (bI tK),.slot 5 (.pt 5 0),.row 5 true (bI c),.slot 6 (.im v)]
def aGe (a : J2) (n : Nat) : List Fact:=[.slot 2 (.pt 2 0),.row 2 true (bI a),.slot 3 (.pt 3 0),.row 3 true [.q n],.slot 4 (.pt 4 0),.row 4 true (bI tK)]
def aGd (a : J2) (n : Nat) (c : J2) : List Fact:=[.slot 2 (.pt 2 0),.row 2 true (bI a),.slot 3 (.pt 3 0),.row 3 true [.q n],.slot 4 (.pt 4 0),.row 4 true (bI tK),.slot 5 (.pt 5 0),.row 5 true (bI c)]
def TT (num : Nat → Option Value) (_ : Nat) : Cfg:=⟨fun _ => KU,fun _ => true,num⟩
def gA : Code:=(f59.body).getD .skip
def wQ : Code:=Li (Li (cB (cA (cB (cB gA)))))
theorem Mm : gA = .seq (cA gA) (.seq (cA (cB gA)) (.seq (.seq (cA (cA (cB (cB gA)))) (.block 0 (.loop wQ))) (cB (cB (cB gA))))):=by kernel_rfl
theorem aGh (a : J2) (n : Nat) : cM prog (qG prog) f59.ntmps (TT fun _ => none) 60 (cA gA) (mQ 0 [.v (.fl (bI a)),.v (.fl [.q n])]) (aGe a n) = some ([],.nrm,(aGe a n)):=by kernel_rfl
theorem aGg (a : J2) (n : Nat) : cM prog (qG prog) f59.ntmps (TT fun _ => none) 60 (cA (cB gA)) (aGe a n) (aGd a n (F2.one,F2.one,F2.zero)) = some ([],.nrm,(aGd a n (F2.one,F2.one,F2.zero))):=by kernel_rfl
theorem aGf (a c : J2) (n : Nat) (v : Value) : cM prog (qG prog) f59.ntmps (TT (assoc [(14,v)])) 60 (cA (cA (cB (cB gA)))) (aGd a n c) (nG a n v c) = some ([aK .sub .i64 (Int.ofNat (bW n)) 1 = some v],.nrm,(nG a n v c)):=by kernel_rfl
theorem aAl (a c : J2) (n j : Nat) (v : Value) : cM prog (qG prog) f59.ntmps (TT (assoc [(16,.bool true),(24,.bool true),(18,v)])) 60 wQ (nG a n (iI j) c) (nG a n v (rplus F2 (dT F2 c) a)) = some ([aK .geq .i64 (Int.ofNat j) 0 = some (.bool true),j < 256,aK .eql .i64 (Int.ofNat (dP (wv n) j)) 1 = some (.bool true),aK .sub .i64 (Int.ofNat j) 1 = some v],.nrm,(nG a n v (rplus F2 (dT F2 c) a))):=by kernel_rfl
theorem aAm (a c : J2) (n j : Nat) (v : Value) : cM prog (qG prog) f59.ntmps (TT (assoc [(16,.bool true),(24,.bool false),(18,v)])) 60 wQ (nG a n (iI j) c) (nG a n v (dT F2 c)) = some ([aK .geq .i64 (Int.ofNat j) 0 = some (.bool true),j < 256,aK .eql .i64 (Int.ofNat (dP (wv n) j)) 1 = some (.bool false),aK .sub .i64 (Int.ofNat j) 1 = some v],.nrm,(nG a n v (dT F2 c))):=by kernel_rfl
theorem aAn (a c : J2) (n : Nat) : cM prog (qG prog) f59.ntmps (TT (fun _ => none)) 60 wQ (nG a n (.int .i64 (-1)) c) (nG a n (.int .i64 (-1)) c) = some ([],(.ex 0),(nG a n (.int .i64 (-1)) c)):=by kernel_rfl
theorem Ml (a c : J2) (n : Nat) (v : Value) : cM prog (qG prog) f59.ntmps (TT fun _ => none) 60 (cB (cB (cB gA))) (nG a n v c) [.slot 4 (.pt 4 0),.row 4 true (bI c)] = some ([],.rt,[.slot 4 (.pt 4 0),.row 4 true (bI c)]):=by kernel_rfl
theorem Gg (a : J2) (n : Nat) (args : List Value) (w0 : World) (ha : bK w0 [.v (.fl (bI a)),.v (.fl [.q n])] args) : Good prog 59 (.one (.fl (bI (iM a n (bW n) (bW n))))) args w0:=by
 have hG : cH prog (qG prog) w0.heap.size w0:=(aH _).w _ _;have hT : ∀ n d : Nat,TabOkW prog (KU) w0.heap.size w0:=fun _ _ => (Cc).w _ _
 have hL:=Dd n;refine fX func59 (c:=gA) rfl ha (Nat.le_of_ble_eq_true (by kernel_rfl)) fun b w' hA => ?_
 rw [Mm];refine wp_seq (aT aG hT hG (aGh a n) trivial hA fun b w' hA => ?_);refine wp_seq (aT aG hT hG (aGg a n) trivial hA fun b w' hA => ?_);refine wp_seq (wp_seq (aT aG hT hG (aGf a _ n (vI (bW n) 0)) ⟨aNi hL,trivial⟩ hA fun b w' hA => ?_));refine wp_block ?_;refine qJ aG (fun k => nG a n (vI (bW n) k) (iM a n (bW n) k)) (bW n) (fun k hk => ?_) (.ex 0) (by simp) (nG a n (.int .i64 (-1)) (iM a n (bW n) (bW n))) ?_ hA fun b w' hA => ?_
 ·have e0 : vI (bW n) k = iI (bW n - 1 - k):=if_pos hk;show Ok _ _ _ _ _ (nG a n (vI (bW n) k) (iM a n (bW n) k)) _ (nG a n (vI (bW n) (k + 1)) (iM a n (bW n) (k + 1)));rw [e0]
  by_cases h : dP (wv n) (bW n - 1 - k) = 1
  ·rw [show iM a n (bW n) (k + 1) = rplus F2 (dT F2 (iM a n (bW n) k)) a from if_pos h];exact ⟨_,_,_,_,hG,hT,aAl a (iM a n (bW n) k) n (bW n - 1 - k) (vI (bW n) (k + 1)),Sx _,by omega,by rw [uF,decide_eq_true h],aKl hL hk,trivial⟩
  ·rw [show iM a n (bW n) (k + 1) = dT F2 (iM a n (bW n) k) from if_neg h];exact ⟨_,_,_,_,hG,hT,aAm a (iM a n (bW n) k) n (bW n - 1 - k) (vI (bW n) (k + 1)),Sx _,by omega,by rw [uF,decide_eq_false h],aKl hL hk,trivial⟩
 ·show Ok _ _ _ _ _ (nG a n (vI (bW n) (bW n)) _) _ _;rw [show vI (bW n) (bW n) = .int .i64 (-1) from if_neg (Nat.lt_irrefl _)];exact ⟨_,_,_,_,hG,hT,aAn a _ n,trivial⟩
 ·show (cB (cB (cB gA))).wp _ _ _ _;exact aT aG hT hG (Ml a _ n _) trivial hA fun b w' hA => gW (l:=[.fl (bI (iM a n (bW n) (bW n)))]) (r:=.one (.fl (bI (iM a n (bW n) (bW n))))) (by kernel_rfl) (by kernel_rfl) hA
def Zb : Tab:=(KU).add 59 (g2 OV vZ fun a n => ([],.one (.fl (bI (iM a n (bW n) (bW n))))))
theorem aCi : TabOk prog Zb:=(Cc).ad func59 (iT gF dJ fun a n hp args w ha => Gg a n args w ha)
theorem Xp {p : dM} (h : (dI p.1 p.2.1 p.2.2).1 = 0) : p.2.2 = false → gD p.1 ∧ gD p.2.1:=fun hb => by
 rw [jI,hb,if_neg (by simp)] at h
 by_cases hb : gD p.1 ∧ gD p.2.1
 ·exact hb
 ·rw [if_pos hb] at h;cases h
namespace AG
variable {G : Type} (A : AG G)
theorem addz (a : G) : A.add a A.zero = a:=by rw [A.comm,A.zadd]
theorem addn (a : G) : A.add a (A.neg a) = A.zero:=by rw [A.comm,A.nadd]
theorem left_comm (a b c : G) : A.add a (A.add b c) = A.add b (A.add a c):=by rw [← A.assoc,A.comm a b,A.assoc]
theorem cancel {a b c : G} (h : A.add a b = A.add a c) : b = c:=by
 have:=congrArg (A.add (A.neg a)) h
 rwa [← A.assoc,← A.assoc,A.nadd,A.zadd,A.zadd] at this
theorem neg_add (a b : G) : A.neg (A.add a b) = A.add (A.neg a) (A.neg b):=by
 apply A.cancel (a:=A.add a b);rw [A.addn,A.assoc,A.left_comm b,A.addn,A.addz,A.addn]
theorem add4 (a b c d : G) : A.add (A.add a b) (A.add c d) = A.add (A.add a c) (A.add b d):=by
 rw [A.assoc,A.left_comm b,← A.assoc]
def ns : Nat → G → G
 | 0,_ => A.zero
 | n + 1,g => A.add (ns n g) g
theorem ns_add (m : Nat) (g : G) : ∀ n,A.ns (m + n) g = A.add (A.ns m g) (A.ns n g)
 | 0 => (A.addz _).symm
 | n + 1 => by show A.add (A.ns (m + n) g) g = A.add _ (A.add _ _); rw [ns_add m g n,A.assoc]
theorem ns_zero : ∀ n,A.ns n A.zero = A.zero
 | 0 => rfl
 | n + 1 => by show A.add (A.ns n _) _ = _; rw [ns_zero n,A.zadd]
theorem ns_mul (m : Nat) (g : G) : ∀ n,A.ns (m * n) g = A.ns n (A.ns m g)
 | 0 => rfl
 | n + 1 => by rw [Nat.mul_add,Nat.mul_one,ns_add,ns_mul m g n]; rfl
def zs : Int → G → G
 | .ofNat n,g => A.ns n g
 | .negSucc n,g => A.neg (A.ns (n + 1) g)
theorem zs_sub (m n : Nat) (g : G) : A.zs (Int.subNatNat m n) g = A.add (A.ns m g) (A.neg (A.ns n g)):=by
 unfold Int.subNatNat;split
 ·rename_i h;have : m = n + (m - n):=by omega
  show A.ns (m - n) g = _
  conv => rhs; rw [this,ns_add]
  rw [A.comm (A.ns n g),A.assoc,A.addn,A.addz]
 ·rename_i k h;have : n = m + (k + 1):=by omega
  show A.neg (A.ns (k + 1) g) = _;rw [this,ns_add A m g (k + 1),A.neg_add (A.ns m g),← A.assoc,A.addn,A.zadd]
theorem zs_add (g : G) (a b : Int) : A.zs (a + b) g = A.add (A.zs a g) (A.zs b g):=by
 cases a with
 | ofNat m =>
  cases b with
  | ofNat n => exact A.ns_add m g n
  | negSucc n => exact A.zs_sub m (n + 1) g
 | negSucc m =>
  cases b with
  | ofNat n => show A.zs (Int.subNatNat n (m + 1)) g = _; rw [zs_sub,A.comm]; rfl
  | negSucc n =>
   show A.neg (A.ns (m + n + 1 + 1) g) = A.add (A.neg (A.ns (m + 1) g)) (A.neg (A.ns (n + 1) g));rw [← A.neg_add,← ns_add,show m + 1 + (n + 1) = m + n + 1 + 1 by omega]
def sm (P : Nat → G) (c : Nat → Int) : Nat → G
 | 0 => A.zero
 | n + 1 => A.add (sm P c n) (A.zs (c n) (P n))
theorem sm_add (P : Nat → G) (c d : Nat → Int) : ∀ n,A.sm P (fun i => c i + d i) n = A.add (A.sm P c n) (A.sm P d n)
 | 0 => (A.zadd _).symm
 | n + 1 => by show A.add (A.sm P _ n) (A.zs (c n + d n) (P n)) = A.add (A.add _ _) (A.add _ _); rw [sm_add P c d n,zs_add,A.add4]
theorem sm_congr {P : Nat → G} {c d : Nat → Int} : ∀ {n},(∀ i,i < n → c i = d i) → A.sm P c n = A.sm P d n
 | 0,_ => rfl
 | n + 1,h => by show A.add _ (A.zs (c n) _) = A.add _ (A.zs (d n) _); rw [sm_congr fun i hi => h i (by omega),h n (by omega)]
theorem sm_zero (P : Nat → G) : ∀ n,A.sm P (fun _ => 0) n = A.zero
 | 0 => rfl
 | n + 1 => by show A.add (A.sm P _ n) A.zero = _; rw [sm_zero P n,A.zadd]
theorem sm_two (P : Nat → G) (c : Nat → Int) (n : Nat) : A.add (A.sm P c n) (A.sm P c n) = A.sm P (fun i => 2 * c i) n:=by
 rw [← sm_add];exact A.sm_congr fun i _ => by omega
end AG
def pU (w : Nat) : Int:=((w + 1) / 2 : Nat) - (if 16 ≤ w then 16 else 0 : Int)
def BM (x p : Nat) : Nat:=(if p = 0 then x * 2 else x / 2 ^ (p * 4 - 1)) % 32
def jF (x PL : Nat) : Nat → Int
 | 0 => 0
 | i + 1 => 16 * jF x PL i + pU (BM x (PL - 1 - i))
theorem Uz (x PL : Nat) (h : x < 2 ^ (4 * PL - 1)) (h0 : 0 < PL) : ∀ i,i < PL → jF x PL i = ((x / 2 ^ (4 * (PL - i)) + x / 2 ^ (4 * (PL - i) - 1) % 2 : Nat) : Int)
 | 0,_ => by
  have h1 : x / 2 ^ (4 * PL - 1) = 0:=Nat.div_eq_of_lt h;have h2 : x / 2 ^ (4 * PL) = 0:=Nat.div_eq_of_lt (Nat.lt_of_lt_of_le h (Nat.pow_le_pow_right (by omega) (by omega)));show (0 : Int) = ((x / 2 ^ (4 * (PL - 0)) + x / 2 ^ (4 * (PL - 0) - 1) % 2 : Nat) : Int);rw [Nat.sub_zero,h1,h2]; rfl
 | i + 1,hi => by
  have ih:=Uz x PL h h0 i (by omega);show 16 * jF x PL i + pU (BM x (PL - 1 - i)) = _;rw [ih];have hp : PL - 1 - i ≠ 0:=by omega
  have e1 : 4 * (PL - i) = (4 * (PL - (i + 1)) - 1) + 5:=by omega
  have e2 : 4 * (PL - i) - 1 = (4 * (PL - (i + 1)) - 1) + 4:=by omega
  have e3 : 4 * (PL - (i + 1)) = (4 * (PL - (i + 1)) - 1) + 1:=by omega
  have e4 : (PL - 1 - i) * 4 - 1 = 4 * (PL - (i + 1)) - 1:=by omega
  unfold pU BM;rw [if_neg hp,e1,e4];rw [show (4 * (PL - (i + 1)) - 1) + 5 - 1 = (4 * (PL - (i + 1)) - 1) + 4 by omega];have e5 : x / 2 ^ (4 * (PL - (i + 1))) = x / 2 ^ (4 * (PL - (i + 1)) - 1) / 2:=by
   conv => lhs; rw [e3]
   rw [Nat.pow_add,← Nat.div_div_eq_div_mul]
  rw [e5,Nat.pow_add,Nat.pow_add,← Nat.div_div_eq_div_mul,← Nat.div_div_eq_div_mul];generalize x / 2 ^ (4 * (PL - (i + 1)) - 1) = a;show 16 * ((a / 32 + a / 16 % 2 : Nat) : Int) + (((a % 32 + 1) / 2 : Nat) - (if 16 ≤ a % 32 then 16 else 0 : Int)) = ((a / 2 + a % 2 : Nat) : Int);split <;> omega
theorem aCV (x PL : Nat) (h : x < 2 ^ (4 * PL - 1)) (h0 : 0 < PL) : jF x PL PL = x:=by
 obtain ⟨k,rfl⟩ : ∃ k,PL = k + 1:=⟨PL - 1,by omega⟩
 show 16 * jF x (k + 1) k + pU (BM x (k + 1 - 1 - k)) = _;rw [Uz x (k + 1) h h0 k (by omega),show k + 1 - 1 - k = 0 by omega,show k + 1 - k = 1 by omega];unfold pU BM;rw [if_pos rfl];show 16 * ((x / 16 + x / 8 % 2 : Nat) : Int) + (((x * 2 % 32 + 1) / 2 : Nat) - (if 16 ≤ x * 2 % 32 then 16 else 0 : Int)) = (x : Int);split <;> omega
open Classical
section
variable {R : Type} {K : CR R} {inv : R → R} {b : R}
def Rp (E : EC K inv b) (p : Jc R) (P : {p : Pt R // On K b p}) : Prop:=hJ K inv p = P.1
theorem Rp.on {E : EC K inv b} {p : Jc R} {P : {p : Pt R // On K b p}} (h : Rp E p P) : On K b (hJ K inv p):=by
 rw [show hJ K inv p = P.1 from h]; exact P.2
theorem Rp.plus {E : EC K inv b} {p q : Jc R} {P Q : {p : Pt R // On K b p}} (h : Rp E p P) (g : Rp E q Q) : Rp E (gT K p q) (E.grp.add P Q):=by
 show hJ K inv (gT K p q) = vL K inv P.1 Q.1;rw [RJ E h.on g.on,show hJ K inv p = P.1 from h,show hJ K inv q = Q.1 from g]
theorem Rp.rplus {E : EC K inv b} {p q : Jc R} {P Q : {p : Pt R // On K b p}} (h : Rp E p P) (g : Rp E q Q) : Rp E (rplus K p q) (E.grp.add P Q):=by
 show hJ K inv (Ex.rplus K p q) = vL K inv P.1 Q.1;rw [Kh E h.on g.on,show hJ K inv p = P.1 from h,show hJ K inv q = Q.1 from g]
theorem Rp.dbl {E : EC K inv b} {p : Jc R} {P : {p : Pt R // On K b p}} (h : Rp E p P) : Rp E (dT K p) (E.grp.add P P):=by
 show hJ K inv (dT K p) = vL K inv P.1 P.1;rw [Dj E h.on,show hJ K inv p = P.1 from h]
theorem Rp.neg {E : EC K inv b} {p : Jc R} {P : {p : Pt R // On K b p}} (h : Rp E p P) : Rp E (JK K p) (E.grp.neg P):=by
 show hJ K inv (JK K p) = ptN K P.1;rw [aCQ,show hJ K inv p = P.1 from h]
theorem Rp.zero {E : EC K inv b} {p : Jc R} (h : p.2.2 = K.zero) : Rp E p E.grp.zero:=dF h
theorem EC.inv_one (E : EC K inv b) : inv K.one = K.one:=by
 have:=E.F.inv K.one E.F.ne
 rwa [K.one_mul] at this
theorem EC.jto_one (E : EC K inv b) (x y : R) : hJ K inv (x,y,K.one) = some (x,y):=by
 rw [eG (p:=(x,y,K.one)) E.F.ne];refine congrArg some (Prod.ext ?_ ?_)
 ·show K.mul x (K.mul (inv K.one) (inv K.one)) = x;rw [E.inv_one,K.one_mul,K.mul_one]
 ·show K.mul y (K.mul (K.mul (inv K.one) (inv K.one)) (inv K.one)) = y;rw [E.inv_one,K.one_mul,K.one_mul,K.mul_one]
end
namespace AG
variable {G : Type} (A : AG G)
end AG
open Go.RowKit
open Classical
theorem QU (c : Nat) (hc : c < FP.M) (h0 : c ≠ 0) (hv : c ^ uD % FP.M ≠ 1) (n : Fq) : F1.mul n (F1.mul n n) ≠ fm c:=fun h => by
 have hv' : n.1 ^ 3 % FP.M = c:=by
  have:=congrArg Fin.val h;have e : n.1 * (n.1 * n.1 % FP.M) % FP.M = c % FP.M:=this;rw [Nat.mul_mod_mod,← Nat.mul_assoc,show n.1 * n.1 * n.1 = n.1 ^ 3 by rw [Nat.pow_succ,Nat.pow_two]] at e;rw [e]; exact Nat.mod_eq_of_lt hc
 have h1 : 0 < n.1:=by
  rcases Nat.eq_zero_or_pos n.1 with h1 | h1
  ·rw [h1] at hv';exact (h0 hv'.symm).elim
  ·exact h1
 have:=aLN h1 n.2;rw [← Mp,Nat.pow_mul,Nat.pow_mod,hv'] at this;exact hv this
theorem aMa : 3 ^ uD % FP.M ≠ 1:=by
 rw [← DS FP.M 256 3 uD (by decide)];exact of_decide_eq_true (by kernel_rfl)
def nb2 : Nat:=21087453498479301738505683583845423561061080261299122796980902361914303298513
theorem aLZ : nb2 ^ uD % FP.M ≠ 1:=by
 rw [← DS FP.M 256 nb2 uD (by decide)];exact of_decide_eq_true (by kernel_rfl)
theorem aLk : fR lY = fm nb2:=by decide
section
variable {R : Type} (K : CR R)
theorem Ej {x b : R} (h : K.add (K.mul x (K.mul x x)) b = K.zero) : K.mul (K.neg x) (K.mul (K.neg x) (K.neg x)) = b:=by
 have e : K.mul (K.neg x) (K.mul (K.neg x) (K.neg x)) = K.add (K.neg (K.add (K.mul x (K.mul x x)) b)) b:=aQ K (cE K [x,b]) (.mul (.neg (.v 0)) (.mul (.neg (.v 0)) (.neg (.v 0)))) (.add (.neg (.add (.mul (.v 0) (.mul (.v 0) (.v 0))) (.v 1))) (.v 1)) (by decide);rw [e,h];have z : K.neg K.zero = K.zero:=by have:=K.neg_add K.zero; rwa [K.add_zero] at this
 rw [z,K.zero_add]
end
theorem ec1 : EC F1 dZ (fm 3) where
 F:=⟨SX,fun x h => kD h⟩
 two:=fun h => absurd (congrArg Fin.val h) (by decide)
 odd:=fun x h => QU 3 (by decide) (by decide) aMa _ (Ej F1 h)
theorem cJ : EC F2 kO lY where
 F:=⟨aIx.1,fun x h => Ak fun e => h (sD e)⟩
 two:=fun h => absurd (congrArg (fun x : Q2 => x.1.1) h) (by decide)
 odd:=fun x h => by
  have h1:=congrArg fR (Ej F2 h);rw [IX,IX,aLk] at h1;exact QU nb2 (by decide) (by decide) aLZ _ h1
theorem aFL (x : Nat) : wv x % 18446744073709551616 = fw x 0:=by
 obtain ⟨h0,h1,h2,h3⟩:=bM x;unfold wv aA;omega
theorem JX (x p : Nat) : mM x p = pU (BM (wv x) p):=by
 have e : jH x p = BM (wv x) p:=by
  unfold jH BM
  by_cases h : p = 0
  ·rw [if_pos h,if_pos h];unfold Ba;have:=aFL x;omega
  ·rw [if_neg h,if_neg h];generalize wv x / 2 ^ (p * 4 - 1) = y;show y / 18446744073709551616 ^ 0 % 18446744073709551616 % 32 = y % 32;rw [Nat.pow_zero,Nat.div_one];omega
 unfold mM pU;rw [e]
abbrev C1:={p : Pt Fq // On F1 (fm 3) p}
def af1 (p : DE) : Pt Fq:=bif p.2.2 then none else some (m1 p.1,m1 p.2.1)
theorem aIZ {p : DE} (h : (aIV p).1 = 0) : hJ F1 dZ (aIV p).2 = af1 p ∧ On F1 (fm 3) (af1 p):=by
 obtain ⟨x,y,b⟩:=p;have e:=KB x y b;show hJ F1 dZ (oE x y b).2 = _ ∧ _;have h' : (oE x y b).1 = 0:=h;cases b with
 | true =>
  rw [if_pos rfl] at e;refine ⟨?_,trivial⟩;have : (oE x y true).2.2.2 = F1.zero:=by
   rw [e];split <;> rfl
  exact dF this
 | false =>
  rw [if_neg (by simp)] at e
  by_cases hb : ¬ (wK x ∧ wK y)
  ·rw [if_pos hb] at e;rw [e] at h'; cases h'
  ·rw [if_neg hb] at e
   by_cases hy : F1.mul (m1 y) (m1 y) = F1.add (F1.mul (F1.mul (m1 x) (m1 x)) (m1 x)) (fm 3)
   ·rw [if_pos hy] at e;rw [e];refine ⟨ec1.jto_one _ _,?_⟩;show F1.mul (m1 y) (m1 y) = F1.add (F1.mul (m1 x) (F1.mul (m1 x) (m1 x))) (fm 3);rw [hy,F1.mul_comm (m1 x) (F1.mul (m1 x) (m1 x))]
   ·rw [if_neg hy] at e;rw [e] at h'; cases h'
def cp1 (p : DE) : C1:=if h : (aIV p).1 = 0 then ⟨af1 p,(aIZ h).2⟩ else ec1.grp.zero
abbrev C2:={p : Pt Q2 // On F2 lY p}
theorem JI {p : J2} {g : C2} (h : Rp cJ p g) : ∀ k,Rp cJ (DA p k) (cJ.grp.ns k g)
 | 0 => Rp.zero rfl
 | k + 1 => (JI h k).plus h
theorem Mj {p : J2} {g : C2} (h : Rp cJ p g) : ∀ d : Int,Rp cJ (Ge p d) (cJ.grp.zs d g)
 | .ofNat 0 => Rp.zero rfl
 | .ofNat (k + 1) => JI h (k + 1)
 | .negSucc k => (JI h (k + 1)).neg
theorem Ek {pt : Nat → J2} {g : Nat → C2} {N : Nat} (h : ∀ j,j < N → Rp cJ (pt j) (g j)) (x : Nat → Nat) (p : Nat) : ∀ n,n ≤ N → Rp cJ (EX pt x p n) (cJ.grp.sm g (fun j => pU (BM (wv (x j)) p)) n)
 | 0,_ => Rp.zero rfl
 | n + 1,hn => by
  have h2:=Mj (h n (by omega)) (mM (x n) p);rw [JX] at h2;have h1:=Ek h x p n (by omega);have:=h1.plus h2;rw [← JX] at this;show Rp cJ _ (cJ.grp.add _ (cJ.grp.zs (pU (BM (wv (x n)) p)) (g n)));rw [← JX];exact this
theorem Bt {D : Nat → J2} {g : Nat → C2} {N PL : Nat} {x : Nat → Nat} (h : ∀ p,Rp cJ (D p) (cJ.grp.sm g (fun j => pU (BM (wv (x j)) p)) N)) : ∀ k,Rp cJ (Jq D PL k) (cJ.grp.sm g (fun j => jF (wv (x j)) PL k) N)
 | 0 => by
  show Rp cJ _ (cJ.grp.sm g (fun _ => 0) N);rw [cJ.grp.sm_zero];exact Rp.zero rfl
 | k + 1 => by
  have h1:=(Bt (PL:=PL) h k).dbl.dbl.dbl.dbl.plus (h (PL - 1 - k));rw [cJ.grp.sm_two,cJ.grp.sm_two,cJ.grp.sm_two,cJ.grp.sm_two,← cJ.grp.sm_add] at h1;rw [cJ.grp.sm_congr (d:=fun j => jF (wv (x j)) PL (k + 1)) (fun j _ => by show _ = 16 * jF (wv (x j)) PL k + _; omega)] at h1;exact h1
theorem Gh {pt : Nat → J2} {g : Nat → C2} {N : Nat} (h : ∀ j,j < N → Rp cJ (pt j) (g j)) (x : Nat → Nat) : Rp cJ (yG pt x N) (cJ.grp.sm g (fun j => (wv (x j) : Int)) N):=by
 have h1:=Bt (PL:=pH x N / 4 + 1) (fun p => Ek h x p N (Nat.le_refl _)) (pH x N / 4 + 1);rw [cJ.grp.sm_congr (d:=fun j => (wv (x j) : Int)) (fun j hj => aCV _ _ (Nat.lt_of_lt_of_le (sG (x j)).1 (Nat.pow_le_pow_right (by omega) (by have:=Tp x N j hj; omega))) (by omega))] at h1;exact h1
theorem ON {a : J2} {g : C2} (h : Rp cJ a g) (n : Nat) : ∀ k,k ≤ bW n → Rp cJ (iM a n (bW n) k) (cJ.grp.ns (wv n / 2 ^ (bW n - k)) g)
 | 0,_ => by
  rw [Nat.sub_zero,Nat.div_eq_of_lt (sG n).1];exact Rp.zero rfl
 | k + 1,hk => by
  have ih:=ON h n k (by omega);have e : wv n / 2 ^ (bW n - k) = wv n / 2 ^ (bW n - (k + 1)) / 2:=by
   rw [show bW n - k = (bW n - (k + 1)) + 1 by omega,Nat.pow_add,← Nat.div_div_eq_div_mul]
  have e2 : dP (wv n) (bW n - 1 - k) = wv n / 2 ^ (bW n - (k + 1)) % 2:=by
   unfold dP;rw [show bW n - 1 - k = bW n - (k + 1) by omega]
  rw [e] at ih;generalize wv n / 2 ^ (bW n - (k + 1)) = y at ih e2 ⊢;have h2:=ih.dbl;rw [← cJ.grp.ns_add] at h2
  by_cases hb : dP (wv n) (bW n - 1 - k) = 1
  ·rw [show iM a n (bW n) (k + 1) = rplus F2 (dT F2 (iM a n (bW n) k)) a from if_pos hb];have h3:=h2.rplus h;rw [show y = y / 2 + y / 2 + 1 by omega];exact h3
  ·rw [show iM a n (bW n) (k + 1) = dT F2 (iM a n (bW n) k) from if_neg hb];have hb0:=kK (wv n) (bW n - 1 - k);rw [show y = y / 2 + y / 2 by omega];exact h2
def Zz (p : dM) : Pt Q2:=bif p.2.2 then none else some (m2 p.1,m2 p.2.1)
theorem Xq {p : dM} (h : (fJ p).1 = 0) : hJ F2 kO (fJ p).2 = Zz p ∧ On F2 lY (Zz p):=by
 obtain ⟨x,y,b⟩:=p;have e:=jI x y b;show hJ F2 kO (dI x y b).2 = _ ∧ _;have h' : (dI x y b).1 = 0:=h;cases b with
 | true =>
  rw [if_pos rfl] at e;refine ⟨?_,trivial⟩;have : (dI x y true).2.2.2 = F2.zero:=by
   rw [e];split <;> rfl
  exact dF this
 | false =>
  rw [if_neg (by simp)] at e
  by_cases hb : ¬ (gD x ∧ gD y)
  ·rw [if_pos hb] at e;rw [e] at h'; cases h'
  ·rw [if_neg hb] at e
   by_cases hy : F2.mul (m2 y) (m2 y) = F2.add (F2.mul (F2.mul (m2 x) (m2 x)) (m2 x)) lY
   ·rw [if_pos hy] at e;rw [e];refine ⟨cJ.jto_one _ _,?_⟩;show F2.mul (m2 y) (m2 y) = F2.add (F2.mul (m2 x) (F2.mul (m2 x) (m2 x))) lY;rw [hy,F2.mul_comm (m2 x) (F2.mul (m2 x) (m2 x))]
   ·rw [if_neg hy] at e;rw [e] at h'; cases h'
theorem aFK (p : dM) : hJ F2 kO (wd2 p) = Zz p:=by
 obtain ⟨x,y,b⟩:=p;cases b with
 | true => exact dF rfl
 | false => exact cJ.jto_one _ _
def uV (p : dM) : C2:=if h : (fJ p).1 = 0 then ⟨Zz p,(Xq h).2⟩ else cJ.grp.zero
theorem uU {p : dM} (h : (fJ p).1 = 0) : (uV p).1 = Zz p:=by unfold uV; rw [dif_pos h]
theorem aDE {p : dM} (h : (fJ p).1 = 0) : Rp cJ (fJ p).2 (uV p):=(Xq h).1.trans (uU h).symm
theorem aIL {p : dM} (h : (fJ p).1 = 0) : Rp cJ (wd2 p) (uV p):=(aFK p).trans (uU h).symm
theorem Bi (p : dM) (n : Nat) : gY (fun _ => p) (fun _ => n) 1 = if (fJ p).1 ≠ 0 then ((some (F2.zero,F2.zero)),(fJ p).1) else ((cJ.grp.ns (wv n) (uV p)).1,0):=by
 have e1 : kF (fun _ => p) 1 = (fJ p).1:=if_neg (fun h => h rfl);unfold gY;rw [e1]
 by_cases h1 : (fJ p).1 = 0
 ·simp only [h1,ne_eq,not_true_eq_false,not_false_eq_true,if_true,if_false];have hr:=Gh (pt:=DT (fun _ => p)) (g:=fun _ => uV p) (N:=1) (fun j hj => aDE h1) (fun _ => n);have hr' : hJ F2 kO (yG (DT (fun _ => p)) (fun _ => n) 1) = (cJ.grp.add cJ.grp.zero (cJ.grp.ns (wv n) (uV p))).1:=hr;rw [cJ.grp.zadd] at hr';rw [hr']
 ·simp only [h1,ne_eq,not_true_eq_false,not_false_eq_true,if_true,if_false]
end Go.Proofs.YtfnkbmlmgnadmaaGreat.Ex
namespace Go.Proofs.YtfnkbmlmgnadmaaGreat.R1
open Go.Proofs.Tryz
open Go.RowKit
theorem rcmp_l3 (a0 a1 a2 a3 b0 b1 b2 b3 : Nat) (ha : aY a0 a1 a2 a3) (hb : aY b0 b1 b2 b3) (e3 : a3 < b3) (w : World) :
  Calls prog 78 #[.agg #[.int .u64 a0,.int .u64 a1,.int .u64 a2,.int .u64 a3],.agg #[.int .u64 b0,.int .u64 b1,.int .u64 b2,.int .u64 b3]] w fun e w' => e = .returned (.int .i64 (bG (aA a0 a1 a2 a3) (aA b0 b1 b2 b3))) ∧ Below w.heap.size w w':=by
 have hfin : bG (aA a0 a1 a2 a3) (aA b0 b1 b2 b3) = -1:=by
  obtain ⟨p0,p1,p2,p3⟩:=ha; obtain ⟨q0,q1,q2,q3⟩:=hb; unfold bG aA;rw [if_neg (by omega),if_pos (by omega)]
 rw [hfin];clear hfin;have l3 : decide (a3 < b3) = true:=decide_eq_true (by omega);clear e3
 go_enter func78,ntmps78
 go_wp2_with fail;refine wp_loop_rounds 5 ?_;rw [rounds_succ];go_wp2_with fail
 go_quiet (fail)
 go_wp2_with fail;go_ret;exact ⟨rfl,by repeat (first | exact Below.refl _ _ | refine Below.trans ?_ (aJ _ _ _) | refine Below.drew ?_ | refine Below.alloc ?_ (by first | (simp; done) | (simp; omega)) _)⟩
theorem rcmp_g3 (a0 a1 a2 a3 b0 b1 b2 b3 : Nat) (ha : aY a0 a1 a2 a3) (hb : aY b0 b1 b2 b3) (e3 : b3 < a3) (w : World) :
  Calls prog 78 #[.agg #[.int .u64 a0,.int .u64 a1,.int .u64 a2,.int .u64 a3],.agg #[.int .u64 b0,.int .u64 b1,.int .u64 b2,.int .u64 b3]] w fun e w' => e = .returned (.int .i64 (bG (aA a0 a1 a2 a3) (aA b0 b1 b2 b3))) ∧ Below w.heap.size w w':=by
 have hfin : bG (aA a0 a1 a2 a3) (aA b0 b1 b2 b3) = 1:=by
  obtain ⟨p0,p1,p2,p3⟩:=ha; obtain ⟨q0,q1,q2,q3⟩:=hb; unfold bG aA;rw [if_neg (by omega),if_neg (by omega)]
 rw [hfin];clear hfin;have l3 : decide (a3 < b3) = false:=decide_eq_false (by omega);have g3 : decide (b3 < a3) = true:=decide_eq_true (by omega);clear e3
 go_enter func78,ntmps78
 go_wp2_with fail;refine wp_loop_rounds 5 ?_;rw [rounds_succ];go_wp2_with fail
 go_quiet (fail)
 go_wp2_with fail
 go_quiet (fail)
 go_wp2_with fail;go_ret;exact ⟨rfl,by repeat (first | exact Below.refl _ _ | refine Below.trans ?_ (aJ _ _ _) | refine Below.drew ?_ | refine Below.alloc ?_ (by first | (simp; done) | (simp; omega)) _)⟩
theorem rcmp_l2 (a0 a1 a2 a3 b0 b1 b2 b3 : Nat) (ha : aY a0 a1 a2 a3) (hb : aY b0 b1 b2 b3) (e3 : a3 = b3) (e2 : a2 < b2) (w : World) :
  Calls prog 78 #[.agg #[.int .u64 a0,.int .u64 a1,.int .u64 a2,.int .u64 a3],.agg #[.int .u64 b0,.int .u64 b1,.int .u64 b2,.int .u64 b3]] w fun e w' => e = .returned (.int .i64 (bG (aA a0 a1 a2 a3) (aA b0 b1 b2 b3))) ∧ Below w.heap.size w w':=by
 have hfin : bG (aA a0 a1 a2 a3) (aA b0 b1 b2 b3) = -1:=by
  obtain ⟨p0,p1,p2,p3⟩:=ha; obtain ⟨q0,q1,q2,q3⟩:=hb; unfold bG aA;rw [if_neg (by omega),if_pos (by omega)]
 rw [hfin];clear hfin;have l3 : decide (a3 < b3) = false:=decide_eq_false (by omega);have g3 : decide (b3 < a3) = false:=decide_eq_false (by omega);clear e3;have l2 : decide (a2 < b2) = true:=decide_eq_true (by omega);clear e2
 go_enter func78,ntmps78
 go_wp2_with fail;refine wp_loop_rounds 5 ?_;rw [rounds_succ];go_wp2_with fail
 go_quiet (fail)
 go_wp2_with fail
 go_quiet (fail)
 go_wp2_with fail;rw [rounds_succ];go_wp2_with fail
 go_quiet (fail)
 go_wp2_with fail;go_ret;exact ⟨rfl,by repeat (first | exact Below.refl _ _ | refine Below.trans ?_ (aJ _ _ _) | refine Below.drew ?_ | refine Below.alloc ?_ (by first | (simp; done) | (simp; omega)) _)⟩
theorem rcmp_g2 (a0 a1 a2 a3 b0 b1 b2 b3 : Nat) (ha : aY a0 a1 a2 a3) (hb : aY b0 b1 b2 b3) (e3 : a3 = b3) (e2 : b2 < a2) (w : World) :
  Calls prog 78 #[.agg #[.int .u64 a0,.int .u64 a1,.int .u64 a2,.int .u64 a3],.agg #[.int .u64 b0,.int .u64 b1,.int .u64 b2,.int .u64 b3]] w fun e w' => e = .returned (.int .i64 (bG (aA a0 a1 a2 a3) (aA b0 b1 b2 b3))) ∧ Below w.heap.size w w':=by
 have hfin : bG (aA a0 a1 a2 a3) (aA b0 b1 b2 b3) = 1:=by
  obtain ⟨p0,p1,p2,p3⟩:=ha; obtain ⟨q0,q1,q2,q3⟩:=hb; unfold bG aA;rw [if_neg (by omega),if_neg (by omega)]
 rw [hfin];clear hfin;have l3 : decide (a3 < b3) = false:=decide_eq_false (by omega);have g3 : decide (b3 < a3) = false:=decide_eq_false (by omega);clear e3;have l2 : decide (a2 < b2) = false:=decide_eq_false (by omega);have g2 : decide (b2 < a2) = true:=decide_eq_true (by omega);clear e2
 go_enter func78,ntmps78
 go_wp2_with fail;refine wp_loop_rounds 5 ?_;rw [rounds_succ];go_wp2_with fail
 go_quiet (fail)
 go_wp2_with fail
 go_quiet (fail)
 go_wp2_with fail;rw [rounds_succ];go_wp2_with fail
 go_quiet (fail)
 go_wp2_with fail
 go_quiet (fail)
 go_wp2_with fail;go_ret;exact ⟨rfl,by repeat (first | exact Below.refl _ _ | refine Below.trans ?_ (aJ _ _ _) | refine Below.drew ?_ | refine Below.alloc ?_ (by first | (simp; done) | (simp; omega)) _)⟩
theorem rcmp_l1 (a0 a1 a2 a3 b0 b1 b2 b3 : Nat) (ha : aY a0 a1 a2 a3) (hb : aY b0 b1 b2 b3) (e3 : a3 = b3) (e2 : a2 = b2) (e1 : a1 < b1) (w : World) :
  Calls prog 78 #[.agg #[.int .u64 a0,.int .u64 a1,.int .u64 a2,.int .u64 a3],.agg #[.int .u64 b0,.int .u64 b1,.int .u64 b2,.int .u64 b3]] w fun e w' => e = .returned (.int .i64 (bG (aA a0 a1 a2 a3) (aA b0 b1 b2 b3))) ∧ Below w.heap.size w w':=by
 have hfin : bG (aA a0 a1 a2 a3) (aA b0 b1 b2 b3) = -1:=by
  obtain ⟨p0,p1,p2,p3⟩:=ha; obtain ⟨q0,q1,q2,q3⟩:=hb; unfold bG aA;rw [if_neg (by omega),if_pos (by omega)]
 rw [hfin];clear hfin;have l3 : decide (a3 < b3) = false:=decide_eq_false (by omega);have g3 : decide (b3 < a3) = false:=decide_eq_false (by omega);clear e3;have l2 : decide (a2 < b2) = false:=decide_eq_false (by omega);have g2 : decide (b2 < a2) = false:=decide_eq_false (by omega);clear e2;have l1 : decide (a1 < b1) = true:=decide_eq_true (by omega);clear e1
 go_enter func78,ntmps78
 go_wp2_with fail;refine wp_loop_rounds 5 ?_;rw [rounds_succ];go_wp2_with fail
 go_quiet (fail)
 go_wp2_with fail
 go_quiet (fail)
 go_wp2_with fail;rw [rounds_succ];go_wp2_with fail
 go_quiet (fail)
 go_wp2_with fail
 go_quiet (fail)
 go_wp2_with fail;rw [rounds_succ];go_wp2_with fail
 go_quiet (fail)
 go_wp2_with fail;go_ret;exact ⟨rfl,by repeat (first | exact Below.refl _ _ | refine Below.trans ?_ (aJ _ _ _) | refine Below.drew ?_ | refine Below.alloc ?_ (by first | (simp; done) | (simp; omega)) _)⟩
theorem rcmp_g1 (a0 a1 a2 a3 b0 b1 b2 b3 : Nat) (ha : aY a0 a1 a2 a3) (hb : aY b0 b1 b2 b3) (e3 : a3 = b3) (e2 : a2 = b2) (e1 : b1 < a1) (w : World) :
  Calls prog 78 #[.agg #[.int .u64 a0,.int .u64 a1,.int .u64 a2,.int .u64 a3],.agg #[.int .u64 b0,.int .u64 b1,.int .u64 b2,.int .u64 b3]] w fun e w' => e = .returned (.int .i64 (bG (aA a0 a1 a2 a3) (aA b0 b1 b2 b3))) ∧ Below w.heap.size w w':=by
 have hfin : bG (aA a0 a1 a2 a3) (aA b0 b1 b2 b3) = 1:=by
  obtain ⟨p0,p1,p2,p3⟩:=ha; obtain ⟨q0,q1,q2,q3⟩:=hb; unfold bG aA;rw [if_neg (by omega),if_neg (by omega)]
 rw [hfin];clear hfin;have l3 : decide (a3 < b3) = false:=decide_eq_false (by omega);have g3 : decide (b3 < a3) = false:=decide_eq_false (by omega);clear e3;have l2 : decide (a2 < b2) = false:=decide_eq_false (by omega);have g2 : decide (b2 < a2) = false:=decide_eq_false (by omega);clear e2;have l1 : decide (a1 < b1) = false:=decide_eq_false (by omega);have g1 : decide (b1 < a1) = true:=decide_eq_true (by omega);clear e1
 go_enter func78,ntmps78
 go_wp2_with fail;refine wp_loop_rounds 5 ?_;rw [rounds_succ];go_wp2_with fail
 go_quiet (fail)
 go_wp2_with fail
 go_quiet (fail)
 go_wp2_with fail;rw [rounds_succ];go_wp2_with fail
 go_quiet (fail)
 go_wp2_with fail
 go_quiet (fail)
 go_wp2_with fail;rw [rounds_succ];go_wp2_with fail
 go_quiet (fail)
 go_wp2_with fail
 go_quiet (fail)
 go_wp2_with fail;go_ret;exact ⟨rfl,by repeat (first | exact Below.refl _ _ | refine Below.trans ?_ (aJ _ _ _) | refine Below.drew ?_ | refine Below.alloc ?_ (by first | (simp; done) | (simp; omega)) _)⟩
theorem rcmp_l0 (a0 a1 a2 a3 b0 b1 b2 b3 : Nat) (ha : aY a0 a1 a2 a3) (hb : aY b0 b1 b2 b3) (e3 : a3 = b3) (e2 : a2 = b2) (e1 : a1 = b1) (e0 : a0 < b0) (w : World) :
  Calls prog 78 #[.agg #[.int .u64 a0,.int .u64 a1,.int .u64 a2,.int .u64 a3],.agg #[.int .u64 b0,.int .u64 b1,.int .u64 b2,.int .u64 b3]] w fun e w' => e = .returned (.int .i64 (bG (aA a0 a1 a2 a3) (aA b0 b1 b2 b3))) ∧ Below w.heap.size w w':=by
 have hfin : bG (aA a0 a1 a2 a3) (aA b0 b1 b2 b3) = -1:=by
  obtain ⟨p0,p1,p2,p3⟩:=ha; obtain ⟨q0,q1,q2,q3⟩:=hb; unfold bG aA;rw [if_neg (by omega),if_pos (by omega)]
 rw [hfin];clear hfin;have l3 : decide (a3 < b3) = false:=decide_eq_false (by omega);have g3 : decide (b3 < a3) = false:=decide_eq_false (by omega);clear e3;have l2 : decide (a2 < b2) = false:=decide_eq_false (by omega);have g2 : decide (b2 < a2) = false:=decide_eq_false (by omega);clear e2;have l1 : decide (a1 < b1) = false:=decide_eq_false (by omega);have g1 : decide (b1 < a1) = false:=decide_eq_false (by omega);clear e1;have l0 : decide (a0 < b0) = true:=decide_eq_true (by omega);clear e0
 go_enter func78,ntmps78
 go_wp2_with fail;refine wp_loop_rounds 5 ?_;rw [rounds_succ];go_wp2_with fail
 go_quiet (fail)
 go_wp2_with fail
 go_quiet (fail)
 go_wp2_with fail;rw [rounds_succ];go_wp2_with fail
 go_quiet (fail)
 go_wp2_with fail
 go_quiet (fail)
 go_wp2_with fail;rw [rounds_succ];go_wp2_with fail
 go_quiet (fail)
 go_wp2_with fail
 go_quiet (fail)
 go_wp2_with fail;rw [rounds_succ];go_wp2_with fail
 go_quiet (fail)
 go_wp2_with fail;go_ret;exact ⟨rfl,by repeat (first | exact Below.refl _ _ | refine Below.trans ?_ (aJ _ _ _) | refine Below.drew ?_ | refine Below.alloc ?_ (by first | (simp; done) | (simp; omega)) _)⟩
theorem rcmp_g0 (a0 a1 a2 a3 b0 b1 b2 b3 : Nat) (ha : aY a0 a1 a2 a3) (hb : aY b0 b1 b2 b3) (e3 : a3 = b3) (e2 : a2 = b2) (e1 : a1 = b1) (e0 : b0 < a0) (w : World) :
  Calls prog 78 #[.agg #[.int .u64 a0,.int .u64 a1,.int .u64 a2,.int .u64 a3],.agg #[.int .u64 b0,.int .u64 b1,.int .u64 b2,.int .u64 b3]] w fun e w' => e = .returned (.int .i64 (bG (aA a0 a1 a2 a3) (aA b0 b1 b2 b3))) ∧ Below w.heap.size w w':=by
 have hfin : bG (aA a0 a1 a2 a3) (aA b0 b1 b2 b3) = 1:=by
  obtain ⟨p0,p1,p2,p3⟩:=ha; obtain ⟨q0,q1,q2,q3⟩:=hb; unfold bG aA;rw [if_neg (by omega),if_neg (by omega)]
 rw [hfin];clear hfin;have l3 : decide (a3 < b3) = false:=decide_eq_false (by omega);have g3 : decide (b3 < a3) = false:=decide_eq_false (by omega);clear e3;have l2 : decide (a2 < b2) = false:=decide_eq_false (by omega);have g2 : decide (b2 < a2) = false:=decide_eq_false (by omega);clear e2;have l1 : decide (a1 < b1) = false:=decide_eq_false (by omega);have g1 : decide (b1 < a1) = false:=decide_eq_false (by omega);clear e1;have l0 : decide (a0 < b0) = false:=decide_eq_false (by omega);have g0 : decide (b0 < a0) = true:=decide_eq_true (by omega);clear e0
 go_enter func78,ntmps78
 go_wp2_with fail;refine wp_loop_rounds 5 ?_;rw [rounds_succ];go_wp2_with fail
 go_quiet (fail)
 go_wp2_with fail
 go_quiet (fail)
 go_wp2_with fail;rw [rounds_succ];go_wp2_with fail
 go_quiet (fail)
 go_wp2_with fail
 go_quiet (fail)
 go_wp2_with fail;rw [rounds_succ];go_wp2_with fail
 go_quiet (fail)
 go_wp2_with fail
 go_quiet (fail)
 go_wp2_with fail;rw [rounds_succ];go_wp2_with fail
 go_quiet (fail)
 go_wp2_with fail
 go_quiet (fail)
 go_wp2_with fail;go_ret;exact ⟨rfl,by repeat (first | exact Below.refl _ _ | refine Below.trans ?_ (aJ _ _ _) | refine Below.drew ?_ | refine Below.alloc ?_ (by first | (simp; done) | (simp; omega)) _)⟩
theorem rcmp_e (a0 a1 a2 a3 b0 b1 b2 b3 : Nat) (ha : aY a0 a1 a2 a3) (hb : aY b0 b1 b2 b3) (e3 : a3 = b3) (e2 : a2 = b2) (e1 : a1 = b1) (e0 : a0 = b0) (w : World) :
  Calls prog 78 #[.agg #[.int .u64 a0,.int .u64 a1,.int .u64 a2,.int .u64 a3],.agg #[.int .u64 b0,.int .u64 b1,.int .u64 b2,.int .u64 b3]] w fun e w' => e = .returned (.int .i64 (bG (aA a0 a1 a2 a3) (aA b0 b1 b2 b3))) ∧ Below w.heap.size w w':=by
 have hfin : bG (aA a0 a1 a2 a3) (aA b0 b1 b2 b3) = 0:=by
  obtain ⟨p0,p1,p2,p3⟩:=ha; obtain ⟨q0,q1,q2,q3⟩:=hb; unfold bG aA;rw [if_pos (by omega)]
 rw [hfin];clear hfin;have l3 : decide (a3 < b3) = false:=decide_eq_false (by omega);have g3 : decide (b3 < a3) = false:=decide_eq_false (by omega);clear e3;have l2 : decide (a2 < b2) = false:=decide_eq_false (by omega);have g2 : decide (b2 < a2) = false:=decide_eq_false (by omega);clear e2;have l1 : decide (a1 < b1) = false:=decide_eq_false (by omega);have g1 : decide (b1 < a1) = false:=decide_eq_false (by omega);clear e1;have l0 : decide (a0 < b0) = false:=decide_eq_false (by omega);have g0 : decide (b0 < a0) = false:=decide_eq_false (by omega);clear e0
 go_enter func78,ntmps78
 go_wp2_with fail;refine wp_loop_rounds 5 ?_;rw [rounds_succ];go_wp2_with fail
 go_quiet (fail)
 go_wp2_with fail
 go_quiet (fail)
 go_wp2_with fail;rw [rounds_succ];go_wp2_with fail
 go_quiet (fail)
 go_wp2_with fail
 go_quiet (fail)
 go_wp2_with fail;rw [rounds_succ];go_wp2_with fail
 go_quiet (fail)
 go_wp2_with fail
 go_quiet (fail)
 go_wp2_with fail;rw [rounds_succ];go_wp2_with fail
 go_quiet (fail)
 go_wp2_with fail
 go_quiet (fail)
 go_wp2_with fail;rw [rounds_succ];go_wp2_with fail;go_ret;exact ⟨rfl,by repeat (first | exact Below.refl _ _ | refine Below.trans ?_ (aJ _ _ _) | refine Below.drew ?_ | refine Below.alloc ?_ (by first | (simp; done) | (simp; omega)) _)⟩
theorem refCmp_calls (a0 a1 a2 a3 b0 b1 b2 b3 : Nat) (ha : aY a0 a1 a2 a3) (hb : aY b0 b1 b2 b3) (w : World) :
  Calls prog 78 #[.agg #[.int .u64 a0,.int .u64 a1,.int .u64 a2,.int .u64 a3],.agg #[.int .u64 b0,.int .u64 b1,.int .u64 b2,.int .u64 b3]] w fun e w' => e = .returned (.int .i64 (bG (aA a0 a1 a2 a3) (aA b0 b1 b2 b3))) ∧ Below w.heap.size w w':=by
 rcases Nat.lt_trichotomy a3 b3 with e3 | e3 | e3
 ·exact rcmp_l3 a0 a1 a2 a3 b0 b1 b2 b3 ha hb e3 w
 ·rcases Nat.lt_trichotomy a2 b2 with e2 | e2 | e2
  ·exact rcmp_l2 a0 a1 a2 a3 b0 b1 b2 b3 ha hb e3 e2 w
  ·rcases Nat.lt_trichotomy a1 b1 with e1 | e1 | e1
   ·exact rcmp_l1 a0 a1 a2 a3 b0 b1 b2 b3 ha hb e3 e2 e1 w
   ·rcases Nat.lt_trichotomy a0 b0 with e0 | e0 | e0
    ·exact rcmp_l0 a0 a1 a2 a3 b0 b1 b2 b3 ha hb e3 e2 e1 e0 w
    ·exact rcmp_e a0 a1 a2 a3 b0 b1 b2 b3 ha hb e3 e2 e1 e0 w
    ·exact rcmp_g0 a0 a1 a2 a3 b0 b1 b2 b3 ha hb e3 e2 e1 e0 w
   ·exact rcmp_g1 a0 a1 a2 a3 b0 b1 b2 b3 ha hb e3 e2 e1 w
  ·exact rcmp_g2 a0 a1 a2 a3 b0 b1 b2 b3 ha hb e3 e2 w
 ·exact rcmp_g3 a0 a1 a2 a3 b0 b1 b2 b3 ha hb e3 w
end Go.Proofs.YtfnkbmlmgnadmaaGreat.R1
namespace Go.Proofs.YtfnkbmlmgnadmaaGreat.Ex
open Go.Proofs.Tryz
open Go.RowKit
def gCk (k : Bool) : fQ:=g1 rg1 fun p => bif k then ([(oE p.1 p.2.1 p.2.2).1 = 0],.one (.im (.int .i64 0))) else ([],.one (.im (.int .i64 (oE p.1 p.2.1 p.2.2).1)))
theorem Wa {f : FuncId} (h : ∀ (p : DE) (args : List Value) (w : World),bK w [.v (.fl (LJ p))] args → Good prog f (.one (.im (.int .i64 (oE p.1 p.2.1 p.2.2).1))) args w) (k : Bool) :
  ∀ cs pre r,gCk k cs = some (pre,r) → aP pre → ∀ (args : List Value) (w : World),bK w cs args → Good prog f r args w :=
 cN yV fun p hp args w ha => by
  cases k
  ·exact h p args w ha
  ·have e : (oE p.1 p.2.1 p.2.2).1 = 0:=hp.1;have:=h p args w ha;rw [e] at this;exact this
theorem aAV (p : DE) : aM prog (qG prog) (fun _ => ⟨fun _ => fZ,fun _ => true,fun _ => none⟩) f45 60 [.v (.fl (LJ p))] = some ([],.one (.im (.int .i64 (oE p.1 p.2.1 p.2.2).1))):=by kernel_rfl
theorem Rt (p : DE) (args : List Value) (w : World) (ha : bK w [.v (.fl (LJ p))] args) : Good prog 45 (.one (.im (.int .i64 (oE p.1 p.2.1 p.2.2).1))) args w :=
 aD aG (fun _ _ => eE) (aH prog) func45 (aAV p) trivial ha
def gLq (c : Bool) : fQ
 | [.v (.im (.int .i64 (.ofNat 1))),.v (.fl l)] => match vZ l with
  | some n => some ([wv n < FP.M,fV FP.M (wv n) = c],.many [.im (.bool c),.im (.int .i64 0)])
  | none => none
 | _ => none
theorem aIa (c : Bool) : ∀ cs pre r,gLq c cs = some (pre,r) → aP pre → ∀ (args : List Value) (w : World),bK w cs args → Good prog 80 r args w:=by
 intro cs pre r hg hp args w ha;unfold gLq at hg;split at hg
 ·rename_i l;split at hg
  ·rename_i n hn;cases hg
   match args,ha with
   | [v,u],ha =>
    have h1 : v = .int .i64 1:=ha.1;have h2 : u = .agg (aC l).toArray:=ha.2.1;rw [dJ l _ hn] at h2;subst h1; subst h2;have h:=EO 1 FP fT _ _ _ _ (bM n) hp.1 w;refine h.mono ?_
    rintro e w' ⟨rfl,hb⟩
    refine ⟨?_,hb⟩;have e2 : fV FP.M (aA (fw n 0) (fw n 1) (fw n 2) (fw n 3)) = c:=hp.2.1;rw [e2];rfl
   | [],ha => exact ha.elim
   | [_],ha => exact ha.2.elim
   | _ :: _ :: _ :: _,ha => exact ha.2.2.elim
  ·cases hg
 ·cases hg
def aJM (c : Bool) : Tab:=fZ.add 80 (gLq c)
theorem aEO (c : Bool) : TabOk prog (aJM c):=eE.ad func80 (aIa c)
theorem aAX (c : Bool) (n : Nat) : aM prog (qG prog) (fun _ => ⟨fun _ => aJM c,fun _ => true,fun _ => none⟩) f46 60 [.v (.fl (q1 n))] = some ([wv n < FP.M,fV FP.M (wv n) = c],.one (.im (.bool c))):=by kernel_rfl
def aFy (c : Bool) : Tab:=(aJM c).add 46 (g1 vZ fun n => ([wv n < FP.M,fV FP.M (wv n) = c],.one (.im (.bool c))))
theorem aHi (c : Bool) : TabOk prog (aFy c):=(aEO c).ad func46 (cN (op:=fun n => ([wv n < FP.M,fV FP.M (wv n) = c],.one (.im (.bool c)))) dJ fun n hp args w ha => aD aG (fun _ _ => aEO c) (aH prog) func46 (aAX c n) hp ha)
def Vz : fQ
 | [.v (.fl l),.v (.fl m)] => match vZ l,vZ m with
  | some a,some b => some ([],.one (.im (.int .i64 (Go.Proofs.YtfnkbmlmgnadmaaGreat.bG (wv a) (wv b)))))
  | _,_ => none
 | _ => none
theorem Vy : ∀ cs pre r,Vz cs = some (pre,r) → aP pre → ∀ (args : List Value) (w : World),bK w cs args → Good prog 78 r args w:=by
 intro cs pre r hg hp args w ha;unfold Vz at hg;split at hg
 ·rename_i l m;split at hg
  ·rename_i a b h1 h2;cases hg;rw [BS ha,dJ l _ h1,dJ m _ h2];exact (R1.refCmp_calls _ _ _ _ _ _ _ _ (bM a) (bM b) w).mono fun e w' h => h
  ·cases hg
 ·cases hg
theorem Xk (a b : Nat) : aK .leq .i64 (Go.Proofs.YtfnkbmlmgnadmaaGreat.bG a b) 0 = some (.bool (decide (a ≤ b))):=by
 unfold Go.Proofs.YtfnkbmlmgnadmaaGreat.bG
 by_cases h : a = b
 ·rw [if_pos h,decide_eq_true (by omega)]; rfl
 ·rw [if_neg h]
  by_cases h2 : a < b
  ·rw [if_pos h2,decide_eq_true (by omega)]; rfl
  ·rw [if_neg h2,decide_eq_false (by omega)]; rfl
def gSm : fQ
 | [.v (.im (.bool i)),.v (.im (.bool l))] => some ([],.one (.im (.int .u8 (bif i then 1 else bif l then 2 else 3))))
 | _ => none
theorem aGs (i l : Bool) : aM prog (qG prog) (fun _ => ⟨fun _ => T0,fun _ => true,fun _ => none⟩) f22 60 [.v (.im (.bool i)),.v (.im (.bool l))] = some ([],.one (.im (.int .u8 (bif i then 1 else bif l then 2 else 3)))):=by cases i <;> cases l <;> kernel_rfl
theorem aHL : ∀ cs pre r,gSm cs = some (pre,r) → aP pre → ∀ (args : List Value) (w : World),bK w cs args → Good prog 22 r args w:=by
 intro cs pre r hg hp args w ha;unfold gSm at hg;split at hg
 ·rename_i i l;cases hg;exact aD aG (fun _ _ => dB _) (aH prog) func22 (aGs i l) trivial ha
 ·cases hg
def gLm : fQ
 | [.v (.im (.bool i))] => some ([],.one (.im (.int .u8 (bif i then 1 else 0))))
 | _ => none
theorem aGu (i : Bool) : aM prog (qG prog) (fun _ => ⟨fun _ => T0,fun _ => true,fun _ => none⟩) f25 60 [.v (.im (.bool i))] = some ([],.one (.im (.int .u8 (bif i then 1 else 0)))):=by cases i <;> kernel_rfl
theorem aIb : ∀ cs pre r,gLm cs = some (pre,r) → aP pre → ∀ (args : List Value) (w : World),bK w cs args → Good prog 25 r args w:=by
 intro cs pre r hg hp args w ha;unfold gLm at hg;split at hg
 ·rename_i i;cases hg;exact aD aG (fun _ _ => dB _) (aH prog) func25 (aGu i) trivial ha
 ·cases hg
def gRm : fQ
 | [.v (.im (.bool l))] => some ([],.one (.im (.int .u8 (bif l then 2 else 3))))
 | _ => none
theorem aGt (i : Bool) : aM prog (qG prog) (fun _ => ⟨fun _ => T0,fun _ => true,fun _ => none⟩) f42 60 [.v (.im (.bool i))] = some ([],.one (.im (.int .u8 (bif i then 2 else 3)))):=by cases i <;> kernel_rfl
theorem aHQ : ∀ cs pre r,gRm cs = some (pre,r) → aP pre → ∀ (args : List Value) (w : World),bK w cs args → Good prog 42 r args w:=by
 intro cs pre r hg hp args w ha;unfold gRm at hg;split at hg
 ·rename_i i;cases hg;exact aD aG (fun _ _ => dB _) (aH prog) func42 (aGt i) trivial ha
 ·cases hg
def aJK (k c : Bool) : Tab:=(((aFy c).add 45 (gCk k)).add 22 gSm).add 25 gLm
theorem aEM (k c : Bool) : TabOk prog (aJK k c):=(((aHi c).ad func45 (Wa Rt k)).ad func22 aHL).ad func25 aIb
theorem Bj (w : World) : cH prog (qY prog (x3 L3 W4 (fun _ => none) (fun _ => none))) w.heap.size w:=kQ aMC aMu w
def iK (T : Tab) : Nat → Cfg:=fun _ => ⟨fun _ => T,fun _ => true,fun _ => none⟩
def R3 : Tab3:=L3.add 50 aDe
def z8 : Nat → List At
 | 0 => []
 | n + 1 => .c (.int .u8 0) :: z8 n
def Mk (N : Nat) : Prop:=∃ e,∀ w : World,(Instr.makeSlice 29 (.int .i64 N) (.int .i64 N)).run prog w = .ok (.slice (some ⟨w.heap.size,0,none⟩) N N) (w.alloc (.cells (aC (z8 N)).toArray e))
theorem Lp : ∀ (s n : Nat),eQ (fun _ => [At.c (.int .u8 0)]) s n = z8 n
 | _,0 => rfl
 | s,n + 1 => congrArg (At.c (.int .u8 0) :: ·) (Lp (s + 1) n)
theorem aLo (N : Nat) (h : N < 1000) : Mk N:=by
 have h1:=RC (P:=prog) (t:=29) (e:=5) (z:=[At.c (.int .u8 0)]) (v:=.int .u8 0) (N:=N) (n:=1) (by8:=1) (by kernel_rfl) (by kernel_rfl) rfl rfl (by omega) (by omega) (by omega);rw [Lp] at h1;exact h1
def cfN (T : Tab) (s : Nat) : Nat → Cfg:=fun _ => ⟨fun _ => T,fun _ => true,fun n => bif Nat.beq n s then some (.bool true) else none⟩
theorem Nx (x y : Nat) (c : Bool) : iD prog (qY prog (x3 L3 W4 (fun _ => none) (fun _ => none))) (iK (aJK true c)) f18 80 [.v (.fl (LJ (x,y,true)))] = some ([(oE x y true).1 = 0,wv y < FP.M,fV FP.M (wv y) = c,1 < 4],⟨bm (wv x) 1,32,5,1,true,[],[.im (.int .i64 0)]⟩):=by kernel_rfl
theorem Ny (x y : Nat) (c : Bool) : iD prog (qY prog (x3 L3 W4 (fun _ => none) (fun _ => none))) (iK (aJK true c)) f18 80 [.v (.fl (LJ (x,y,false)))] = some ([(oE x y false).1 = 0,wv y < FP.M,fV FP.M (wv y) = c,(bif c then 2 else 3) < 4],⟨bm (wv x) (bif c then 2 else 3),32,5,1,true,[],[.im (.int .i64 0)]⟩):=by cases c <;> kernel_rfl
def aKz (c i : Bool) : Nat:=bif i then 1 else bif c then 2 else 3
theorem FS.ok.weak {r : FS} {w : World} {e : Ending} {w' : World} (h : r.ok w e w') {l : List At} (hl : aC l = aC r.l) : (⟨l,r.n,0,0,false,r.ante,r.post⟩ : FS).ok w e w':=by
 obtain ⟨b,cap,h1,h2,h3,h4,h5,h6,_⟩:=h;exact ⟨b,cap,h1,h2,h3,h4,by rw [hl]; exact h5,h6,fun h => by cases h⟩
def okP (c : Bool) (p : DE) : List Prop:=[(oE p.1 p.2.1 p.2.2).1 = 0,wv p.2.1 < FP.M,fV FP.M (wv p.2.1) = c]
theorem aKA (c : Bool) : (bif c then 2 else 3) < 4:=by cases c <;> decide
theorem aJr {x y : Nat} {i : Bool} (h : (oE x y i).1 ≠ 0) : aK .neq .i64 (oE x y i).1 0 = some (.bool true):=by
 show some (Value.bool ((oE x y i).1 != 0)) = _;rw [bne_iff_ne.2 h]
def gFS (pre : DE → List Prop) (o : DE → FS) : List CA → Option (List Prop × FS)
 | [.v (.fl l)] => match rg1 l with
  | some p => some (pre p,o p)
  | none => none
 | _ => none
theorem aIg {f : FuncId} {pre : DE → List Prop} {o : DE → FS} (h : ∀ p,aP (pre p) → ∀ (args : List Value) (w : World),bK w [.v (.fl (LJ p))] args → Calls prog f args.toArray w (fun e w' => (o p).ok w e w')) :
  ∀ cs ps r,gFS pre o cs = some (ps,r) → aP ps → ∀ (args : List Value) (w : World),bK w cs args → Calls prog f args.toArray w (fun e w' => r.ok w e w'):=by
 intro cs ps r hg hp args w ha;unfold gFS at hg;split at hg
 ·rename_i l;split at hg
  ·rename_i p hn;cases hg;refine h p hp args w ?_;rw [tD ha,yV l _ hn];exact ⟨rfl,trivial⟩
  ·cases hg
 ·cases hg
def u8? : At → Option Nat
 | .c (.int .u8 (.ofNat b)) => some b
 | _ => none
def kY : List At → Option (List Nat)
 | [] => some []
 | a :: r => match u8? a,kY r with | some x,some l => some (x :: l) | _,_ => none
theorem oH : ∀ {l : List At} {L : List Nat},kY l = some L → ∀ k,k < L.length → (aC l)[k]? = some (.int .u8 (Int.ofNat (L.getD k 0)))
 | [],L,h,k,hk => by cases h; exact absurd hk (by simp)
 | a :: r,L,h,k,hk => by
  unfold kY at h;split at h
  ·rename_i x l' h1 h2;cases h;have ha : a.cells = [.int .u8 (Int.ofNat x)]:=by
    unfold u8? at h1;split at h1
    ·cases h1; rfl
    ·cases h1
   show (a.cells ++ aC r)[k]? = _;rw [ha];cases k with
   | zero => rfl
   | succ k => exact oH h2 k (by simpa using hk)
  ·cases h
def L8 (L : List Nat) : Prop:=L.length = 32 ∧ ∀ k,L.getD k 0 < 256
def hv (L : List Nat) : Nat:=Go.Proofs.YtfnkbmlmgnadmaaGreat.jF (fun k => L.getD k 0) 0 32
def wl (N : Nat) : List At:=[.c (.int .u64 (Int.ofNat (fw N 0))),.c (.int .u64 (Int.ofNat (fw N 1))),.c (.int .u64 (Int.ofNat (fw N 2))),.c (.int .u64 (Int.ofNat (fw N 3)))]
def gRd : fQ
 | [c] => match RD c with
  | some (l,32) => (match kY l with | some L => some ([L8 (L.take 32)],.many [.fl (wl (hv (L.take 32))),.im (.int .i64 0)]) | none => none)
  | _ => none
 | _ => none
theorem Uy {L : List Nat} (h : L8 L) : hv L < 115792089237316195423570985008687907853269984665640564039457584007913129639936:=by
 have:=JN (B:=fun k => L.getD k 0) h.2 0 32;exact Nat.lt_of_lt_of_le this (by decide)
theorem JE {c : CA} {l : List At} {n : Nat} (h : RD c = some (l,n)) {w : World} {v : Value} (hc : c.ok w v) : ∃ b o m,v = .slice (some ⟨b,o,none⟩) n m ∧ b < w.heap.size ∧ w.rangeAt b o (aC l):=by
 cases c with
 | v x => cases h
 | s l' n' m =>
  cases h;obtain ⟨b,o,e,hb,hr⟩:=hc;exact ⟨b,o,m,e,hb,hr⟩
 | so l' n' =>
  cases h;obtain ⟨b,o,m,e,hb,hr⟩:=hc;exact ⟨b,o,m,e,hb,hr⟩
theorem aHR : ∀ cs pre r,gRd cs = some (pre,r) → aP pre → ∀ (args : List Value) (w : World),bK w cs args → Good prog 61 r args w:=by
 intro cs pre r hg hp args w ha;unfold gRd at hg;split at hg
 ·rename_i c;split at hg
  ·rename_i l hl;split at hg
   ·rename_i L hL;cases hg;have h8 : L8 (L.take 32):=hp.1;have hle : 32 ≤ L.length:=by have:=h8.1; rw [List.length_take] at this; omega
    have htk : ∀ k,k < 32 → (L.take 32).getD k 0 = L.getD k 0:=fun k hk => by rw [List.getD_eq_getElem?_getD,List.getElem?_take,if_pos hk,← List.getD_eq_getElem?_getD]
    match args,ha with
    | [v],ha =>
     obtain ⟨b,o,m,rfl,hb,hr⟩:=JE hl (by have:=ha; cases c <;> exact this.1);have h:=aBx b o m (fun k => (L.take 32).getD k 0) h8.2 w hb fun k hk => hr k _ (by have h:=oH hL k (by omega); rw [← htk k hk] at h; exact h)
     refine h.mono ?_
     rintro e w' ⟨s0,s1,s2,s3,c',rfl,hs,⟨h1,rfl⟩,hbl⟩
     obtain ⟨rfl,rfl,rfl,rfl⟩:=fB hs (Uy h8) h1;exact ⟨rfl,hbl⟩
    | [],ha => cases c <;> exact ha.elim
    | _ :: _ :: _,ha => cases c <;> exact ha.2.elim
   ·cases hg
  ·cases hg
 ·cases hg
def bL (B : Nat → Nat) : List At:=[.c (.int .u8 (Int.ofNat (B 0))),.c (.int .u8 (Int.ofNat (B 1))),.c (.int .u8 (Int.ofNat (B 2))),.c (.int .u8 (Int.ofNat (B 3))),.c (.int .u8 (Int.ofNat (B 4))),.c (.int .u8 (Int.ofNat (B 5))),.c (.int .u8 (Int.ofNat (B 6))),.c (.int .u8 (Int.ofNat (B 7))),.c (.int .u8 (Int.ofNat (B 8))),.c (.int .u8 (Int.ofNat (B 9))),.c (.int .u8 (Int.ofNat (B 10))),.c (.int .u8 (Int.ofNat (B 11))),.c (.int .u8 (Int.ofNat (B 12))),.c (.int .u8 (Int.ofNat (B 13))),.c (.int .u8 (Int.ofNat (B 14))),.c (.int .u8 (Int.ofNat (B 15))),.c (.int .u8 (Int.ofNat (B 16))),.c (.int .u8 (Int.ofNat (B 17))),.c (.int .u8 (Int.ofNat (B 18))),.c (.int .u8 (Int.ofNat (B 19))),.c (.int .u8 (Int.ofNat (B 20))),.c (.int .u8 (Int.ofNat (B 21))),.c (.int .u8 (Int.ofNat (B 22))),.c (.int .u8 (Int.ofNat (B 23))),.c (.int .u8 (Int.ofNat (B 24))),.c (.int .u8 (Int.ofNat (B 25))),.c (.int .u8 (Int.ofNat (B 26))),.c (.int .u8 (Int.ofNat (B 27))),.c (.int .u8 (Int.ofNat (B 28))),.c (.int .u8 (Int.ofNat (B 29))),.c (.int .u8 (Int.ofNat (B 30))),.c (.int .u8 (Int.ofNat (B 31)))]
def bN (B : Nat → Nat) : List Nat:=[B 0,B 1,B 2,B 3,B 4,B 5,B 6,B 7,B 8,B 9,B 10,B 11,B 12,B 13,B 14,B 15,B 16,B 17,B 18,B 19,B 20,B 21,B 22,B 23,B 24,B 25,B 26,B 27,B 28,B 29,B 30,B 31]
def AS : fQ
 | [.v (.im (.int .u8 (.ofNat m)))] => bif Nat.blt m 4 then some ([],.one (.im (.bool (Nat.beq m 2 || Nat.beq m 3)))) else none
 | _ => none
theorem UK : aM prog (qG prog) (fun _ => ⟨fun _ => T0,fun _ => true,fun _ => none⟩) f33 60 [.v (.im (.int .u8 0))] = some ([],.one (.im (.bool false))):=by kernel_rfl
theorem UJ : aM prog (qG prog) (fun _ => ⟨fun _ => T0,fun _ => true,fun _ => none⟩) f33 60 [.v (.im (.int .u8 1))] = some ([],.one (.im (.bool false))):=by kernel_rfl
theorem UI : aM prog (qG prog) (fun _ => ⟨fun _ => T0,fun _ => true,fun _ => none⟩) f33 60 [.v (.im (.int .u8 2))] = some ([],.one (.im (.bool true))):=by kernel_rfl
theorem UH : aM prog (qG prog) (fun _ => ⟨fun _ => T0,fun _ => true,fun _ => none⟩) f33 60 [.v (.im (.int .u8 3))] = some ([],.one (.im (.bool true))):=by kernel_rfl
theorem uQ : ∀ cs pre r,AS cs = some (pre,r) → aP pre → ∀ (args : List Value) (w : World),bK w cs args → Good prog 33 r args w:=by
 intro cs pre r hg hp args w ha;unfold AS at hg;split at hg
 ·rename_i m
  match m,hg with
  | 0,hg => cases hg; exact aD aG (fun _ _ => dB _) (aH prog) func33 UK trivial ha
  | 1,hg => cases hg; exact aD aG (fun _ _ => dB _) (aH prog) func33 UJ trivial ha
  | 2,hg => cases hg; exact aD aG (fun _ _ => dB _) (aH prog) func33 UI trivial ha
  | 3,hg => cases hg; exact aD aG (fun _ _ => dB _) (aH prog) func33 UH trivial ha
  | m + 4,hg =>
   have hb : Nat.blt (m + 4) 4 = false:=Bool.eq_false_iff.2 fun h => absurd (Nat.le_of_ble_eq_true h) (by omega)
   rw [hb] at hg;cases hg
 ·cases hg
def uY : Tab:=(T0.add 61 gRd).add 33 AS
theorem mW : TabOk prog uY:=((dB _).ad func61 aHR).ad func33 uQ
def xT (a m : Nat) : Ext:=x3 TE KL (assoc [(33,.int .u8 (Int.ofNat m)),(84,.int .u64 (Int.ofNat (4 * a % 18446744073709551616))),(85,.int .u64 (Int.ofNat (a % 4611686018427387904)))]) (fun i => bif Nat.beq i 54 then some (2,[.q 0,.q 0]) else none)
theorem Am (a m : Nat) (w : World) : cH prog (qY prog (xT a m)) w.heap.size w:=kQ (gX _) (gJ _) w
def aEf : Prop:=∃ e,∀ w : World,(Instr.makeSlice 61 (.int .i64 2) (.int .i64 2)).run prog w = .ok (.slice (some ⟨w.heap.size,0,none⟩) 2 2) (w.alloc (.cells (aC [.q 0,.q 0]).toArray e))
theorem JA : aEf :=
 RC (P:=prog) (t:=61) (e:=24) (z:=[.q 0]) (v:=.int .u64 0) (N:=2) (n:=4) (by8:=32) (by kernel_rfl) (by kernel_rfl) rfl (show aC [At.q 0] = List.replicate (aC [At.q 0]).length (Value.int .u64 0) from by kernel_rfl) (by omega) (by omega) (by omega)
theorem aAO (B : Nat → Nat) (c : Nat) : iD prog (qY prog (xT (fw (hv (bN B)) 3) 1)) (iK uY) f32 100 [.s (bL B) 32 c,.v (.im (.int .i64 1))] = some ([pC .shr 5 (.tmp 32) (.const (.int .u64 6)) (.int .u8 (Int.ofNat (B 0))) (.int .u64 6) (.int .u8 (Int.ofNat 1)),aEf,0 ≤ 32,32 ≤ c,0 < c,L8 (bN B),pC .shl 22 (.tmp 83) (.const (.int .u64 2)) (.int .u64 (Int.ofNat (fw (hv (bN B)) 3))) (.int .u64 2) (.int .u64 (Int.ofNat (4 * fw (hv (bN B)) 3 % 18446744073709551616))),pC .shr 22 (.tmp 84) (.const (.int .u64 2)) (.int .u64 (Int.ofNat (4 * fw (hv (bN B)) 3 % 18446744073709551616))) (.int .u64 2) (.int .u64 (Int.ofNat (fw (hv (bN B)) 3 % 4611686018427387904)))],⟨[.c (.int .u64 (Int.ofNat (fw (hv (bN B)) 0))),.c (.int .u64 (Int.ofNat (fw (hv (bN B)) 1))),.c (.int .u64 (Int.ofNat (fw (hv (bN B)) 2))),.c (.int .u64 (Int.ofNat (fw (hv (bN B)) 3 % 4611686018427387904))),.q 0],2,0,0,false,[.im (.int .u8 (Int.ofNat 1))],[.im (.int .i64 0)]⟩):=by kernel_rfl
theorem aAN (B : Nat → Nat) (c : Nat) : iD prog (qY prog (xT (fw (hv (bN B)) 3) 2)) (iK uY) f32 100 [.s (bL B) 32 c,.v (.im (.int .i64 1))] = some ([pC .shr 5 (.tmp 32) (.const (.int .u64 6)) (.int .u8 (Int.ofNat (B 0))) (.int .u64 6) (.int .u8 (Int.ofNat 2)),aEf,0 ≤ 32,32 ≤ c,0 < c,L8 (bN B),pC .shl 22 (.tmp 83) (.const (.int .u64 2)) (.int .u64 (Int.ofNat (fw (hv (bN B)) 3))) (.int .u64 2) (.int .u64 (Int.ofNat (4 * fw (hv (bN B)) 3 % 18446744073709551616))),pC .shr 22 (.tmp 84) (.const (.int .u64 2)) (.int .u64 (Int.ofNat (4 * fw (hv (bN B)) 3 % 18446744073709551616))) (.int .u64 2) (.int .u64 (Int.ofNat (fw (hv (bN B)) 3 % 4611686018427387904)))],⟨[.c (.int .u64 (Int.ofNat (fw (hv (bN B)) 0))),.c (.int .u64 (Int.ofNat (fw (hv (bN B)) 1))),.c (.int .u64 (Int.ofNat (fw (hv (bN B)) 2))),.c (.int .u64 (Int.ofNat (fw (hv (bN B)) 3 % 4611686018427387904))),.q 0],2,0,0,false,[.im (.int .u8 (Int.ofNat 2))],[.im (.int .i64 0)]⟩):=by kernel_rfl
theorem aAM (B : Nat → Nat) (c : Nat) : iD prog (qY prog (xT (fw (hv (bN B)) 3) 3)) (iK uY) f32 100 [.s (bL B) 32 c,.v (.im (.int .i64 1))] = some ([pC .shr 5 (.tmp 32) (.const (.int .u64 6)) (.int .u8 (Int.ofNat (B 0))) (.int .u64 6) (.int .u8 (Int.ofNat 3)),aEf,0 ≤ 32,32 ≤ c,0 < c,L8 (bN B),pC .shl 22 (.tmp 83) (.const (.int .u64 2)) (.int .u64 (Int.ofNat (fw (hv (bN B)) 3))) (.int .u64 2) (.int .u64 (Int.ofNat (4 * fw (hv (bN B)) 3 % 18446744073709551616))),pC .shr 22 (.tmp 84) (.const (.int .u64 2)) (.int .u64 (Int.ofNat (4 * fw (hv (bN B)) 3 % 18446744073709551616))) (.int .u64 2) (.int .u64 (Int.ofNat (fw (hv (bN B)) 3 % 4611686018427387904)))],⟨[.c (.int .u64 (Int.ofNat (fw (hv (bN B)) 0))),.c (.int .u64 (Int.ofNat (fw (hv (bN B)) 1))),.c (.int .u64 (Int.ofNat (fw (hv (bN B)) 2))),.c (.int .u64 (Int.ofNat (fw (hv (bN B)) 3 % 4611686018427387904))),.q 0],2,0,0,false,[.im (.int .u8 (Int.ofNat 3))],[.im (.int .i64 0)]⟩):=by kernel_rfl
theorem aAP (B : Nat → Nat) (c : Nat) : aM prog (qY prog (xT (fw (hv (bN B)) 3) 0)) (iK uY) f32 100 [.s (bL B) 32 c,.v (.im (.int .i64 1))] = some ([pC .shr 5 (.tmp 32) (.const (.int .u64 6)) (.int .u8 (Int.ofNat (B 0))) (.int .u64 6) (.int .u8 (Int.ofNat 0))],.many [.im (.int .u8 0),.im (.slice none 0 0),.im (.int .i64 44)]):=by kernel_rfl
def xv (N : Nat) : Nat:=N % 28948022309329048855892746252171976963317496166410141009864396001978282409984
theorem Av (N : Nat) : aC [.c (.int .u64 (Int.ofNat (fw N 0))),.c (.int .u64 (Int.ofNat (fw N 1))),.c (.int .u64 (Int.ofNat (fw N 2))),.c (.int .u64 (Int.ofNat (fw N 3 % 4611686018427387904))),.q 0] = aC [.q (xv N),.q 0]:=by
 have h0 : fw N 0 = fw (xv N) 0:=by
  show N / 1 % 18446744073709551616 = N % 28948022309329048855892746252171976963317496166410141009864396001978282409984 / 1 % 18446744073709551616;omega
 have h1 : fw N 1 = fw (xv N) 1:=by
  show N / 18446744073709551616 % 18446744073709551616 = N % 28948022309329048855892746252171976963317496166410141009864396001978282409984 / 18446744073709551616 % 18446744073709551616;omega
 have h2 : fw N 2 = fw (xv N) 2:=by
  show N / 340282366920938463463374607431768211456 % 18446744073709551616 = N % 28948022309329048855892746252171976963317496166410141009864396001978282409984 / 340282366920938463463374607431768211456 % 18446744073709551616;omega
 have h3 : fw N 3 % 4611686018427387904 = fw (xv N) 3:=by
  show N / 6277101735386680763835789423207666416102355444464034512896 % 18446744073709551616 % 4611686018427387904 = N % 28948022309329048855892746252171976963317496166410141009864396001978282409984 / 6277101735386680763835789423207666416102355444464034512896 % 18446744073709551616;omega
 rw [h0,h1,h2,h3];rfl
theorem tC {t : Nat} {x y : Operand} {a : Nat} (ha : a < 18446744073709551616) : pC .shl t x y (.int .u64 (Int.ofNat a)) (.int .u64 2) (.int .u64 (Int.ofNat (4 * a % 18446744073709551616))):=fun w => by
 simp only [Int.ofNat_eq_natCast];simp [eqGuard,binOp,go_sem];rw [show ∀ z : Int,IntKind.u64.wrap z = z % 18446744073709551616 from fun _ => rfl];omega
theorem tB {t : Nat} {x y : Operand} {a : Nat} (ha : a < 18446744073709551616) : pC .shr t x y (.int .u64 (Int.ofNat (4 * a % 18446744073709551616))) (.int .u64 2) (.int .u64 (Int.ofNat (a % 4611686018427387904))):=fun w => by
 simp only [Int.ofNat_eq_natCast];simp [eqGuard,binOp,go_sem];omega
theorem vE {R : Type} (K : CR R) {a b : R} (h : K.sub a b = K.zero) : a = b:=by
 have h1 : K.add (K.add a (K.neg b)) b = b:=by
  rw [show K.add a (K.neg b) = K.zero from h,K.zero_add]
 rw [K.add_assoc,K.neg_add,K.add_zero] at h1;exact h1
theorem iA {R : Type} (K : CR R) (a : R) : K.sub a a = K.zero:=K.add_neg a
set_option maxRecDepth 10000
theorem Pr {R : Type} (K : CR R) (a b n h k X : R) : (K.mul (K.mul (K.mul b h) k) (K.mul (K.mul b h) k)) = (K.add (K.add (K.add (K.add (K.sub (K.mul X X) a) (K.mul (K.mul (K.sub (K.mul X X) a) (K.add (K.mul X k) K.one)) (K.sub (K.mul X k) K.one))) (K.mul (K.neg (K.mul (K.mul k k) (K.sub (K.add (K.mul X X) (K.mul (K.add a n) h)) (K.add (K.mul a h) (K.mul a h))))) (K.sub (K.mul X X) (K.mul (K.add a n) h)))) (K.mul (K.neg (K.mul (K.mul (K.mul k k) a) (K.mul X X))) (K.sub (K.add h h) K.one))) (K.mul (K.neg (K.mul (K.mul h h) (K.mul k k))) (K.sub (K.mul n n) (K.add (K.mul a a) (K.mul b b))))) :=
 aQ K (cE K [a,b,n,h,k,X]) (.mul (.mul (.mul (.v 1) (.v 3)) (.v 4)) (.mul (.mul (.v 1) (.v 3)) (.v 4))) (.add (.add (.add (.add (.add (.mul (.v 5) (.v 5)) (.neg (.v 0))) (.mul (.mul (.add (.mul (.v 5) (.v 5)) (.neg (.v 0))) (.add (.mul (.v 5) (.v 4)) .one)) (.add (.mul (.v 5) (.v 4)) (.neg .one)))) (.mul (.neg (.mul (.mul (.v 4) (.v 4)) (.add (.add (.mul (.v 5) (.v 5)) (.mul (.add (.v 0) (.v 2)) (.v 3))) (.neg (.add (.mul (.v 0) (.v 3)) (.mul (.v 0) (.v 3))))))) (.add (.mul (.v 5) (.v 5)) (.neg (.mul (.add (.v 0) (.v 2)) (.v 3)))))) (.mul (.neg (.mul (.mul (.mul (.v 4) (.v 4)) (.v 0)) (.mul (.v 5) (.v 5)))) (.add (.add (.v 3) (.v 3)) (.neg .one)))) (.mul (.neg (.mul (.mul (.v 3) (.v 3)) (.mul (.v 4) (.v 4)))) (.add (.mul (.v 2) (.v 2)) (.neg (.add (.mul (.v 0) (.v 0)) (.mul (.v 1) (.v 1))))))) (by decide)
theorem Pq {R : Type} (K : CR R) (a b n h k X : R) : (K.add (K.mul X (K.mul (K.mul b h) k)) (K.mul (K.mul (K.mul b h) k) X)) = (K.add (K.add b (K.mul (K.mul b (K.mul X k)) (K.sub (K.add h h) K.one))) (K.mul b (K.sub (K.mul X k) K.one))) :=
 aQ K (cE K [a,b,n,h,k,X]) (.add (.mul (.v 5) (.mul (.mul (.v 1) (.v 3)) (.v 4))) (.mul (.mul (.mul (.v 1) (.v 3)) (.v 4)) (.v 5))) (.add (.add (.v 1) (.mul (.mul (.v 1) (.mul (.v 5) (.v 4))) (.add (.add (.v 3) (.v 3)) (.neg .one)))) (.mul (.v 1) (.add (.mul (.v 5) (.v 4)) (.neg .one)))) (by decide)
theorem Pp {R : Type} (K : CR R) (a b n h k X : R) : (K.mul (K.mul (K.add a n) h) (K.mul (K.sub a n) h)) = (K.add (K.neg (K.mul (K.mul b h) (K.mul b h))) (K.mul (K.neg (K.mul h h)) (K.sub (K.mul n n) (K.add (K.mul a a) (K.mul b b))))) :=
 aQ K (cE K [a,b,n,h,k,X]) (.mul (.mul (.add (.v 0) (.v 2)) (.v 3)) (.mul (.add (.v 0) (.neg (.v 2))) (.v 3))) (.add (.neg (.mul (.mul (.v 1) (.v 3)) (.mul (.v 1) (.v 3)))) (.mul (.neg (.mul (.v 3) (.v 3))) (.add (.mul (.v 2) (.v 2)) (.neg (.add (.mul (.v 0) (.v 0)) (.mul (.v 1) (.v 1))))))) (by decide)
theorem Po {R : Type} (K : CR R) {a b n h k X : R} (g1 : K.mul X X = K.mul (K.add a n) h) (g2 : K.mul n n = K.add (K.mul a a) (K.mul b b)) (g3 : K.add h h = K.one) (g4 : K.mul X k = K.one) :
  K.mul (K.mul (K.mul b h) k) (K.mul (K.mul b h) k) = K.sub (K.mul X X) a ∧ K.add (K.mul X (K.mul (K.mul b h) k)) (K.mul (K.mul (K.mul b h) k) X) = b:=by
 have d1:=iA K (K.mul (K.add a n) h);have z1 : K.sub (K.mul X X) (K.mul (K.add a n) h) = K.zero:=by rw [g1]; exact iA K _
 have z2 : K.sub (K.mul n n) (K.add (K.mul a a) (K.mul b b)) = K.zero:=by rw [g2]; exact iA K _
 have z3 : K.sub (K.add h h) K.one = K.zero:=by rw [g3]; exact iA K _
 have z4 : K.sub (K.mul X k) K.one = K.zero:=by rw [g4]; exact iA K _
 constructor
 ·rw [Pr K a b n h k X,z1,z2,z3,z4];simp only [K.mul_zero,K.add_zero]
 ·rw [Pq K a b n h k X,z3,z4];simp only [K.mul_zero,K.add_zero]
theorem Ix {R : Type} (K : CR R) {a b n h : R} (g2 : K.mul n n = K.add (K.mul a a) (K.mul b b)) : K.mul (K.mul (K.add a n) h) (K.mul (K.sub a n) h) = K.neg (K.mul (K.mul b h) (K.mul b h)):=by
 have z2 : K.sub (K.mul n n) (K.add (K.mul a a) (K.mul b b)) = K.zero:=by rw [g2]; exact iA K _
 rw [Pp K a b n h n n,z2,K.mul_zero,K.add_zero]
theorem aEw {R : Type} {K : CR R} (hF : Fld K) {a b : R} (h : K.mul a a = K.mul b b) : a = b ∨ a = K.neg b:=by
 have h1 : K.mul (K.sub a b) (K.add a b) = K.zero:=by
  have : K.mul (K.sub a b) (K.add a b) = K.sub (K.mul a a) (K.mul b b) :=
   aQ K (cE K [a,b]) (.mul (.add (.v 0) (.neg (.v 1))) (.add (.v 0) (.v 1))) (.add (.mul (.v 0) (.v 0)) (.neg (.mul (.v 1) (.v 1)))) (by decide)
  rw [this,h,iA]
 by_cases h2 : K.sub a b = K.zero
 ·exact Or.inl (vE K h2)
 ·refine Or.inr ?_;have h3:=hF.zd h1 h2;refine vE K ?_;show K.add a (K.neg (K.neg b)) = K.zero;rw [K.neg_neg];exact h3
theorem aDy : aY 5694840236247301970 7340967054546858659 7931984006246061591 871749566700742666 ∧ aA 5694840236247301970 7340967054546858659 7931984006246061591 871749566700742666 + aA 5694840236247301970 7340967054546858659 7931984006246061591 871749566700742666 = FP.M / 2 + 1:=⟨by unfold aY; decide,by kernel_rfl⟩
theorem Iy {A : Nat} (h : A ^ (FP.M / 2) % FP.M = 1 ∨ A = 0) : A ^ aA 5694840236247301970 7340967054546858659 7931984006246061591 871749566700742666 % FP.M * (A ^ aA 5694840236247301970 7340967054546858659 7931984006246061591 871749566700742666 % FP.M) % FP.M = A % FP.M:=by
 rw [← Nat.mul_mod,← Nat.pow_add,aDy.2,Nat.pow_succ,Nat.mul_mod]
 rcases h with h | h
 ·rw [h,Nat.one_mul,Nat.mod_mod]
 ·subst h; rw [Nat.zero_mod,Nat.mul_zero,Nat.zero_mod]
def cP (x : Fq) : Prop:=∃ V : Fq,F1.mul V V = x
def fD (x : Fq) : Bool:=fV FP.M x.1
theorem hM : FP.M = 21888242871839275222246405745257275088696311157297823662689037894645226208583:=by decide
theorem Tm (x : Fq) : (F1.neg x).1 = (0 + FP.M - x.1) % FP.M:=rfl
theorem sE {x : Fq} (h : x.1 ≠ 0) : (F1.neg x).1 = FP.M - x.1:=by
 have:=x.2;rw [Tm,Nat.zero_add,Nat.mod_eq_of_lt (by omega)]
theorem oW {x : Fq} (h : x.1 ≠ 0) : fD x = true ↔ x.1 ≤ FP.M - x.1:=by
 have:=x.2;unfold fD fV;rw [decide_eq_true_iff,Nat.zero_add,Nat.mod_eq_of_lt (show FP.M - x.1 < FP.M by omega)]
theorem jZ : fD F1.zero = true:=by
 unfold fD fV;exact decide_eq_true (Nat.zero_le _)
theorem xG {x : Fq} (h : x.1 = 0) : x = F1.zero:=Fin.ext h
theorem Ub (x : Fq) : fD x = true ∨ fD (F1.neg x) = true:=by
 by_cases h : x.1 = 0
 ·rw [xG h]; exact Or.inl jZ
 ·have h2:=x.2;have hn : (F1.neg x).1 ≠ 0:=by rw [sE h]; omega
  rw [oW h,oW hn,sE h];omega
theorem AE {x : Fq} (h : fD x = true) (h' : fD (F1.neg x) = true) : x = F1.zero:=by
 by_cases h0 : x.1 = 0
 ·exact xG h0
 ·have h2:=x.2;have hn : (F1.neg x).1 ≠ 0:=by rw [sE h0]; omega
  rw [oW h0] at h;rw [oW hn,sE h0] at h';have:=hM;omega
theorem mI {x : Fq} (h : fD x = false) : fD (F1.neg x) = true:=(Ub x).resolve_left (by rw [h]; simp)
theorem xC (x : Fq) : cP x ↔ pI FP.M x.1 ≠ -1:=by
 constructor
 ·rintro ⟨V,rfl⟩
  show pI FP.M (V.1 * V.1 % FP.M) ≠ -1;unfold pI
  by_cases h : V.1 = 0
  ·rw [h,Nat.zero_mul,Nat.zero_mod,if_pos rfl]; decide
  ·split
   ·decide
   ·rw [if_pos (aHv AY (by decide) (by omega) V.2)]; decide
 ·intro h;have hs : x.1 ^ (FP.M / 2) % FP.M = 1 ∨ x.1 = 0:=by
   unfold pI at h
   by_cases h0 : x.1 = 0
   ·exact Or.inr h0
   ·rw [if_neg h0] at h
    by_cases h1 : x.1 ^ (FP.M / 2) % FP.M = 1
    ·exact Or.inl h1
    ·rw [if_neg h1] at h; exact absurd rfl h
  refine ⟨⟨x.1 ^ aA 5694840236247301970 7340967054546858659 7931984006246061591 871749566700742666 % FP.M,Nat.mod_lt _ dC⟩,Fin.ext ?_⟩;exact (Iy hs).trans (Nat.mod_eq_of_lt x.2)
theorem IW (x : Fq) : ¬ cP x ↔ pI FP.M x.1 = -1:=by rw [xC]; exact Decidable.not_not
theorem aLB (a b : Fq) : pI FP.M (F1.mul a b).1 = pI FP.M a.1 * pI FP.M b.1:=aCM AY (by decide) (by decide) a.2 b.2
theorem Us {a b : Fq} (ha : ¬ cP a) (hb : ¬ cP b) : cP (F1.mul a b):=by
 rw [IW] at ha hb;rw [xC,aLB,ha,hb];decide
theorem aCy : ¬ cP (F1.neg F1.one):=fun ⟨V,h⟩ => XY V h
theorem QY (x : Fq) : F1.mul (F1.neg F1.one) x = F1.neg x:=by rw [F1.neg_mul,F1.one_mul]
theorem jN {x : Fq} (h : ¬ cP x) : cP (F1.neg x):=by rw [← QY]; exact Us aCy h
theorem yI {x : Fq} (hx : x ≠ F1.zero) (h : cP x) : ¬ cP (F1.neg x):=by
 rintro ⟨W,hW⟩
 obtain ⟨V,rfl⟩:=h;have hV : V ≠ F1.zero:=fun e => hx (by rw [e,F1.mul_zero])
 obtain ⟨t,ht⟩:=Xc RT hV (show F1.mul W W = F1.mul (F1.neg F1.one) (F1.mul V V) by rw [hW,QY]);exact XY t ht
theorem sH : cP F1.zero:=⟨F1.zero,F1.mul_zero _⟩
open Classical in
def cZ (x : Fq) : Fq:=if h : ∃ V : Fq,F1.mul V V = x ∧ fD V = true then Classical.choose h else F1.zero
theorem eJ {x : Fq} (h : cP x) : F1.mul (cZ x) (cZ x) = x ∧ fD (cZ x) = true:=by
 have h' : ∃ V : Fq,F1.mul V V = x ∧ fD V = true:=by
  obtain ⟨V,rfl⟩:=h
  rcases Ub V with l | l
  ·exact ⟨V,rfl,l⟩
  ·exact ⟨F1.neg V,by rw [F1.neg_mul,F1.mul_neg,F1.neg_neg],l⟩
 unfold cZ;rw [dif_pos h'];exact Classical.choose_spec h'
theorem kB {x V : Fq} (h : F1.mul V V = x) (l : fD V = true) : cZ x = V:=by
 obtain ⟨h1,h2⟩:=eJ ⟨V,h⟩
 rcases aEw RT (h1.trans h.symm) with e | e
 ·exact e
 ·have l':=h2;rw [e] at l';have hz:=AE l l';rw [e,hz,bP]
theorem lO : cZ F1.zero = F1.zero:=kB (F1.mul_zero _) jZ
theorem kC {x : Fq} (h : cP x) (hx : x ≠ F1.zero) : cZ x ≠ F1.zero:=fun e => hx (by rw [← (eJ h).1,e,F1.mul_zero])
def wH (r : Q2) : Prop:=(r.2 = F1.zero → fD r.1 = true) ∧ (r.2 ≠ F1.zero → fD r.2 = true)
def fW (x : Q2) : Prop:=∃ r : Q2,F2.mul r r = x
open Classical in
def rt (x : Q2) : Q2:=if h : ∃ r : Q2,F2.mul r r = x ∧ wH r then Classical.choose h else F2.zero
theorem Kf {r s : Q2} (h : F2.mul r r = F2.mul s s) (hr : wH r) (hs : wH s) : r = s:=by
 rcases aEw aIx h with e | e
 ·exact e
 ·have e1 : r.1 = F1.neg s.1:=congrArg Prod.fst e;have e2 : r.2 = F1.neg s.2:=congrArg Prod.snd e
  by_cases hz : s.2 = F1.zero
  ·have hz' : r.2 = F1.zero:=by rw [e2,hz,bP]
   have l1:=hr.1 hz';rw [e1] at l1;have h1:=AE (hs.1 hz) l1;exact Prod.ext (by rw [e1,h1,bP]) (by rw [hz',hz])
  ·have hz' : r.2 ≠ F1.zero:=fun h => hz (by rw [← F1.neg_neg s.2,← e2,h,bP])
   have l1:=hr.2 hz';rw [e2] at l1;exact absurd (AE (hs.2 hz) l1) hz
theorem vG {x r : Q2} (h : F2.mul r r = x) (hl : wH r) : rt x = r:=by
 have h' : ∃ r : Q2,F2.mul r r = x ∧ wH r:=⟨r,h,hl⟩
 unfold rt;rw [dif_pos h'];have hs:=Classical.choose_spec h';exact Kf (hs.1.trans h.symm) hs.2 hl
theorem uK (r : Q2) : F2.mul r r = (F1.sub (F1.mul r.1 r.1) (F1.mul r.2 r.2),F1.add (F1.mul r.1 r.2) (F1.mul r.2 r.1)):=by
 refine Prod.ext ?_ rfl;show F1.add (F1.mul r.1 r.1) (F1.mul (F1.neg F1.one) (F1.mul r.2 r.2)) = F1.add (F1.mul r.1 r.1) (F1.neg (F1.mul r.2 r.2));rw [F1.neg_mul,F1.one_mul]
theorem xA (r : Q2) : F2.mul (F2.neg r) (F2.neg r) = F2.mul r r:=by rw [F2.neg_mul,F2.mul_neg,F2.neg_neg]
theorem jT (r : Q2) : F2.sub F2.zero r = F2.neg r:=F2.zero_add _
def hf : Fq:=dZ (fm 2)
theorem iY : fm 2 ≠ F1.zero:=by decide
theorem JO : F1.add hf hf = F1.one:=by
 have h:=kD iY;have h2 : fm 2 = F1.add F1.one F1.one:=by decide
 rw [← h];unfold hf
 conv => rhs; rw [h2]
 rw [F1.add_mul,F1.one_mul,← h2]
def rr (x : Q2) (s : Fq) : Q2:=(cZ s,F1.mul (F1.mul x.2 hf) (dZ (cZ s)))
theorem Bg {x : Q2} {n s : Fq} (hn : F1.mul n n = fR x) (hs : s = F1.mul (F1.add x.1 n) hf) (hq : cP s) (h0 : s ≠ F1.zero) : F2.mul (rr x s) (rr x s) = x:=by
 have h1:=(eJ hq).1;have h4:=kD (kC hq h0);obtain ⟨e1,e2⟩:=Po F1 (a:=x.1) (b:=x.2) (n:=n) (h:=hf) (k:=dZ (cZ s)) (X:=cZ s) (h1.trans hs) hn JO h4;rw [uK];refine Prod.ext ?_ e2;show F1.sub (F1.mul (cZ s) (cZ s)) (F1.mul (F1.mul (F1.mul x.2 hf) (dZ (cZ s))) (F1.mul (F1.mul x.2 hf) (dZ (cZ s)))) = x.1;rw [e1];exact aQ F1 (cE F1 [F1.mul (cZ s) (cZ s),x.1]) (.add (.v 0) (.neg (.add (.v 0) (.neg (.v 1))))) (.v 1) (by decide)
theorem aFa : hf ≠ F1.zero:=fun e => by
 have:=JO;rw [e,F1.add_zero] at this;exact SX this.symm
theorem YB {a b : Fq} (ha : a ≠ F1.zero) (hb : b ≠ F1.zero) : F1.mul a b ≠ F1.zero:=fun e => hb (RT.zd e ha)
theorem Tn {a : Fq} (ha : a ≠ F1.zero) : F1.neg a ≠ F1.zero:=fun e => ha (by rw [← F1.neg_neg a,e,bP])
theorem GM {x : Q2} {n : Fq} (hn : F1.mul n n = fR x) (hx : x.2 ≠ F1.zero) : F1.mul (F1.add x.1 n) hf ≠ F1.zero ∧ F1.mul (F1.sub x.1 n) hf ≠ F1.zero ∧ (¬ cP (F1.mul (F1.add x.1 n) hf) → cP (F1.mul (F1.sub x.1 n) hf)):=by
 have hp:=Ix F1 (a:=x.1) (b:=x.2) (n:=n) (h:=hf) hn;have hb : F1.mul (F1.mul x.2 hf) (F1.mul x.2 hf) ≠ F1.zero:=YB (YB hx aFa) (YB hx aFa);have hne:=Tn hb;rw [← hp] at hne;refine ⟨fun e => hne (by rw [e,F1.zero_mul]),fun e => hne (by rw [e,F1.mul_zero]),fun h1 => Classical.byContradiction fun h2 => ?_⟩;have h3:=Us h1 h2;rw [hp] at h3;exact yI hb ⟨_,rfl⟩ h3
theorem rr2 {x : Q2} {s : Fq} (hx : x.2 ≠ F1.zero) (h : F2.mul (rr x s) (rr x s) = x) : (rr x s).2 ≠ F1.zero:=fun e => hx (by
 have:=congrArg Prod.snd h;rw [uK] at this;rw [← this];show F1.add (F1.mul _ (rr x s).2) (F1.mul (rr x s).2 _) = F1.zero;rw [e,F1.mul_zero,F1.zero_mul,F1.add_zero])
theorem nK {x r : Q2} (h : F2.mul r r = x) (hr : r.2 ≠ F1.zero) : (fD r.2 = true → rt x = r) ∧ (fD r.2 = false → rt x = F2.neg r):=by
 refine ⟨fun l => vG h ⟨fun e => absurd e hr,fun _ => l⟩,fun l => vG ((xA r).trans h) ⟨fun e => ?_,fun _ => mI l⟩⟩;exact absurd (show F1.neg r.2 = F1.zero from e) (Tn hr)
theorem Tk {x : Q2} (h : ¬ cP (fR x)) : ¬ fW x:=fun ⟨r,hr⟩ => h ⟨fR r,by rw [← IX,hr]⟩
theorem oR (a : Fq) : (cP a → rt (a,F1.zero) = (cZ a,F1.zero)) ∧ (¬ cP a → rt (a,F1.zero) = (F1.zero,cZ (F1.neg a))) ∧ fW (a,F1.zero):=by
 have k1 : cP a → F2.mul (cZ a,F1.zero) (cZ a,F1.zero) = (a,F1.zero):=fun h => by
  rw [uK];refine Prod.ext ?_ ?_
  ·show F1.sub (F1.mul (cZ a) (cZ a)) (F1.mul F1.zero F1.zero) = a;rw [(eJ h).1,F1.mul_zero];show F1.add a (F1.neg F1.zero) = a;rw [bP,F1.add_zero]
  ·show F1.add (F1.mul _ F1.zero) (F1.mul F1.zero _) = F1.zero;rw [F1.mul_zero,F1.zero_mul,F1.add_zero]
 have k2 : ¬ cP a → F2.mul (F1.zero,cZ (F1.neg a)) (F1.zero,cZ (F1.neg a)) = (a,F1.zero):=fun h => by
  rw [uK];refine Prod.ext ?_ ?_
  ·show F1.sub (F1.mul F1.zero F1.zero) (F1.mul (cZ (F1.neg a)) (cZ (F1.neg a))) = a;rw [(eJ (jN h)).1,F1.mul_zero];show F1.add F1.zero (F1.neg (F1.neg a)) = a;rw [F1.neg_neg,F1.zero_add]
  ·show F1.add (F1.mul F1.zero _) (F1.mul _ F1.zero) = F1.zero;rw [F1.mul_zero,F1.zero_mul,F1.add_zero]
 have l1 : cP a → wH (cZ a,F1.zero):=fun h => by
  have h2:=(eJ h).2;generalize cZ a = u at h2 ⊢;exact ⟨fun _ => h2,fun e => (e rfl).elim⟩
 have l2 : ¬ cP a → wH (F1.zero,cZ (F1.neg a)):=fun h => by
  have h2:=(eJ (jN h)).2;generalize cZ (F1.neg a) = u at h2 ⊢;exact ⟨fun _ => jZ,fun _ => h2⟩
 refine ⟨fun h => vG (k1 h) (l1 h),fun h => vG (k2 h) (l2 h),?_⟩
 by_cases h : cP a
 ·exact ⟨_,k1 h⟩
 ·exact ⟨_,k2 h⟩
end Go.Proofs.YtfnkbmlmgnadmaaGreat.Ex
namespace Go.Proofs.YtfnkbmlmgnadmaaGreat
open Go.Proofs.Tryz
section
variable {P : Program} {ops : Array Oper} {Q : Exit → Act → World → Prop} {md : Region.Mode} {S : World → Prop} {L : Nat}
end
open Go.RowKit
set_option maxHeartbeats 4000000 in
theorem Pm (f : Int) (F : FC) (hf : FieldIs f F) (a0 a1 a2 a3 : Nat) (ha : aY a0 a1 a2 a3) (hl : uO F.M (aA a0 a1 a2 a3) = -1) (w : World) :
  Calls prog 72 #[.int .i64 f,.agg #[.int .u64 a0,.int .u64 a1,.int .u64 a2,.int .u64 a3]] w (fun e w' => ∃ s0 s1 s2 s3 : Nat,e = .returned (.tuple #[.agg #[.int .u64 s0,.int .u64 s1,.int .u64 s2,.int .u64 s3],.int .i64 23]) ∧ aY s0 s1 s2 s3 ∧ aA s0 s1 s2 s3 = 0 ∧ Below w.heap.size w w'):=by
 go_enter func72,ntmps72
 go_wp2_with fail;have HM:=Lib.hid (((Mem.nil w).new (w.heap.size) a0 a1 a2 a3 24 (by simp)).new (w.heap.size + 1) 0 0 0 0 24 (by simp));refine (yU f F hf a0 a1 a2 a3 ha _).mono ?_
 rintro e w1 ⟨rfl,hbl⟩
 have HM':=Lib.hid (HM.out.on hbl);clear hbl;clear HM;have HM:=HM';clear HM';rw [hl];have kr:=HM.out.row (b:=w.heap.size + 1) (c0:=0) (c1:=0) (c2:=0) (c3:=0) (by simp);have y0:=kr.c0; have y1:=kr.c1; have y2:=kr.c2; have y3:=kr.c3; have yf:=kr.fr;clear kr;have yl:=HM.out.lt (b:=w.heap.size + 1) (c0:=0) (c1:=0) (c2:=0) (c3:=0) (by simp);clear hl;go_wp2_with fail;refine bodyPost_ret (v:=.tuple #[.agg #[.int .u64 (0 : Nat),.int .u64 (0 : Nat),.int .u64 (0 : Nat),.int .u64 (0 : Nat)],.int .i64 23]) (by simp [results,results72,go_sem, *]) rfl ?_;refine ⟨_,_,_,_,rfl,vW,rfl,?_⟩;exact aL HM.out.1 (by omega) 0 0 0 0
theorem Wx : aY 5694840236247301970 7340967054546858659 7931984006246061591 871749566700742666 ∧ aA 5694840236247301970 7340967054546858659 7931984006246061591 871749566700742666 + aA 5694840236247301970 7340967054546858659 7931984006246061591 871749566700742666 = FP.M / 2 + 1:=⟨by unfold aY; decide,by kernel_rfl⟩
theorem Pv {A : Nat} (h : A ^ (FP.M / 2) % FP.M = 1 ∨ A = 0) : A ^ aA 5694840236247301970 7340967054546858659 7931984006246061591 871749566700742666 % FP.M * (A ^ aA 5694840236247301970 7340967054546858659 7931984006246061591 871749566700742666 % FP.M) % FP.M = A % FP.M:=by
 rw [← Nat.mul_mod,← Nat.pow_add,Wx.2,Nat.pow_succ,Nat.mul_mod]
 rcases h with h | h
 ·rw [h,Nat.one_mul,Nat.mod_mod]
 ·subst h; rw [Nat.zero_mod,Nat.mul_zero,Nat.zero_mod]
set_option maxHeartbeats 4000000 in
theorem WX (a0 a1 a2 a3 : Nat) (ha : aY a0 a1 a2 a3) (la : aA a0 a1 a2 a3 < FP.M) (hs : aA a0 a1 a2 a3 ^ (FP.M / 2) % FP.M = 1 ∨ aA a0 a1 a2 a3 = 0) (w : World) :
  Calls prog 72 #[.int .i64 1,.agg #[.int .u64 a0,.int .u64 a1,.int .u64 a2,.int .u64 a3]] w (fun e w' => ∃ s0 s1 s2 s3 : Nat,e = .returned (.tuple #[.agg #[.int .u64 s0,.int .u64 s1,.int .u64 s2,.int .u64 s3],.int .i64 0]) ∧ aY s0 s1 s2 s3 ∧ aA s0 s1 s2 s3 * aA s0 s1 s2 s3 % FP.M = aA a0 a1 a2 a3 ∧ aA s0 s1 s2 s3 < FP.M ∧ fV FP.M (aA s0 s1 s2 s3) = true ∧ Below w.heap.size w w'):=by
 have hf : FieldIs 1 FP:=Or.inl ⟨rfl,rfl⟩;have hok:=hf.ok;have hpos:=hok.pos;have HSq:=Lib.hid hs;have hlv : uO FP.M (aA a0 a1 a2 a3) = 0 ∨ uO FP.M (aA a0 a1 a2 a3) = 1:=by
  unfold uO
  rcases hs with h | h
  ·right; rw [if_neg (by rw [h]; decide),if_pos h]
  ·left; rw [if_pos (by rw [h,Nat.zero_pow (by decide)]; rfl)]
 clear hs
 go_enter func72,ntmps72
 go_wp2_with fail;have HM:=Lib.hid (((Mem.nil w).new (w.heap.size) a0 a1 a2 a3 24 (by simp)).new (w.heap.size + 1) 0 0 0 0 24 (by simp));refine (yU 1 FP hf a0 a1 a2 a3 ha _).mono ?_
 rintro e w1 ⟨rfl,hbl⟩
 have HM':=Lib.hid (HM.out.on hbl);clear hbl;clear HM;have HM:=HM';clear HM';generalize hlg : uO _ _ = lv at *;have hll : decide (lv < 0) = false:=by rcases hlv with h | h <;> subst h <;> rfl
 clear hlv hlg;have kr:=HM.out.row (b:=w.heap.size) (c0:=a0) (c1:=a1) (c2:=a2) (c3:=a3) (by simp);have x0:=kr.c0; have x1:=kr.c1; have x2:=kr.c2; have x3:=kr.c3;clear kr;have xl:=HM.out.lt (b:=w.heap.size) (c0:=a0) (c1:=a1) (c2:=a2) (c3:=a3) (by simp);have gxl : w.heap.size + 1 < w1.heap.size:=HM.out.lt (b:=w.heap.size + 1) (c0:=0) (c1:=0) (c2:=0) (c3:=0) (by simp);go_wp2_with fail;refine (jX 1 FP hf a0 a1 a2 a3 5694840236247301970 7340967054546858659 7931984006246061591 871749566700742666 ha Wx.1 _).mono ?_
 rintro e w2 ⟨s0,s1,s2,s3,rfl,hs,hv,hbl⟩
 have HVs:=Lib.hid (show aA s0 s1 s2 s3 * aA s0 s1 s2 s3 % FP.M = aA a0 a1 a2 a3 ∧ aA s0 s1 s2 s3 < FP.M by rw [hv]; exact ⟨(Pv HSq.out).trans (Nat.mod_eq_of_lt la),Nat.mod_lt _ hpos⟩);have HM':=Lib.hid ((HM.out.new w1.heap.size 0 0 0 0 24 rfl).on hbl);clear hv hbl x0 x1 x2 x3 xl;clear HM;have HM:=HM';clear HM';have kr:=HM.out.row (b:=w1.heap.size) (c0:=0) (c1:=0) (c2:=0) (c3:=0) (by simp);have x0:=kr.c0; have x1:=kr.c1; have x2:=kr.c2; have x3:=kr.c3; have xf:=kr.fr;clear kr;have xl:=HM.out.lt (b:=w1.heap.size) (c0:=0) (c1:=0) (c2:=0) (c3:=0) (by simp);have HM':=Lib.hid (HM.out.put s0 s1 s2 s3 (by omega) (by intro r hr; simp at hr; rcases hr with rfl | rfl <;> simp <;> omega));clear HM;have HX:=HM'.out;unfold set4 at HX;clear HM';have HM:=Lib.hid HX;clear HX;have HLs:=HVs.out.2;go_wp2_with fail;refine (ID 1 FP hf s0 s1 s2 s3 hs HVs.out.2 _).mono ?_
 rintro e w3 ⟨rfl,hbl⟩
 have HM':=Lib.hid (HM.out.on hbl);clear hbl x0 x1 x2 x3 xf xl;clear HM;have HM:=HM';clear HM';have kr:=HM.out.row (b:=w1.heap.size) (c0:=s0) (c1:=s1) (c2:=s2) (c3:=s3) (by simp);have x0:=kr.c0; have x1:=kr.c1; have x2:=kr.c2; have x3:=kr.c3; have xf:=kr.fr;clear kr;have xl:=HM.out.lt (b:=w1.heap.size) (c0:=s0) (c1:=s1) (c2:=s2) (c3:=s3) (by simp);have kr:=HM.out.row (b:=w.heap.size + 1) (c0:=0) (c1:=0) (c2:=0) (c3:=0) (by simp);have y0:=kr.c0; have y1:=kr.c1; have y2:=kr.c2; have y3:=kr.c3; have yf:=kr.fr;clear kr;have yl:=HM.out.lt (b:=w.heap.size + 1) (c0:=0) (c1:=0) (c2:=0) (c3:=0) (by simp);cases hlo : fV FP.M (aA s0 s1 s2 s3) with
 | true =>
  have HLo:=Lib.hid hlo;clear hlo;go_wp2_with fail;refine bodyPost_ret (v:=.tuple #[.agg #[.int .u64 s0,.int .u64 s1,.int .u64 s2,.int .u64 s3],.int .i64 0]) (by simp [results,results72,go_sem, *]) rfl ?_;refine ⟨_,_,_,_,rfl,hs,HVs.out.1,HVs.out.2,HLo.out,?_⟩;exact aL HM.out.1 (by omega) _ _ _ _
 | false =>
  have HLo:=Lib.hid (mI hok HVs.out.2 hlo);clear hlo;go_wp2_with fail;refine (mC 1 FP hf s0 s1 s2 s3 hs _).mono ?_
  rintro e w4 ⟨n0,n1,n2,n3,rfl,hn,hv,hbl⟩
  have HVn:=Lib.hid (show aA n0 n1 n2 n3 = (0 + FP.M - aA s0 s1 s2 s3) % FP.M by rw [hv,Nat.mod_eq_of_lt HVs.out.2,Nat.zero_add]);have HM':=Lib.hid (HM.out.on hbl);clear hv hbl x0 x1 x2 x3 xf xl y0 y1 y2 y3 yf yl;clear HM;have HM:=HM';clear HM';have kr:=HM.out.row (b:=w1.heap.size) (c0:=s0) (c1:=s1) (c2:=s2) (c3:=s3) (by simp);have x0:=kr.c0; have x1:=kr.c1; have x2:=kr.c2; have x3:=kr.c3; have xf:=kr.fr;clear kr;have xl:=HM.out.lt (b:=w1.heap.size) (c0:=s0) (c1:=s1) (c2:=s2) (c3:=s3) (by simp);have kr:=HM.out.row (b:=w.heap.size + 1) (c0:=0) (c1:=0) (c2:=0) (c3:=0) (by simp);have y0:=kr.c0; have y1:=kr.c1; have y2:=kr.c2; have y3:=kr.c3; have yf:=kr.fr;clear kr;have yl:=HM.out.lt (b:=w.heap.size + 1) (c0:=0) (c1:=0) (c2:=0) (c3:=0) (by simp);have ne1 : ¬ w.heap.size + 1 = w1.heap.size:=by omega
  have ne1' : ¬ w1.heap.size = w.heap.size + 1:=by omega
  go_wp2_with fail;refine bodyPost_ret (v:=.tuple #[.agg #[.int .u64 n0,.int .u64 n1,.int .u64 n2,.int .u64 n3],.int .i64 0]) (by simp [results,results72,go_sem, *]) rfl ?_;refine ⟨_,_,_,_,rfl,hn,by rw [HVn.out,HLo.out.1]; exact HVs.out.1,by rw [HVn.out]; exact HLo.out.2.1,by rw [HVn.out]; exact HLo.out.2.2,?_⟩;exact aL (aL HM.out.1 (by omega) _ _ _ _) (by omega) _ _ _ _
end Go.Proofs.YtfnkbmlmgnadmaaGreat
