/- Pu14 -/
import Derived.Deep.RegionWith
import Derived.Test.YtfnkbmlmgnadmaaGreatPu13
import Derived.Test.YtfnkbmlmgnadmaaGreatPu12
import Derived.Test.YtfnkbmlmgnadmaaGreatPu09
import Derived.Test.YtfnkbmlmgnadmaaGreatPu00
import Derived.Test.YtfnkbmlmgnadmaaGreatPu03
import Derived.Test.YtfnkbmlmgnadmaaGreatPu07
import Derived.Test.YtfnkbmlmgnadmaaGreatPu08
import Derived.Test.YtfnkbmlmgnadmaaGreatPu10
import Derived.Test.YtfnkbmlmgnadmaaGreatPu02
set_option maxRecDepth 100000
set_option linter.unusedVariables false
set_option linter.unusedSimpArgs false
noncomputable section
namespace Go.Proofs.YtfnkbmlmgnadmaaGreat.Ex
open Go.Proofs.Tryz
open Go.RowKit
def LZ : Q2:=(⟨2,by decide⟩,⟨1,by decide⟩)
def SZ : Q2:=(⟨7292567877523311580221095596750716176434782432868683424513645834767876293070,by decide⟩,⟨19659275751359636165940301690575149581329631496732780143538578556285923319774,by decide⟩)
def CE : Nat:=479095176016622842441988045216678740799252316531100822436447802254070093686356349204969212544220033486413271283566945264650845755880805213916963058350733
def twM : Nat:=287457105609973705413735949925891179998572849537316190965553840838426151215824331271088064391342496698406609565003789524066463657087527623491112425449299
theorem Me : On F2 lY (some (LZ,SZ)):=by
 show F2.mul SZ SZ = F2.add (F2.mul LZ (F2.mul LZ LZ)) lY;exact of_decide_eq_true (by kernel_rfl)
def LI : C2:=⟨some (LZ,SZ),Me⟩
theorem TN : Rp cJ (LZ,SZ,F2.one) LI:=cJ.jto_one _ _
theorem aNk : (LK F2 (LZ,SZ,F2.one) CE 508 508).2.2 = F2.zero:=of_decide_eq_true (by kernel_rfl)
theorem aFT : (LK F2 (LZ,SZ,F2.one) 21888242871839275222246405745257275088844257914179612981679871602714643921549 508 508).2.2 ≠ F2.zero:=of_decide_eq_true (by kernel_rfl)
theorem aFS : (LK F2 (LZ,SZ,F2.one) 47581207271489010074683488451353534690560365133687637544587129035065060451520145913692443394996527310200940637954806362563397135354136976255533127257 508 508).2.2 ≠ F2.zero:=of_decide_eq_true (by kernel_rfl)
theorem aFR : (LK F2 (LZ,SZ,F2.one) 81695500702735512534355690413510048306596413944254634435204516583035521221409714172848891565263022342164744751180375500353888786916311693882625533 508 508).2.2 ≠ F2.zero:=of_decide_eq_true (by kernel_rfl)
theorem aFQ : (LK F2 (LZ,SZ,F2.one) 255418644045692602095536823547820102522999221828645151339294751423486163211343406059815000057572293107810899582329754326227174532880069378657 508 508).2.2 ≠ F2.zero:=of_decide_eq_true (by kernel_rfl)
theorem aFP : (LK F2 (LZ,SZ,F2.one) 2424320880075062131686333725919013315836351602446602932909956992302697742401182419325566481532687937 508 508).2.2 ≠ F2.zero:=of_decide_eq_true (by kernel_rfl)
theorem aFX : CE < 2 ^ 508:=of_decide_eq_true (by kernel_rfl)
theorem aFY : twM < 2 ^ 508:=of_decide_eq_true (by kernel_rfl)
theorem FY : cJ.grp.ns CE LI = cJ.grp.zero:=Subtype.ext ((xI TN CE 508 aFX).symm.trans (dF aNk))
theorem LV {n : Nat} (hn : n < 2 ^ 508) (h : (LK F2 (LZ,SZ,F2.one) n 508 508).2.2 ≠ F2.zero) : cJ.grp.ns n LI ≠ cJ.grp.zero:=fun e => by
 have h1 : hJ F2 kO (LK F2 (LZ,SZ,F2.one) n 508 508) = (cJ.grp.ns n LI).1:=xI TN n 508 hn;rw [e,eG h] at h1;cases h1
def twL : List Nat:=[21888242871839275222246405745257275088548364400416034343698204186575808495617,10069,5864401,1875725156269,197620364512881247228717050342013327560683201906968909]
theorem Mf : twL.foldr (· * ·) 1 = CE:=by kernel_rfl
theorem aAg : ∀ q,q ∈ twL → dG q:=fun q hq => by
 simp only [twL,List.mem_cons,List.not_mem_nil,or_false] at hq
 rcases hq with rfl | rfl | rfl | rfl | rfl
 ·exact aKT
 ·exact Jn
 ·exact PH
 ·exact rO
 ·exact cU
theorem aGa : ∀ q,q ∈ twL → cJ.grp.ns (CE / q) LI ≠ cJ.grp.zero:=fun q hq => by
 simp only [twL,List.mem_cons,List.not_mem_nil,or_false] at hq
 rcases hq with rfl | rfl | rfl | rfl | rfl
 ·rw [show CE / 21888242871839275222246405745257275088548364400416034343698204186575808495617 = 21888242871839275222246405745257275088844257914179612981679871602714643921549 by kernel_rfl]; exact LV (of_decide_eq_true (by kernel_rfl)) aFT
 ·rw [show CE / 10069 = 47581207271489010074683488451353534690560365133687637544587129035065060451520145913692443394996527310200940637954806362563397135354136976255533127257 by kernel_rfl]; exact LV (of_decide_eq_true (by kernel_rfl)) aFS
 ·rw [show CE / 5864401 = 81695500702735512534355690413510048306596413944254634435204516583035521221409714172848891565263022342164744751180375500353888786916311693882625533 by kernel_rfl]; exact LV (of_decide_eq_true (by kernel_rfl)) aFR
 ·rw [show CE / 1875725156269 = 255418644045692602095536823547820102522999221828645151339294751423486163211343406059815000057572293107810899582329754326227174532880069378657 by kernel_rfl]; exact LV (of_decide_eq_true (by kernel_rfl)) aFQ
 ·rw [show CE / 197620364512881247228717050342013327560683201906968909 = 2424320880075062131686333725919013315836351602446602932909956992302697742401182419325566481532687937 by kernel_rfl]; exact LV (of_decide_eq_true (by kernel_rfl)) aFP
theorem yD : ∀ k,0 < k → k < CE → cJ.grp.ns k LI ≠ cJ.grp.zero:=cJ.grp.exact Mf aAg FY aGa
theorem aFM (P : C2) (h : cJ.grp.add P P = cJ.grp.zero) : P = cJ.grp.zero:=by
 have h1 : cJ.grp.neg P = P:=by
  refine cJ.grp.cancel (a:=P) ?_;rw [cJ.grp.addn,h]
 obtain ⟨P,hP⟩:=P;cases P with
 | none => rfl
 | some p =>
  have h2 : some (p.1,F2.neg p.2) = some p:=congrArg Subtype.val h1;have h3 : F2.neg p.2 = p.2:=by injection h2 with h2; exact congrArg Prod.snd h2
  have h4 : F2.add p.2 p.2 = F2.zero:=by
   conv => lhs; lhs; rw [← h3]
   exact F2.neg_add _
  exact (cJ.dbl_ne (cJ.y_ne (x:=p.1) hP) h4).elim
open Classical in
def jK (x : Q2) : Q2:=if h : ∃ y,On F2 lY (some (x,y)) then h.choose else F2.zero
open Classical in
def tM (P : C2) : Nat:=match P.1 with
 | none => 2 * (FP.M * FP.M)
 | some p => 2 * (p.1.1.1 + FP.M * p.1.2.1) + (if p.2 = jK p.1 then 0 else 1)
theorem YI {a b M : Nat} (ha : a < M) (hb : b < M) : a + M * b < M * M:=by
 have : M * (b + 1) ≤ M * M:=Nat.mul_le_mul_left _ hb;rw [Nat.mul_add,Nat.mul_one] at this;omega
theorem Gb (P : C2) : tM P < 2 * (FP.M * FP.M) + 1:=by
 obtain ⟨P,hP⟩:=P;unfold tM;cases P with
 | none => exact Nat.lt_succ_self _
 | some p =>
  have:=YI p.1.1.2 p.1.2.2;show 2 * (p.1.1.1 + FP.M * p.1.2.1) + (if p.2 = jK p.1 then 0 else 1) < _;split <;> omega
theorem aCU {a b c d M : Nat} (ha : a < M) (hc : c < M) (h : a + M * b = c + M * d) : a = c ∧ b = d:=by
 have h1:=congrArg (· % M) h;simp only [Nat.add_mul_mod_self_left,Nat.mod_eq_of_lt ha,Nat.mod_eq_of_lt hc] at h1;refine ⟨h1,?_⟩;rw [h1] at h;have hM : 0 < M:=by omega
 exact Nat.eq_of_mul_eq_mul_left hM (by omega)
theorem TO (P Q : C2) (h : tM P = tM Q) : P = Q:=by
 obtain ⟨P,hP⟩:=P;obtain ⟨Q,hQ⟩:=Q;refine Subtype.ext ?_;show P = Q;unfold tM at h;cases P with
 | none =>
  cases Q with
  | none => rfl
  | some q =>
   have:=YI q.1.1.2 q.1.2.2;have h' : 2 * (FP.M * FP.M) = 2 * (q.1.1.1 + FP.M * q.1.2.1) + (if q.2 = jK q.1 then 0 else 1):=h;split at h' <;> omega
 | some p =>
  cases Q with
  | none =>
   have:=YI p.1.1.2 p.1.2.2;have h' : 2 * (p.1.1.1 + FP.M * p.1.2.1) + (if p.2 = jK p.1 then 0 else 1) = 2 * (FP.M * FP.M):=h;split at h' <;> omega
  | some q =>
   have h' : 2 * (p.1.1.1 + FP.M * p.1.2.1) + (if p.2 = jK p.1 then 0 else 1) = 2 * (q.1.1.1 + FP.M * q.1.2.1) + (if q.2 = jK q.1 then 0 else 1):=h;have hx : p.1.1.1 + FP.M * p.1.2.1 = q.1.1.1 + FP.M * q.1.2.1 ∧ ((p.2 = jK p.1) ↔ (q.2 = jK q.1)):=by
    by_cases a : p.2 = jK p.1
    ·rw [if_pos a] at h'
     by_cases b : q.2 = jK q.1
     ·rw [if_pos b] at h'; exact ⟨by omega,fun _ => b,fun _ => a⟩
     ·rw [if_neg b] at h'; omega
    ·rw [if_neg a] at h'
     by_cases b : q.2 = jK q.1
     ·rw [if_pos b] at h'; omega
     ·rw [if_neg b] at h'; exact ⟨by omega,fun h => (a h).elim,fun h => (b h).elim⟩
   obtain ⟨e1,e2⟩:=aCU p.1.1.2 q.1.1.2 hx.1;have ex : p.1 = q.1:=Prod.ext (Fin.ext e1) (Fin.ext e2);obtain ⟨px,py⟩:=p;obtain ⟨qx,qy⟩:=q;have ex' : px = qx:=ex;subst ex';have hb : (py = jK px) ↔ (qy = jK px):=hx.2;refine congrArg (fun y => some (px,y)) ?_
   by_cases a : py = jK px
   ·rw [a,← hb.1 a]
   ·have b : qy ≠ jK px:=fun h => a (hb.2 h)
    have hy0 : On F2 lY (some (px,jK px)):=by
     have hex : ∃ y,On F2 lY (some (px,y)):=⟨py,hP⟩
     unfold jK;rw [dif_pos hex];exact hex.choose_spec
    have s1 : F2.add py (jK px) = F2.zero:=GK cJ ((show F2.mul py py = _ from hP).trans (show F2.mul (jK px) (jK px) = _ from hy0).symm) a;have s2 : F2.add qy (jK px) = F2.zero:=GK cJ ((show F2.mul qy qy = _ from hQ).trans (show F2.mul (jK px) (jK px) = _ from hy0).symm) b;refine F2.add_cancel (a:=jK px) ?_;rw [F2.add_comm,s1,F2.add_comm,s2]
theorem aFU : 2 * (FP.M * FP.M) + 1 < 3 * CE:=of_decide_eq_true (by kernel_rfl)
theorem aFO : CE % 2 = 1:=by kernel_rfl
theorem aFV (P : C2) : ∃ k,P = cJ.grp.ns k LI:=cJ.grp.cyclic aFO FY yD aFM tM Gb TO aFU P
def aNn : Q2:=F2.mul (cL LZ) lZ
def aNm : Q2:=F2.mul (cL SZ) sK
def Zw : J2:=LK F2 (LZ,SZ,F2.one) twM 508 508
theorem aNo : Zw.2.2 ≠ F2.zero:=of_decide_eq_true (by kernel_rfl)
theorem aNq : Zw.1 = F2.mul aNn (F2.mul Zw.2.2 Zw.2.2):=of_decide_eq_true (by kernel_rfl)
theorem aNp : Zw.2.1 = F2.mul aNm (F2.mul (F2.mul Zw.2.2 Zw.2.2) Zw.2.2):=of_decide_eq_true (by kernel_rfl)
theorem aGi : Rp cJ Zw (cJ.grp.ns twM LI):=xI TN twM 508 aFY
theorem aFN : PG LI = cJ.grp.ns twM LI:=by
 refine Subtype.ext ?_;rw [← show hJ F2 kO Zw = (cJ.grp.ns twM LI).1 from aGi,RI cJ aNo aNq aNp];show psP (some (LZ,SZ)) = _
 kernel_rfl
def twC : Nat:=287457105609973705413735949925891179998572849537316190965553840838426151215824331271088064391342496698406609565003641577309581867768536789783043007736333
def twU : Nat:=4377648574367855045624726741130453375770005524880588749457117171343633558474
def twW : Nat:=2626589144620713026904657807846672682105704487528335372401875091607964744325
theorem aGb : twM = dV + twC:=by kernel_rfl
theorem aAh : twC = ord * 13132945723103565130996952262996368337156300107536646163745009583754801998349:=by kernel_rfl
theorem aKo : twC * twU = ord + CE * twW:=by kernel_rfl
theorem Md : 0 < CE:=of_decide_eq_true (by kernel_rfl)
theorem Uv (P : C2) : cJ.grp.ns dV P = PG P ↔ cJ.grp.ns ord P = cJ.grp.zero:=by
 obtain ⟨k,rfl⟩:=aFV P;have e1 : PG (cJ.grp.ns k LI) = cJ.grp.add (cJ.grp.ns dV (cJ.grp.ns k LI)) (cJ.grp.ns (k * twC) LI):=by
  rw [XE,aFN,← cJ.grp.ns_mul,← cJ.grp.ns_mul,← cJ.grp.ns_add,aGb,Nat.add_mul,Nat.mul_comm dV,Nat.mul_comm twC]
 have e2 : cJ.grp.ns dV (cJ.grp.ns k LI) = PG (cJ.grp.ns k LI) ↔ cJ.grp.ns (k * twC) LI = cJ.grp.zero:=by
  rw [e1];constructor
  ·intro h;refine cJ.grp.cancel (a:=cJ.grp.ns dV (cJ.grp.ns k LI)) ?_;rw [← h,cJ.grp.addz]
  ·intro h;rw [h,cJ.grp.addz]
 rw [e2,← cJ.grp.ns_mul,cJ.grp.ns_dvd Md FY yD,cJ.grp.ns_dvd Md FY yD];constructor
 ·rintro ⟨f,hf⟩
  have h1 : k * ord + CE * (k * twW) = CE * (f * twU):=by
   have h2 : k * (twC * twU) = CE * (f * twU):=by rw [← Nat.mul_assoc,hf,Nat.mul_assoc]
   rw [aKo,Nat.mul_add,Nat.mul_left_comm k CE] at h2;exact h2
  have h3 : CE ∣ k * ord + CE * (k * twW):=⟨_,h1⟩;exact (Nat.dvd_add_left ⟨_,rfl⟩).1 h3
 ·rintro ⟨f,hf⟩
  rw [aAh,← Nat.mul_assoc,hf];exact ⟨f * 13132945723103565130996952262996368337156300107536646163745009583754801998349,Nat.mul_assoc _ _ _⟩
theorem VM (p : dM) : aM prog (qG prog) (fun _ => ⟨fun s => pV,fun s => true,fun s => bif Nat.beq s 5 then some (.bool false) else none⟩) f31 60 [.v (.fl (dR p))] = some ([aK .eql .i64 (dI p.1 p.2.1 p.2.2).1 0 = some (.bool false)],.one (.im (.bool false))):=by kernel_rfl
theorem VL (p : dM) : aM prog (qG prog) (fun _ => ⟨fun s => pV,fun s => true,fun s => bif Nat.beq s 5 then some (.bool true) else none⟩) f31 60 [.v (.fl (dR p))] = some ([aK .eql .i64 (dI p.1 p.2.1 p.2.2).1 0 = some (.bool true),(p.2.2 = false → gD p.1 ∧ gD p.2.1),aC (e2 (iM (wd2 p) Go.Proofs.YtfnkbmlmgnadmaaGreat.FR.M (bW Go.Proofs.YtfnkbmlmgnadmaaGreat.FR.M) (bW Go.Proofs.YtfnkbmlmgnadmaaGreat.FR.M)).2.2) = aC (e2 F2.zero)],.one (.im (.bool true))):=by kernel_rfl
theorem VK (p : dM) : aM prog (qG prog) (fun _ => ⟨fun s => pV,fun s => false,fun s => bif Nat.beq s 5 then some (.bool true) else none⟩) f31 60 [.v (.fl (dR p))] = some ([aK .eql .i64 (dI p.1 p.2.1 p.2.2).1 0 = some (.bool true),(p.2.2 = false → gD p.1 ∧ gD p.2.1),aC (e2 (iM (wd2 p) Go.Proofs.YtfnkbmlmgnadmaaGreat.FR.M (bW Go.Proofs.YtfnkbmlmgnadmaaGreat.FR.M) (bW Go.Proofs.YtfnkbmlmgnadmaaGreat.FR.M)).2.2) ≠ aC (e2 F2.zero)],.one (.im (.bool false))):=by kernel_rfl
theorem aCT (p : dM) : eH p = true ↔ ((fJ p).1 = 0 ∧ (iM (wd2 p) Go.Proofs.YtfnkbmlmgnadmaaGreat.FR.M (bW Go.Proofs.YtfnkbmlmgnadmaaGreat.FR.M) (bW Go.Proofs.YtfnkbmlmgnadmaaGreat.FR.M)).2.2 = F2.zero):=by
 unfold eH;rw [decide_eq_true_iff]
 by_cases h : (fJ p).1 = 0
 ·have hr : Rp cJ (iM (wd2 p) Go.Proofs.YtfnkbmlmgnadmaaGreat.FR.M (bW Go.Proofs.YtfnkbmlmgnadmaaGreat.FR.M) (bW Go.Proofs.YtfnkbmlmgnadmaaGreat.FR.M)) (cJ.grp.ns ord (uV p)):=by
   have:=ON (aIL h) Go.Proofs.YtfnkbmlmgnadmaaGreat.FR.M (bW Go.Proofs.YtfnkbmlmgnadmaaGreat.FR.M) (Nat.le_refl _)
   rwa [Nat.sub_self,Nat.pow_zero,Nat.div_one,aFI] at this
  have h1 : dK p = ((PG (uV p)).1,0):=by
   unfold dK;rw [if_neg (fun q => q h),← uU h];rfl
  have h2 : gY (fun _ => p) (fun _ => dV) 1 = ((cJ.grp.ns dV (uV p)).1,0):=by
   rw [Bi,if_neg (fun q => q h),An]
  have a1 : (dK p).2 = 0:=by rw [h1]
  have a2 : (dK p).1 = (PG (uV p)).1:=by rw [h1]
  have a3 : (gY (fun _ => p) (fun _ => dV) 1).1 = (cJ.grp.ns dV (uV p)).1:=by rw [h2]
  rw [a1,a2,a3];constructor
  ·rintro ⟨_,e⟩
   refine ⟨h,?_⟩;have e2:=(Uv (uV p)).1 (Subtype.ext e);rw [e2] at hr;apply Classical.byContradiction;intro hn;have h3:=eG (K:=F2) (inv:=kO) hn;rw [show hJ F2 kO _ = _ from hr] at h3;cases h3
  ·rintro ⟨_,e⟩
   refine ⟨rfl,?_⟩;have e2 : cJ.grp.ns ord (uV p) = cJ.grp.zero:=Subtype.ext ((show hJ F2 kO _ = _ from hr).symm.trans (dF e));exact congrArg Subtype.val ((Uv (uV p)).2 e2)
 ·constructor
  ·rintro ⟨e,_⟩
   have h1 : dK p = (some (F2.zero,F2.zero),(fJ p).1):=if_pos h;rw [h1] at e;exact (h e).elim
  ·rintro ⟨e,_⟩
   exact (h e).elim
theorem aBr (p : dM) (args : List Value) (w : World) (ha : bK w [.v (.fl (dR p))] args) : Good prog 31 (.one (.im (.bool (eH p)))) args w:=by
 have hi:=aCT p
 by_cases h1 : (fJ p).1 = 0
 ·by_cases h2 : (iM (wd2 p) Go.Proofs.YtfnkbmlmgnadmaaGreat.FR.M (bW Go.Proofs.YtfnkbmlmgnadmaaGreat.FR.M) (bW Go.Proofs.YtfnkbmlmgnadmaaGreat.FR.M)).2.2 = F2.zero
  ·rw [hi.2 ⟨h1,h2⟩];exact aD aG (fun _ s => mF) (aH prog) func31 (VL p) ⟨aFg h1,Xp h1,by rw [h2],trivial⟩ ha
  ·rw [Bool.eq_false_iff.2 (fun e => h2 (hi.1 e).2)];exact aD aG (fun _ s => mF) (aH prog) func31 (VK p) ⟨aFg h1,Xp h1,cG h2,trivial⟩ ha
 ·rw [Bool.eq_false_iff.2 (fun e => h1 (hi.1 e).1)];exact aD aG (fun _ s => mF) (aH prog) func31 (VM p) ⟨aLT h1,trivial⟩ ha
def gIc (c : Bool) : fQ:=g1 Jb fun p => ([eH p = c],.one (.im (.bool c)))
theorem aIe (c : Bool) : ∀ cs pre r,gIc c cs = some (pre,r) → aP pre → ∀ (args : List Value) (w : World),bK w cs args → Good prog 29 r args w :=
 cN (op:=fun p => ([eH p = c],.one (.im (.bool c)))) jB fun p hp args w ha => by
  have h:=Uw p args w ha;rw [show eH p = c from hp.1] at h;exact h
theorem aIc (c : Bool) : ∀ cs pre r,gIc c cs = some (pre,r) → aP pre → ∀ (args : List Value) (w : World),bK w cs args → Good prog 31 r args w :=
 cN (op:=fun p => ([eH p = c],.one (.im (.bool c)))) jB fun p hp args w ha => by
  have h:=aBr p args w ha;rw [show eH p = c from hp.1] at h;exact h
theorem Ew : ∃ g : dM → Int,∀ p,g p = if (dI p.1 p.2.1 p.2.2).1 ≠ 0 then (dI p.1 p.2.1 p.2.2).1 else if eH p = true then 0 else 42:=⟨fun p => if (dI p.1 p.2.1 p.2.2).1 ≠ 0 then (dI p.1 p.2.1 p.2.2).1 else if eH p = true then 0 else 42,fun _ => rfl⟩
def gH : dM → Int:=Classical.choose Ew
theorem xJ (p : dM) : gH p = if (dI p.1 p.2.1 p.2.2).1 ≠ 0 then (dI p.1 p.2.1 p.2.2).1 else if eH p = true then 0 else 42:=Classical.choose_spec Ew p
def Vn (k : Bool) : fQ:=g1 Jb fun p => bif k then ([(dI p.1 p.2.1 p.2.2).1 = 0],.one (.im (.int .i64 0))) else ([],.one (.im (.int .i64 (dI p.1 p.2.1 p.2.2).1)))
theorem RQ {f : FuncId} (h : ∀ (p : dM) (args : List Value) (w : World),bK w [.v (.fl (dR p))] args → Good prog f (.one (.im (.int .i64 (dI p.1 p.2.1 p.2.2).1))) args w) (k : Bool) :
  ∀ cs pre r,Vn k cs = some (pre,r) → aP pre → ∀ (args : List Value) (w : World),bK w cs args → Good prog f r args w :=
 cN jB fun p hp args w ha => by
  cases k
  ·exact h p args w ha
  ·have e : (dI p.1 p.2.1 p.2.2).1 = 0:=hp.1;have:=h p args w ha;rw [e] at this;exact this
theorem Jv (p : dM) : pV 28 [.v (.fl (dR p))] = some ([],.one (.im (.int .i64 (dI p.1 p.2.1 p.2.2).1))):=by kernel_rfl
theorem WZ (p : dM) : pV 30 [.v (.fl (dR p))] = some ([],.one (.im (.int .i64 (dI p.1 p.2.1 p.2.2).1))):=by kernel_rfl
theorem Se (p : dM) (args : List Value) (w : World) (ha : bK w [.v (.fl (dR p))] args) : Good prog 28 (.one (.im (.int .i64 (dI p.1 p.2.1 p.2.2).1))) args w:=(mF _ _ _ _ (Jv p) trivial).2 args w ha
theorem Iz (p : dM) (args : List Value) (w : World) (ha : bK w [.v (.fl (dR p))] args) : Good prog 30 (.one (.im (.int .i64 (dI p.1 p.2.1 p.2.2).1))) args w:=(mF _ _ _ _ (WZ p) trivial).2 args w ha
def aMv (c : Bool) : Tab:=(pV.add 29 (gIc c)).add 31 (gIc c)
theorem aLa (c : Bool) : TabOk prog (aMv c):=(mF.ad func29 (aIe c)).ad func31 (aIc c)
def Lf (k c : Bool) : Tab:=((aMv c).add 28 (Vn k)).add 30 (Vn k)
theorem zX (k c : Bool) : TabOk prog (Lf k c):=((aLa c).ad func28 (RQ Se k)).ad func30 (RQ Iz k)
theorem VQ (p : dM) : aM prog (qG prog) (fun _ => ⟨fun _ => Lf false true,fun _ => true,fun n => bif Nat.beq n 7 then some (.bool true) else none⟩) f11 60 [.v (.fl (dR p))] = some ([aK .neq .i64 (dI p.1 p.2.1 p.2.2).1 0 = some (.bool true)],.one (.im (.int .i64 (dI p.1 p.2.1 p.2.2).1))):=by kernel_rfl
theorem yO (p : dM) (c : Bool) : aM prog (qG prog) (fun _ => ⟨fun _ => Lf true c,fun _ => true,fun _ => none⟩) f11 60 [.v (.fl (dR p))] = some ([(dI p.1 p.2.1 p.2.2).1 = 0,eH p = c],.one (.im (.int .i64 (bif c then 0 else 42)))):=by cases c <;> kernel_rfl
theorem Br (p : dM) (args : List Value) (w : World) (ha : bK w [.v (.fl (dR p))] args) : Good prog 11 (.one (.im (.int .i64 (gH p)))) args w:=by
 rw [xJ]
 by_cases h : (dI p.1 p.2.1 p.2.2).1 = 0
 ·rw [if_neg (fun e => e h)];cases hc : eH p
  ·rw [if_neg (by simp)];exact aD aG (fun _ _ => zX true false) (aH prog) func11 (yO p false) ⟨h,hc,trivial⟩ ha
  ·rw [if_pos rfl];exact aD aG (fun _ _ => zX true true) (aH prog) func11 (yO p true) ⟨h,hc,trivial⟩ ha
 ·rw [if_pos h];exact aD aG (fun _ _ => zX false true) (aH prog) func11 (VQ p) ⟨by show some (Value.bool ((dI p.1 p.2.1 p.2.2).1 != 0)) = _; rw [bne_iff_ne.2 h],trivial⟩ ha
theorem VN (p : dM) : aM prog (qG prog) (fun _ => ⟨fun _ => Lf false true,fun _ => true,fun n => bif Nat.beq n 7 then some (.bool false) else none⟩) f12 60 [.v (.fl (dR p))] = some ([aK .eql .i64 (dI p.1 p.2.1 p.2.2).1 0 = some (.bool false)],.one (.im (.int .i64 (dI p.1 p.2.1 p.2.2).1))):=by kernel_rfl
theorem yL (p : dM) (c : Bool) : aM prog (qG prog) (fun _ => ⟨fun _ => Lf true c,fun _ => true,fun _ => none⟩) f12 60 [.v (.fl (dR p))] = some ([(dI p.1 p.2.1 p.2.2).1 = 0,eH p = c],.one (.im (.int .i64 (bif c then 0 else 42)))):=by cases c <;> kernel_rfl
theorem aBA (p : dM) (args : List Value) (w : World) (ha : bK w [.v (.fl (dR p))] args) : Good prog 12 (.one (.im (.int .i64 (gH p)))) args w:=by
 rw [xJ]
 by_cases h : (dI p.1 p.2.1 p.2.2).1 = 0
 ·rw [if_neg (fun e => e h)];cases hc : eH p
  ·rw [if_neg (by simp)];exact aD aG (fun _ _ => zX true false) (aH prog) func12 (yL p false) ⟨h,hc,trivial⟩ ha
  ·rw [if_pos rfl];exact aD aG (fun _ _ => zX true true) (aH prog) func12 (yL p true) ⟨h,hc,trivial⟩ ha
 ·rw [if_pos h];exact aD aG (fun _ _ => zX false true) (aH prog) func12 (VN p) ⟨by show some (Value.bool ((dI p.1 p.2.1 p.2.2).1 == 0)) = _; rw [beq_eq_false_iff_ne.2 h],trivial⟩ ha
def Dr (k : Bool) : fQ:=g1 Jb fun p => bif k then ([gH p = 0],.one (.im (.int .i64 0))) else ([],.one (.im (.int .i64 (gH p))))
theorem AU {f : FuncId} (h : ∀ (p : dM) (args : List Value) (w : World),bK w [.v (.fl (dR p))] args → Good prog f (.one (.im (.int .i64 (gH p)))) args w) (k : Bool) :
  ∀ cs pre r,Dr k cs = some (pre,r) → aP pre → ∀ (args : List Value) (w : World),bK w cs args → Good prog f r args w :=
 cN jB fun p hp args w ha => by
  cases k
  ·exact h p args w ha
  ·have e : gH p = 0:=hp.1;have:=h p args w ha;rw [e] at this;exact this
def lw2 (y : N2) : Bool:=if wv y.2 = 0 then fV FP.M (wv y.1) else fV FP.M (wv y.2)
def XQ (c : Bool) (y : N2) : List Prop:=[wv y.1 < FP.M,wv y.2 < FP.M,lw2 y = c]
theorem BI (a b : Nat) : aK .lss .i64 (Go.Proofs.YtfnkbmlmgnadmaaGreat.bG a b) 0 = some (.bool (decide (a < b))):=by
 unfold Go.Proofs.YtfnkbmlmgnadmaaGreat.bG
 by_cases h : a = b
 ·rw [if_pos h,decide_eq_false (by omega)]; rfl
 ·rw [if_neg h]
  by_cases h2 : a < b
  ·rw [if_pos h2,decide_eq_true h2]; rfl
  ·rw [if_neg h2,decide_eq_false h2]; rfl
theorem SI (a b : Nat) : aK .eql .i64 (Go.Proofs.YtfnkbmlmgnadmaaGreat.bG a b) 0 = some (.bool (decide (a = b))):=by
 unfold Go.Proofs.YtfnkbmlmgnadmaaGreat.bG
 by_cases h : a = b
 ·rw [if_pos h,decide_eq_true h]; rfl
 ·rw [if_neg h,decide_eq_false h]
  by_cases h2 : a < b
  ·rw [if_pos h2]; rfl
  ·rw [if_neg h2]; rfl
set_option maxRecDepth 10000
def lE (x y : Q2) : Bool:=decide (x.2.1 < y.2.1) || (decide (x.2.1 = y.2.1) && decide (x.1.1 ≤ y.1.1))
theorem MJ (a : Fq) : F1.sub F1.zero a = F1.neg a:=F1.zero_add _
theorem aFE (z : Q2) : F2.sub z F2.zero = z:=by show F2.add z (F2.neg F2.zero) = z; rw [bP,F2.add_zero]
theorem xN (b : Fq) {X : Fq} (h : X ≠ F1.zero) : F1.add X X ≠ F1.zero ∧ F1.mul b (dZ (F1.add X X)) = F1.mul (F1.mul b hf) (dZ X):=by
 have h1 : F1.mul (F1.add X X) (F1.mul hf (dZ X)) = F1.one:=by
  have e : F1.mul (F1.add X X) (F1.mul hf (dZ X)) = F1.mul (F1.mul X (dZ X)) (F1.add hf hf) :=
   aQ F1 (cE F1 [X,hf,dZ X]) (.mul (.add (.v 0) (.v 0)) (.mul (.v 1) (.v 2))) (.mul (.mul (.v 0) (.v 2)) (.add (.v 1) (.v 1))) (by decide)
  rw [e,kD h,JO,F1.one_mul]
 have h2 : F1.add X X ≠ F1.zero:=fun e => by rw [e,F1.zero_mul] at h1; exact SX h1.symm
 refine ⟨h2,?_⟩;have h3:=kD h2;have h4 : dZ (F1.add X X) = F1.mul hf (dZ X):=by
  rw [← F1.mul_one (dZ (F1.add X X)),← h1,← F1.mul_assoc,F1.mul_comm (dZ _),h3,F1.one_mul]
 rw [h4,F1.mul_assoc]
theorem aMA {y : Q2} {s : Fq} (h : cZ s ≠ F1.zero) : (cZ s,F1.mul y.2 (dZ (F1.add (cZ s) (cZ s)))) = rr y s:=Prod.ext rfl (xN y.2 h).2
theorem JC {r : Q2} (h : r.2 ≠ F1.zero) : lE r (F2.neg r) = fD r.2:=by
 have hz : r.2.1 ≠ 0:=fun e => h (Fin.ext e)
 have h2:=r.2.2;have hn : (F2.neg r).2.1 = FP.M - r.2.1:=sE hz;have hm:=hM;unfold lE;rw [hn];cases hl : fD r.2
 ·have h3 : ¬ r.2.1 ≤ FP.M - r.2.1:=fun e => by rw [(oW hz).2 e] at hl; cases hl
  rw [decide_eq_false (show ¬ r.2.1 < FP.M - r.2.1 by omega),decide_eq_false (show ¬ r.2.1 = FP.M - r.2.1 by omega)];rfl
 ·have h3:=(oW hz).1 hl;rw [decide_eq_true (show r.2.1 < FP.M - r.2.1 by omega)];rfl
theorem YF {a : Fq} (hl : fD a = true) : lE (a,F1.zero) (F2.neg (a,F1.zero)) = true:=by
 have h1 : (F2.neg (a,F1.zero)).2 = F1.zero:=bP F1;have h3 : a.1 ≤ (F2.neg (a,F1.zero)).1.1:=by
  show a.1 ≤ (0 + FP.M - a.1) % FP.M;unfold fD fV at hl;exact of_decide_eq_true hl
 unfold lE;rw [h1];show (decide (F1.zero.1 < F1.zero.1) || (decide (F1.zero.1 = F1.zero.1) && decide (a.1 ≤ (F2.neg (a,F1.zero)).1.1))) = true;rw [decide_eq_true h3,decide_eq_true (rfl : F1.zero.1 = F1.zero.1)];simp
theorem XN (a : Fq) : fR (a,F1.zero) = F1.mul a a:=by show F1.add (F1.mul a a) (F1.mul F1.zero F1.zero) = _; rw [F1.mul_zero,F1.add_zero]
theorem RM (a : Fq) : F1.mul (F1.add a a) hf = a:=by
 have e : F1.mul (F1.add a a) hf = F1.mul a (F1.add hf hf):=aQ F1 (cE F1 [a,hf]) (.mul (.add (.v 0) (.v 0)) (.v 1)) (.mul (.v 0) (.add (.v 1) (.v 1))) (by decide);rw [e,JO,F1.mul_one]
theorem Bs {a : Fq} (h : cP a) : F2.mul (cZ a,F1.zero) (cZ a,F1.zero) = (a,F1.zero):=by
 rw [uK];refine Prod.ext ?_ ?_
 ·show F1.sub (F1.mul (cZ a) (cZ a)) (F1.mul F1.zero F1.zero) = a;rw [(eJ h).1,F1.mul_zero];show F1.add a (F1.neg F1.zero) = a;rw [bP,F1.add_zero]
 ·show F1.add (F1.mul _ F1.zero) (F1.mul F1.zero _) = F1.zero;rw [F1.mul_zero,F1.zero_mul,F1.add_zero]
theorem rR {a : Fq} (h : cP (F1.neg a)) : F2.mul (F1.zero,cZ (F1.neg a)) (F1.zero,cZ (F1.neg a)) = (a,F1.zero):=by
 rw [uK];refine Prod.ext ?_ ?_
 ·show F1.sub (F1.mul F1.zero F1.zero) (F1.mul (cZ (F1.neg a)) (cZ (F1.neg a))) = a;rw [(eJ h).1,F1.mul_zero];show F1.add F1.zero (F1.neg (F1.neg a)) = a;rw [F1.neg_neg,F1.zero_add]
 ·show F1.add (F1.mul F1.zero _) (F1.mul _ F1.zero) = F1.zero;rw [F1.mul_zero,F1.zero_mul,F1.add_zero]
theorem aGv {a : Fq} (h : cP (F1.neg a)) : rt (a,F1.zero) = (F1.zero,cZ (F1.neg a)) ∧ lE (F1.zero,cZ (F1.neg a)) (F2.neg (F1.zero,cZ (F1.neg a))) = true:=by
 have hs:=eJ h;have hm:=rR h
 by_cases hz : cZ (F1.neg a) = F1.zero
 ·rw [hz] at hm ⊢;refine ⟨vG hm ⟨fun _ => jZ,fun e => (e rfl).elim⟩,YF jZ⟩
 ·have hl:=hs.2;generalize cZ (F1.neg a) = u at hm hz hl ⊢;exact ⟨vG hm ⟨fun _ => jZ,fun _ => hl⟩,(JC (r:=(F1.zero,u)) hz).trans hl⟩
def sA (X : Q2) : Fq:=F1.mul (F1.add X.1 (cZ (fR X))) hf
def sB (X : Q2) : Fq:=F1.mul (F1.sub X.1 (cZ (fR X))) hf
def zr (X : Q2) : Q2:=(F1.zero,cZ (F1.neg X.1))
theorem oS {a s : Fq} : rr (a,F1.zero) s = (cZ s,F1.zero):=by
 refine Prod.ext rfl ?_;show F1.mul (F1.mul F1.zero hf) _ = F1.zero;rw [F1.zero_mul,F1.zero_mul]
theorem vP {x : Q2} (h : cP (fR x)) : F1.mul (cZ (fR x)) (cZ (fR x)) = fR x:=(eJ h).1
theorem AM {x : Q2} (hx : x.2 ≠ F1.zero) : fW x ↔ cP (fR x):=by
 refine ⟨fun h => Classical.byContradiction fun e => Tk e h,fun h => ?_⟩;obtain ⟨n1,n2,n3⟩:=GM (vP h) hx
 by_cases hs : cP (sA x)
 ·exact ⟨_,Bg (vP h) rfl hs n1⟩
 ·exact ⟨_,Bg (n:=F1.neg (cZ (fR x))) (by rw [F1.neg_mul,F1.mul_neg,F1.neg_neg]; exact vP h) rfl (n3 hs) n2⟩
theorem aKC {x : Q2} (hx : x.2 ≠ F1.zero) (h : cP (fR x)) (hs : cP (sA x)) : F2.mul (rr x (sA x)) (rr x (sA x)) = x ∧ sA x ≠ F1.zero :=
 ⟨Bg (vP h) rfl hs (GM (vP h) hx).1,(GM (vP h) hx).1⟩
theorem aKB {x : Q2} (hx : x.2 ≠ F1.zero) (h : cP (fR x)) (hs : ¬ cP (sA x)) : F2.mul (rr x (sB x)) (rr x (sB x)) = x ∧ cP (sB x) ∧ sB x ≠ F1.zero:=by
 obtain ⟨n1,n2,n3⟩:=GM (vP h) hx;exact ⟨Bg (n:=F1.neg (cZ (fR x))) (by rw [F1.neg_mul,F1.mul_neg,F1.neg_neg]; exact vP h) rfl (n3 hs) n2,n3 hs,n2⟩
theorem aGq {a : Fq} (h : fD a = true) : sA (a,F1.zero) = a ∧ sB (a,F1.zero) = F1.zero:=by
 have hn : cZ (fR (a,F1.zero)) = a:=by rw [XN]; exact kB rfl h
 unfold sA sB;rw [hn];refine ⟨RM a,?_⟩;show F1.mul (F1.add a (F1.neg a)) hf = F1.zero;rw [F1.add_neg,F1.zero_mul]
theorem aAD {a : Fq} (h : fD a = false) : sA (a,F1.zero) = F1.zero ∧ sB (a,F1.zero) = a:=by
 have hn : cZ (fR (a,F1.zero)) = F1.neg a:=by rw [XN]; exact kB (by rw [F1.neg_mul,F1.mul_neg,F1.neg_neg]) (mI h)
 unfold sA sB;rw [hn];refine ⟨?_,?_⟩
 ·show F1.mul (F1.add a (F1.neg a)) hf = F1.zero;rw [F1.add_neg,F1.zero_mul]
 ·show F1.mul (F1.add a (F1.neg (F1.neg a))) hf = a;rw [F1.neg_neg,RM]
theorem aEc (X : Q2) (G : Option Q2 → Prop)
  (hn : ¬ cP (fR X) → G none)
  (ha : ∀ b,cP (fR X) → cP (sA X) → cZ (sA X) ≠ F1.zero → F2.mul (rr X (sA X)) (rr X (sA X)) = X → lE (rr X (sA X)) (F2.neg (rr X (sA X))) = b → G (some (bif b then rr X (sA X) else F2.neg (rr X (sA X)))))
  (hb : ∀ b,cP (fR X) → ¬ cP (sA X) → cP (sB X) → cZ (sB X) ≠ F1.zero → F2.mul (rr X (sB X)) (rr X (sB X)) = X → lE (rr X (sB X)) (F2.neg (rr X (sB X))) = b → G (some (bif b then rr X (sB X) else F2.neg (rr X (sB X)))))
  (hz0 : cP (fR X) → cP (sA X) → cZ (sA X) = F1.zero → cP (F1.neg X.1) → F2.mul (zr X) (zr X) = X → lE (zr X) (F2.neg (zr X)) = true → G (some (zr X)))
  (hz1 : cP (fR X) → ¬ cP (sA X) → cP (sB X) → cZ (sB X) = F1.zero → cP (F1.neg X.1) → F2.mul (zr X) (zr X) = X → lE (zr X) (F2.neg (zr X)) = true → G (some (zr X)))
  (hzb : cP (fR X) → cP (sA X) → cZ (sA X) = F1.zero → ¬ cP (F1.neg X.1) → cP (sB X) → cZ (sB X) ≠ F1.zero → F2.mul (rr X (sB X)) (rr X (sB X)) = X → lE (rr X (sB X)) (F2.neg (rr X (sB X))) = true → G (some (rr X (sB X)))) :
  (fW X → G (some (rt X))) ∧ (¬ fW X → G none):=by
 by_cases hx : X.2 = F1.zero
 ·obtain ⟨a,rfl⟩ : ∃ a,X = (a,F1.zero):=⟨X.1,Prod.ext rfl hx⟩
  refine ⟨fun _ => ?_,fun h => absurd (oR a).2.2 h⟩;have hN : cP (fR (a,F1.zero)):=⟨a,(XN a).symm⟩;cases hl : fD a
  ·obtain ⟨eA,eB⟩:=aAD hl;have hne : a ≠ F1.zero:=fun e => by rw [e,jZ] at hl; cases hl
   by_cases hq : cP a
   ·have hm:=Bs hq;have hw:=YF (eJ hq).2;rw [(oR a).1 hq];have:=hzb hN (by rw [eA]; exact sH) (by rw [eA]; exact lO) (yI hne hq) (by rw [eB]; exact hq) (by rw [eB]; exact kC hq hne) (by rw [eB,oS]; exact hm) (by rw [eB,oS]; exact hw);rw [eB,oS] at this;exact this
   ·obtain ⟨h1,h2⟩:=aGv (jN hq);rw [h1];exact hz0 hN (by rw [eA]; exact sH) (by rw [eA]; exact lO) (jN hq) (rR (jN hq)) h2
  ·obtain ⟨eA,eB⟩:=aGq hl
   by_cases hq : cP a
   ·by_cases hne : a = F1.zero
    ·have hnz : cP (F1.neg a):=by rw [hne,bP]; exact sH
     obtain ⟨h1,h2⟩:=aGv hnz;rw [h1];exact hz0 hN (by rw [eA]; exact hq) (by rw [eA,hne]; exact lO) hnz (rR hnz) h2
    ·have hm:=Bs hq;have hw:=YF (eJ hq).2;rw [(oR a).1 hq];have:=ha true hN (by rw [eA]; exact hq) (by rw [eA]; exact kC hq hne) (by rw [eA,oS]; exact hm) (by rw [eA,oS]; exact hw);rw [eA,oS] at this;exact this
   ·obtain ⟨h1,h2⟩:=aGv (jN hq);rw [h1];exact hz1 hN (by rw [eA]; exact hq) (by rw [eB]; exact sH) (by rw [eB]; exact lO) (jN hq) (rR (jN hq)) h2
 ·rw [AM hx];refine ⟨fun h => ?_,fun h => hn h⟩
  by_cases hs : cP (sA X)
  ·obtain ⟨hr,hz⟩:=aKC hx h hs;have hr2:=rr2 hx hr;have hw:=JC hr2;cases hl : fD (rr X (sA X)).2
   ·rw [(nK hr hr2).2 hl];exact ha false h hs (kC hs hz) hr (hw.trans hl)
   ·rw [(nK hr hr2).1 hl];exact ha true h hs (kC hs hz) hr (hw.trans hl)
  ·obtain ⟨hr,hq,hz⟩:=aKB hx h hs;have hr2:=rr2 hx hr;have hw:=JC hr2;cases hl : fD (rr X (sB X)).2
   ·rw [(nK hr hr2).2 hl];exact hb false h hs hq (kC hq hz) hr (hw.trans hl)
   ·rw [(nK hr hr2).1 hl];exact hb true h hs hq (kC hq hz) hr (hw.trans hl)
theorem Gn (c : Bool) (x : N2) (y : N2) : dH prog (xQ c) qN (fun _ => true) f63 40 [.v (.fl (q2 x)),.v (.fl (q2 y))] = some ([],.one (.fl (e2 (F2.add (m2 x) (m2 y))))):=by kernel_rfl
def KN (c : Bool) : Tab:=(xQ c).add 63 (g2 nC nC (fun x y => ([],.one (.fl (e2 (F2.add x y))))))
theorem QF (c : Bool) : TabOk prog (KN c):=(zU c).ad func63 (gU cF cF fun x y hp args w ha => aS aG (zU c) cC func63 (Gn c x y) hp ha)
theorem Gm (c : Bool) (x : N2) (y : N2) : dH prog (KN c) qN (fun _ => true) f105 40 [.v (.fl (q2 x)),.v (.fl (q2 y))] = some ([],.one (.fl (e2 (F2.sub (m2 x) (m2 y))))):=by kernel_rfl
def KM (c : Bool) : Tab:=(KN c).add 105 (g2 nC nC (fun x y => ([],.one (.fl (e2 (F2.sub x y))))))
theorem QE (c : Bool) : TabOk prog (KM c):=(QF c).ad func105 (gU cF cF fun x y hp args w ha => aS aG (QF c) cC func105 (Gm c x y) hp ha)
theorem UG (c : Bool) (x : N2) : dH prog (KM c) qN (fun _ => true) f90 40 [.v (.fl (q2 x))] = some ([],.one (.fl (e2 (cL (m2 x))))):=by kernel_rfl
def SR (c : Bool) : Tab:=(KM c).add 90 (g1 nC (fun x => ([],.one (.fl (e2 (cL x))))))
theorem Jw (c : Bool) : TabOk prog (SR c):=(QE c).ad func90 (iC cF fun x hp args w ha => aS aG (QE c) cC func90 (UG c x) hp ha)
theorem aMn {x : Value} {l m : List At} {args : List Value} {w : World} (h : bK w [.v (.im x),.v (.fl l),.v (.fl m)] args) : args = [x,.agg (aC l).toArray,.agg (aC m).toArray]:=by
 match args,h with
 | [v,u,s],h => rw [show v = _ from h.1,show u = _ from h.2.1,show s = _ from h.2.2.1]; rfl
 | [],h => exact h.elim
 | [_],h => exact h.2.elim
 | [_,_],h => exact h.2.2.elim
 | _ :: _ :: _ :: _ :: _,h => exact h.2.2.2.elim
theorem Yo {x : Value} {l : List At} {args : List Value} {w : World} (h : bK w [.v (.im x),.v (.fl l)] args) : args = [x,.agg (aC l).toArray]:=by
 match args,h with
 | [v,u],h => rw [show v = _ from h.1,show u = _ from h.2.1]; rfl
 | [],h => exact h.elim
 | [_],h => exact h.2.elim
 | _ :: _ :: _ :: _,h => exact h.2.2.elim
def Vx : fQ
 | [.v (.im (.int .i64 (.ofNat 1))),.v (.fl l),.v (.fl m)] => match DO l,DO m with
  | some a,some b => some ([b ≠ F1.zero],.many [.fl (e1 (F1.mul a (dZ b))),.im (.int .i64 0)])
  | _,_ => none
 | _ => none
theorem aDD : ∀ cs pre r,Vx cs = some (pre,r) → aP pre → ∀ (args : List Value) (w : World),bK w cs args → Good prog 141 r args w:=by
 intro cs pre r hg hp args w ha;unfold Vx at hg;split at hg
 ·rename_i l m;split at hg
  ·rename_i a b h1 h2;cases hg;have hz : b ≠ F1.zero:=hp.1;have hz' : b.1 ≠ 0:=fun e => hz (Fin.ext e)
   rw [aMn ha,eP l _ h1,eP m _ h2];refine (Dz 1 FP fT _ _ _ _ _ _ _ _ (bM a.1) (bM b.1) (by rw [bF a.2]; exact a.2) (by rw [bF b.2]; exact b.2) (by rw [bF b.2]; exact hz') w).mono ?_
   rintro e w' ⟨s0,s1,s2,s3,rfl,hs,hv,hb⟩
   have hf:=sO b;rw [Nat.one_mul] at hf;have hv' : aA s0 s1 s2 s3 = (F1.mul a (dZ b)).1:=by
    rw [hv,bF a.2,bF b.2];show _ = a.1 * (dZ b).1 % FP.M;rw [hf,Nat.mul_mod_mod]
   obtain ⟨rfl,rfl,rfl,rfl⟩:=fB hs (gV (F1.mul a (dZ b)).2) hv';exact ⟨rfl,hb⟩
  ·cases hg
 ·cases hg
def Vq : fQ
 | [.v (.im (.int .i64 (.ofNat 1))),.v (.fl l)] => match DO l with
  | some x => some ([],.many [.im (.bool (fD x)),.im (.int .i64 0)])
  | none => none
 | _ => none
theorem aCH : ∀ cs pre r,Vq cs = some (pre,r) → aP pre → ∀ (args : List Value) (w : World),bK w cs args → Good prog 80 r args w:=by
 intro cs pre r hg hp args w ha;unfold Vq at hg;split at hg
 ·rename_i l;split at hg
  ·rename_i x h1;cases hg;rw [Yo ha,eP l _ h1];refine (EO 1 FP fT _ _ _ _ (bM x.1) (by rw [bF x.2]; exact x.2) w).mono ?_
   rintro e w' ⟨rfl,hb⟩
   refine ⟨?_,hb⟩;rw [bF x.2];rfl
  ·cases hg
 ·cases hg
def aIi : fQ
 | [.v (.fl l),.v (.fl m)] => match vZ l,vZ m with
  | some a,some b => some ([],.one (.im (.int .i64 (Go.Proofs.YtfnkbmlmgnadmaaGreat.bG (wv a) (wv b)))))
  | _,_ => none
 | _ => none
theorem aIN : ∀ cs pre r,aIi cs = some (pre,r) → aP pre → ∀ (args : List Value) (w : World),bK w cs args → Good prog 78 r args w:=by
 intro cs pre r hg hp args w ha;unfold aIi at hg;split at hg
 ·rename_i l m;split at hg
  ·rename_i a b h1 h2;cases hg;rw [BS ha,dJ l _ h1,dJ m _ h2];exact (R1.refCmp_calls _ _ _ _ _ _ _ _ (bM a) (bM b) w).mono fun e w' h => h
  ·cases hg
 ·cases hg
def Zl (c : Bool) : Tab:=(SR c).add 141 Vx
theorem aCo (c : Bool) : TabOk prog (Zl c):=(Jw c).ad func141 aDD
def ST (c : Bool) : Tab:=(Zl c).add 80 Vq
theorem Jx (c : Bool) : TabOk prog (ST c):=(aCo c).ad func80 aCH
def tH (c : Bool) : Tab:=(ST c).add 78 aIi
theorem rX (c : Bool) : TabOk prog (tH c):=(Jx c).ad func78 aIN
theorem JZ (a b : Nat) : aK .lss .i64 (Go.Proofs.YtfnkbmlmgnadmaaGreat.bG a b) 0 = some (.bool (decide (a < b))):=by
 unfold Go.Proofs.YtfnkbmlmgnadmaaGreat.bG
 by_cases h : a = b
 ·rw [if_pos h,decide_eq_false (by omega)]; rfl
 ·rw [if_neg h]
  by_cases h2 : a < b
  ·rw [if_pos h2,decide_eq_true h2]; rfl
  ·rw [if_neg h2,decide_eq_false h2]; rfl
theorem Ep (a b : Nat) : aK .eql .i64 (Go.Proofs.YtfnkbmlmgnadmaaGreat.bG a b) 0 = some (.bool (decide (a = b))):=by
 unfold Go.Proofs.YtfnkbmlmgnadmaaGreat.bG
 by_cases h : a = b
 ·rw [if_pos h,decide_eq_true h]; rfl
 ·rw [if_neg h,decide_eq_false h]; split <;> rfl
theorem aDF (a b : Nat) : aK .leq .i64 (Go.Proofs.YtfnkbmlmgnadmaaGreat.bG a b) 0 = some (.bool (decide (a ≤ b))):=by
 unfold Go.Proofs.YtfnkbmlmgnadmaaGreat.bG
 by_cases h : a = b
 ·rw [if_pos h,decide_eq_true (by omega)]; rfl
 ·rw [if_neg h]
  by_cases h2 : a < b
  ·rw [if_pos h2,decide_eq_true (by omega)]; rfl
  ·rw [if_neg h2,decide_eq_false (by omega)]; rfl
theorem GQ (c : Bool) (x y : Q2) : aM prog qN (fun _ => ⟨fun _ => tH c,fun _ => true,fun s => bif Nat.beq s 12 then some (.bool true) else bif Nat.beq s 15 then some (.bool false) else bif Nat.beq s 22 then some (.bool false) else none⟩) f77 60 [.v (.fl (e2 x)),.v (.fl (e2 y))] = some ([aK .lss .i64 (Go.Proofs.YtfnkbmlmgnadmaaGreat.bG (wv x.2.1) (wv y.2.1)) 0 = some (.bool true)],.one (.im (.bool true))):=by kernel_rfl
theorem GP (c : Bool) (x y : Q2) : aM prog qN (fun _ => ⟨fun _ => tH c,fun _ => true,fun s => bif Nat.beq s 12 then some (.bool false) else bif Nat.beq s 15 then some (.bool false) else bif Nat.beq s 22 then some (.bool false) else none⟩) f77 60 [.v (.fl (e2 x)),.v (.fl (e2 y))] = some ([aK .lss .i64 (Go.Proofs.YtfnkbmlmgnadmaaGreat.bG (wv x.2.1) (wv y.2.1)) 0 = some (.bool false),aK .eql .i64 (Go.Proofs.YtfnkbmlmgnadmaaGreat.bG (wv x.2.1) (wv y.2.1)) 0 = some (.bool false)],.one (.im (.bool false))):=by kernel_rfl
theorem GO (c b : Bool) (x y : Q2) : aM prog qN (fun _ => ⟨fun _ => tH c,fun _ => true,fun s => bif Nat.beq s 12 then some (.bool false) else bif Nat.beq s 15 then some (.bool true) else bif Nat.beq s 22 then some (.bool b) else none⟩) f77 60 [.v (.fl (e2 x)),.v (.fl (e2 y))] = some ([aK .lss .i64 (Go.Proofs.YtfnkbmlmgnadmaaGreat.bG (wv x.2.1) (wv y.2.1)) 0 = some (.bool false),aK .eql .i64 (Go.Proofs.YtfnkbmlmgnadmaaGreat.bG (wv x.2.1) (wv y.2.1)) 0 = some (.bool true),aK .leq .i64 (Go.Proofs.YtfnkbmlmgnadmaaGreat.bG (wv x.1.1) (wv y.1.1)) 0 = some (.bool b)],.one (.im (.bool b))):=by kernel_rfl
theorem vX (x : Fq) : wv x.1 = x.1:=bF x.2
theorem YG (c : Bool) (x y : Q2) (args : List Value) (w : World) (ha : bK w [.v (.fl (e2 x)),.v (.fl (e2 y))] args) : Good prog 77 (.one (.im (.bool (lE x y)))) args w:=by
 unfold lE
 by_cases h : x.2.1 < y.2.1
 ·rw [decide_eq_true h,Bool.true_or];exact aD aG (fun _ _ => rX c) cC func77 (GQ c x y) ⟨by rw [vX,vX,JZ,decide_eq_true h],trivial⟩ ha
 ·rw [decide_eq_false h,Bool.false_or]
  by_cases h2 : x.2.1 = y.2.1
  ·rw [decide_eq_true h2,Bool.true_and];exact aD aG (fun _ _ => rX c) cC func77 (GO c _ x y) ⟨by rw [vX,vX,JZ,decide_eq_false h],by rw [vX,vX,Ep,decide_eq_true h2],by rw [vX,vX,aDF],trivial⟩ ha
  ·rw [decide_eq_false h2,Bool.false_and];exact aD aG (fun _ _ => rX c) cC func77 (GP c x y) ⟨by rw [vX,vX,JZ,decide_eq_false h],by rw [vX,vX,Ep,decide_eq_false h2],trivial⟩ ha
def Vp (b : Bool) : fQ
 | [.v (.fl l),.v (.fl m)] => match TB l,TB m with
  | some x,some y => some ([lE x y = b],.one (.im (.bool b)))
  | _,_ => none
 | _ => none
theorem Vo (c b : Bool) : ∀ cs pre r,Vp b cs = some (pre,r) → aP pre → ∀ (args : List Value) (w : World),bK w cs args → Good prog 77 r args w:=by
 intro cs pre r hg hp args w ha;unfold Vp at hg;split at hg
 ·rename_i l m;split at hg
  ·rename_i x y h1 h2;cases hg;have e : lE x y = b:=hp.1;subst e;refine YG c x y args w ?_;rw [BS ha,gP l _ h1,gP m _ h2];exact ⟨rfl,rfl,trivial⟩
  ·cases hg
 ·cases hg
def gSq (d : Bool) : fQ
 | [.v (.im (.int .i64 (.ofNat 1))),.v (.fl l)] => match DO l with
  | some x => bif d then some ([cP x],.many [.fl (e1 (cZ x)),.im (.int .i64 0)]) else some ([¬ cP x],.many [.fl (e1 F1.zero),.im (.int .i64 23)])
  | none => none
 | _ => none
theorem Dk {x : Fq} (h : cP x) : x.1 ^ (FP.M / 2) % FP.M = 1 ∨ x.1 = 0:=by
 rw [xC] at h;unfold pI at h
 by_cases h0 : x.1 = 0
 ·exact Or.inr h0
 ·rw [if_neg h0] at h
  by_cases h1 : x.1 ^ (FP.M / 2) % FP.M = 1
  ·exact Or.inl h1
  ·rw [if_neg h1] at h; exact absurd rfl h
theorem Cu {x : Fq} (h : ¬ cP x) : x.1 ≠ 0 ∧ x.1 ^ (FP.M / 2) % FP.M ≠ 1:=by
 rw [IW] at h;unfold pI at h
 by_cases h0 : x.1 = 0
 ·rw [if_pos h0] at h; exact absurd h (by decide)
 ·rw [if_neg h0] at h;refine ⟨h0,fun e => ?_⟩;rw [if_pos e] at h;exact absurd h (by decide)
theorem aDr (x : Fq) (h : cP x) (w : World) : Calls prog 84 #[.int .i64 1,.agg (aC (e1 x)).toArray] w (fun e w' => e = .returned (RV.many [.fl (e1 (cZ x)),.im (.int .i64 0)]).den ∧ Below w.heap.size w w'):=by
 have hx : aA (fw x.1 0) (fw x.1 1) (fw x.1 2) (fw x.1 3) = x.1:=bF x.2
 by_cases h0 : x.1 = 0
 ·refine (EN 1 FP fT _ _ _ _ (bM x.1) (by rw [hx]; exact x.2) (by rw [hx]; exact h0) w).mono ?_
  rintro e w' ⟨s0,s1,s2,s3,rfl,hs,hv,hb⟩
  rw [xG h0,lO];obtain ⟨rfl,rfl,rfl,rfl⟩:=fB hs (gV dC) hv;exact ⟨rfl,hb⟩
 ·refine (sN 1 FP fT _ _ _ _ (bM x.1) (by rw [hx]; exact x.2) (by rw [hx]; exact h0) (by rw [hx]; exact (Dk h).resolve_right h0) w).mono ?_
  rintro e w' ⟨V,⟨s0,s1,s2,s3,rfl,hs,hv,hb⟩,h1,h2,h3⟩
  rw [hx] at h1;have e1 : cZ x = ⟨V,h2⟩:=kB (Fin.ext h1) h3;rw [e1];obtain ⟨rfl,rfl,rfl,rfl⟩:=fB hs (gV h2) hv;exact ⟨rfl,hb⟩
theorem aDq (x : Fq) (h : ¬ cP x) (w : World) : Calls prog 84 #[.int .i64 1,.agg (aC (e1 x)).toArray] w (fun e w' => e = .returned (RV.many [.fl (e1 F1.zero),.im (.int .i64 23)]).den ∧ Below w.heap.size w w'):=by
 have hx : aA (fw x.1 0) (fw x.1 1) (fw x.1 2) (fw x.1 3) = x.1:=bF x.2;obtain ⟨h0,h1⟩:=Cu h;refine (vO 1 FP fT _ _ _ _ (bM x.1) (by rw [hx]; exact x.2) (by rw [hx]; exact h0) (by rw [hx]; exact h1) w).mono ?_
 rintro e w' ⟨s0,s1,s2,s3,rfl,hs,hv,hb⟩
 obtain ⟨rfl,rfl,rfl,rfl⟩:=fB hs (gV dC) hv;exact ⟨rfl,hb⟩
theorem aBj (x : Fq) (h : cP x) (w : World) : Calls prog 72 #[.int .i64 1,.agg (aC (e1 x)).toArray] w (fun e w' => e = .returned (RV.many [.fl (e1 (cZ x)),.im (.int .i64 0)]).den ∧ Below w.heap.size w w'):=by
 have hx : aA (fw x.1 0) (fw x.1 1) (fw x.1 2) (fw x.1 3) = x.1:=bF x.2;refine (WX _ _ _ _ (bM x.1) (by rw [hx]; exact x.2) (by rw [hx]; exact Dk h) w).mono ?_
 rintro e w' ⟨s0,s1,s2,s3,rfl,hs,h1,h2,h3,hb⟩
 rw [hx] at h1;have e1 : cZ x = ⟨aA s0 s1 s2 s3,h2⟩:=kB (Fin.ext h1) h3;rw [e1];obtain ⟨e0,e1,e2,e3⟩:=fB hs (gV h2) rfl;refine ⟨?_,hb⟩;show Ending.returned (.tuple #[.agg #[.int .u64 s0,.int .u64 s1,.int .u64 s2,.int .u64 s3],.int .i64 0]) = .returned (.tuple #[.agg (w4 (aA s0 s1 s2 s3)).toArray,.int .i64 0]);unfold w4;rw [← e0,← e1,← e2,← e3]
theorem aBi (x : Fq) (h : ¬ cP x) (w : World) : Calls prog 72 #[.int .i64 1,.agg (aC (e1 x)).toArray] w (fun e w' => e = .returned (RV.many [.fl (e1 F1.zero),.im (.int .i64 23)]).den ∧ Below w.heap.size w w'):=by
 have hx : aA (fw x.1 0) (fw x.1 1) (fw x.1 2) (fw x.1 3) = x.1:=bF x.2;obtain ⟨h0,h1⟩:=Cu h;have hz : x.1 ^ (FP.M / 2) % FP.M ≠ 0:=fun e => by
  have:=AQ AY (by decide) (by decide) (show 0 < x.1 by omega) x.2;have:=hM;omega
 refine (Pm 1 FP fT _ _ _ _ (bM x.1) (by rw [hx]; unfold uO; rw [if_neg hz,if_neg h1]) w).mono ?_
 rintro e w' ⟨s0,s1,s2,s3,rfl,hs,hv,hb⟩
 obtain ⟨rfl,rfl,rfl,rfl⟩:=fB hs (gV dC) hv;exact ⟨rfl,hb⟩
theorem Vg {f : FuncId} (hA : ∀ x : Fq,cP x → ∀ w,Calls prog f #[.int .i64 1,.agg (aC (e1 x)).toArray] w (fun e w' => e = .returned (RV.many [.fl (e1 (cZ x)),.im (.int .i64 0)]).den ∧ Below w.heap.size w w')) (hN : ∀ x : Fq,¬ cP x → ∀ w,Calls prog f #[.int .i64 1,.agg (aC (e1 x)).toArray] w (fun e w' => e = .returned (RV.many [.fl (e1 F1.zero),.im (.int .i64 23)]).den ∧ Below w.heap.size w w')) (d : Bool) :
  ∀ cs pre r,gSq d cs = some (pre,r) → aP pre → ∀ (args : List Value) (w : World),bK w cs args → Good prog f r args w:=by
 intro cs pre r hg hp args w ha;unfold gSq at hg;split at hg
 ·rename_i l;split at hg
  ·rename_i x h1;cases d
   ·cases hg;rw [Yo ha,eP l _ h1];exact hN x hp.1 w
   ·cases hg;rw [Yo ha,eP l _ h1];exact hA x hp.1 w
  ·cases hg
 ·cases hg
def SS (c d b : Bool) : Tab:=(((tH c).add 77 (Vp b)).add 84 (gSq d)).add 72 (gSq d)
theorem pE (c d b : Bool) : TabOk prog (SS c d b):=(((rX c).ad func77 (Vo c b)).ad func84 (Vg aDr aDq d)).ad func72 (Vg aBj aBi d)
theorem VR (x : Fq) : aM prog (qG prog) (fun m => ⟨fun s => SS true (true) false,fun s => true,fun s => none⟩) f101 60 [.v (.fl (e1 x))] = some ([cP x],.one (.fl (e2 (cZ x,F1.zero)))):=by kernel_rfl
theorem VS (x : Fq) : aM prog (qG prog) (fun m => ⟨fun s => SS true (bif Nat.beq s 7 then false else true) false,fun s => true,fun s => none⟩) f101 60 [.v (.fl (e1 x))] = some ([¬ cP x,cP (F1.neg x)],.one (.fl (e2 (F1.zero,cZ (F1.neg x))))):=by kernel_rfl
theorem XO (x : Fq) (args : List Value) (w : World) (ha : bK w [.v (.fl (e1 x))] args) : Good prog 101 (.one (.fl (e2 (rt (x,F1.zero))))) args w:=by
 by_cases h : cP x
 ·rw [(oR x).1 h];exact aD aG (fun _ _ => pE _ _ _) (aH _) func101 (VR x) ⟨h,trivial⟩ ha
 ·rw [(oR x).2.1 h];exact aD aG (fun _ _ => pE _ _ _) (aH _) func101 (VS x) ⟨h,jN h,trivial⟩ ha
theorem VD (x : Q2) : aM prog (qG prog) (fun m => ⟨fun s => SS true (bif Nat.beq s 17 then false else true) false,fun s => true,fun s => none⟩) f102 60 [.v (.fl (e2 x))] = some ([¬ cP (fR x)],.many [.fl (e2 F2.zero),.im (.int .i64 23)]):=by kernel_rfl
theorem NC (x : Q2) : aM prog (qG prog) (fun m => ⟨fun s => SS true (true) false,fun s => true,fun s => bif Nat.beq s 69 then some (.bool false) else none⟩) f102 60 [.v (.fl (e2 x))] = some ([cP (fR x),fm 2 ≠ F1.zero,cP (sA x),cZ (sA x) ≠ F1.zero,Value.bool (!(fD (rr x (sA x)).2)) = .bool false],.many [.fl (e2 (rr x (sA x))),.im (.int .i64 0)]):=by kernel_rfl
theorem ND (x : Q2) : aM prog (qG prog) (fun m => ⟨fun s => SS true (true) false,fun s => true,fun s => bif Nat.beq s 69 then some (.bool true) else none⟩) f102 60 [.v (.fl (e2 x))] = some ([cP (fR x),fm 2 ≠ F1.zero,cP (sA x),cZ (sA x) ≠ F1.zero,Value.bool (!(fD (rr x (sA x)).2)) = .bool true],.many [.fl (e2 (F2.sub F2.zero (rr x (sA x)))),.im (.int .i64 0)]):=by kernel_rfl
theorem NA (x : Q2) : aM prog (qG prog) (fun m => ⟨fun s => SS true (bif Nat.beq s 36 then false else true) false,fun s => true,fun s => bif Nat.beq s 69 then some (.bool false) else none⟩) f102 60 [.v (.fl (e2 x))] = some ([cP (fR x),fm 2 ≠ F1.zero,¬ cP (sA x),cP (sB x),cZ (sB x) ≠ F1.zero,Value.bool (!(fD (rr x (sB x)).2)) = .bool false],.many [.fl (e2 (rr x (sB x))),.im (.int .i64 0)]):=by kernel_rfl
theorem NB (x : Q2) : aM prog (qG prog) (fun m => ⟨fun s => SS true (bif Nat.beq s 36 then false else true) false,fun s => true,fun s => bif Nat.beq s 69 then some (.bool true) else none⟩) f102 60 [.v (.fl (e2 x))] = some ([cP (fR x),fm 2 ≠ F1.zero,¬ cP (sA x),cP (sB x),cZ (sB x) ≠ F1.zero,Value.bool (!(fD (rr x (sB x)).2)) = .bool true],.many [.fl (e2 (F2.sub F2.zero (rr x (sB x)))),.im (.int .i64 0)]):=by kernel_rfl
def Sy (d : Bool) (x : Q2) : List Prop × RV:=bif d then ([x.2 ≠ F1.zero,fW x],.many [.fl (e2 (rt x)),.im (.int .i64 0)]) else ([x.2 ≠ F1.zero,¬ fW x],.many [.fl (e2 F2.zero),.im (.int .i64 23)])
theorem WY (d : Bool) (x : Q2) (hp : aP (Sy d x).1) (args : List Value) (w : World) (ha : bK w [.v (.fl (e2 x))] args) : Good prog 102 (Sy d x).2 args w:=by
 cases d
 ·obtain ⟨hx,hn,_⟩:=hp;rw [AM hx] at hn;exact aD aG (fun _ _ => pE _ _ _) (aH _) func102 (VD x) ⟨hn,trivial⟩ ha
 ·obtain ⟨hx,hn,_⟩:=hp;rw [AM hx] at hn;show Good _ _ (.many [.fl (e2 (rt x)),.im (.int .i64 0)]) _ _
  by_cases hs : cP (sA x)
  ·obtain ⟨hr,n1⟩:=aKC hx hn hs;have hr2:=rr2 hx hr;cases hl : fD (rr x (sA x)).2
   ·rw [(nK hr hr2).2 hl,← jT];exact aD aG (fun _ _ => pE _ _ _) (aH _) func102 (ND x) ⟨hn,iY,hs,kC hs n1,by rw [hl]; rfl,trivial⟩ ha
   ·rw [(nK hr hr2).1 hl];exact aD aG (fun _ _ => pE _ _ _) (aH _) func102 (NC x) ⟨hn,iY,hs,kC hs n1,by rw [hl]; rfl,trivial⟩ ha
  ·obtain ⟨hr,hq,hz⟩:=aKB hx hn hs;have hr2:=rr2 hx hr;cases hl : fD (rr x (sB x)).2
   ·rw [(nK hr hr2).2 hl,← jT];exact aD aG (fun _ _ => pE _ _ _) (aH _) func102 (NB x) ⟨hn,iY,hs,hq,kC hq hz,by rw [hl]; rfl,trivial⟩ ha
   ·rw [(nK hr hr2).1 hl];exact aD aG (fun _ _ => pE _ _ _) (aH _) func102 (NA x) ⟨hn,iY,hs,hq,kC hq hz,by rw [hl]; rfl,trivial⟩ ha
def T_r (d : Bool) : Tab:=((SS true true true).add 101 (g1 DO fun x => ([],.one (.fl (e2 (rt (x,F1.zero))))))).add 102 (g1 TB (Sy d))
theorem aHg (d : Bool) : TabOk prog (T_r d):=((pE true true true).ad func101 (cN eP fun x _ args w ha => XO x args w ha)).ad func102 (cN gP (WY d))
theorem aBc (x : N2) : aM prog (qG prog) (fun _ => ⟨fun _ => T_r true,fun s => bif Nat.beq s 12 then true else true,fun _ => none⟩) f62 60 [.v (.fl (q2 x))] = some ([aC [.f (m2 x).2] = aC [.f F1.zero]],.many [.fl (e2 (rt ((m2 x).1,F1.zero))),.im (.int .i64 0)]):=by kernel_rfl
theorem aBd (x : N2) : aM prog (qG prog) (fun _ => ⟨fun _ => T_r true,fun s => bif Nat.beq s 12 then false else true,fun _ => none⟩) f62 60 [.v (.fl (q2 x))] = some ([aC [.f (m2 x).2] ≠ aC [.f F1.zero],(m2 x).2 ≠ F1.zero,fW (m2 x)],.many [.fl (e2 (rt (m2 x))),.im (.int .i64 0)]):=by kernel_rfl
theorem aBe (x : N2) : aM prog (qG prog) (fun _ => ⟨fun _ => T_r false,fun s => bif Nat.beq s 12 then false else true,fun _ => none⟩) f62 60 [.v (.fl (q2 x))] = some ([aC [.f (m2 x).2] ≠ aC [.f F1.zero],(m2 x).2 ≠ F1.zero,¬ fW (m2 x)],.many [.fl (e2 F2.zero),.im (.int .i64 23)]):=by kernel_rfl
def oS2 (d : Bool) (x : Q2) : List Prop × RV:=bif d then ([fW x],.many [.fl (e2 (rt x)),.im (.int .i64 0)]) else ([¬ fW x],.many [.fl (e2 F2.zero),.im (.int .i64 23)])
theorem Zt (d : Bool) (x : N2) (hp : aP (oS2 d (m2 x)).1) (args : List Value) (w : World) (ha : bK w [.v (.fl (q2 x))] args) : Good prog 62 (oS2 d (m2 x)).2 args w:=by
 by_cases hx : (m2 x).2 = F1.zero
 ·have e : m2 x = ((m2 x).1,F1.zero):=Prod.ext rfl hx;cases d
  ·exact absurd (by rw [e]; exact (oR _).2.2) (show ¬ fW (m2 x) from hp.1)
  ·show Good _ _ (.many [.fl (e2 (rt (m2 x))),.im (.int .i64 0)]) _ _;rw [e];exact aD aG (fun _ _ => aHg _) (aH _) func62 (aBc x) ⟨by rw [hx],trivial⟩ ha
 ·cases d
  ·exact aD aG (fun _ _ => aHg _) (aH _) func62 (aBe x) ⟨fun h => hx (uT h),hx,hp.1,trivial⟩ ha
  ·exact aD aG (fun _ _ => aHg _) (aH _) func62 (aBd x) ⟨fun h => hx (uT h),hx,hp.1,trivial⟩ ha
def sC (y : Q2) : Fq:=F1.mul (F1.add y.1 (F1.sub F1.zero (cZ (fR y)))) hf
def zC (y : Q2) : Q2:=(F1.zero,cZ (F1.sub F1.zero y.1))
def RB (y : Q2) (s : Fq) : Q2:=(cZ s,F1.mul y.2 (dZ (F1.add (cZ s) (cZ s))))
theorem Bd (y : Q2) : sC y = sB y:=by unfold sC; rw [MJ]; rfl
theorem aEl (y : Q2) : zC y = zr y:=by unfold zC; rw [MJ]; rfl
theorem SW {y : Q2} {s : Fq} (h : cZ s ≠ F1.zero) : RB y s = rr y s:=aMA h
theorem aBf (x : N2) : aM prog (qG prog) (fun m => ⟨fun s => SS true (bif Nat.beq s 32 then false else true) false,fun s => true,fun s => none⟩) f38 60 [.v (.fl (q2 x))] = some ([¬ cP (fR (F2.sub (m2 x) F2.zero))],.many [.fl (e2 F2.zero),.im (.int .i64 23)]):=by kernel_rfl
theorem Pe (x : N2) : aM prog (qG prog) (fun m => ⟨fun s => SS true (true) true,fun s => bif Nat.beq s 67 then false else true,fun s => none⟩) f38 60 [.v (.fl (q2 x))] = some ([cP (fR (F2.sub (m2 x) F2.zero)),fm 2 ≠ F1.zero,cP (sA (F2.sub (m2 x) F2.zero)),aC [.f (cZ (sA (F2.sub (m2 x) F2.zero)))] ≠ aC [.f F1.zero],F1.add (cZ (sA (F2.sub (m2 x) F2.zero))) (cZ (sA (F2.sub (m2 x) F2.zero))) ≠ F1.zero,aC (e2 (F2.mul (RB (F2.sub (m2 x) F2.zero) (sA (F2.sub (m2 x) F2.zero))) (RB (F2.sub (m2 x) F2.zero) (sA (F2.sub (m2 x) F2.zero))))) = aC (e2 (F2.sub (m2 x) F2.zero)),lE (RB (F2.sub (m2 x) F2.zero) (sA (F2.sub (m2 x) F2.zero))) (F2.sub F2.zero (RB (F2.sub (m2 x) F2.zero) (sA (F2.sub (m2 x) F2.zero)))) = true],.many [.fl (e2 (RB (F2.sub (m2 x) F2.zero) (sA (F2.sub (m2 x) F2.zero)))),.im (.int .i64 0)]):=by kernel_rfl
theorem Pc (x : N2) : aM prog (qG prog) (fun m => ⟨fun s => SS true (bif Nat.beq s 58 && Nat.beq m 44 then false else true) true,fun s => bif Nat.beq s 67 then false else true,fun s => none⟩) f38 60 [.v (.fl (q2 x))] = some ([cP (fR (F2.sub (m2 x) F2.zero)),fm 2 ≠ F1.zero,¬ cP (sA (F2.sub (m2 x) F2.zero)),cP (sC (F2.sub (m2 x) F2.zero)),aC [.f (cZ (sC (F2.sub (m2 x) F2.zero)))] ≠ aC [.f F1.zero],F1.add (cZ (sC (F2.sub (m2 x) F2.zero))) (cZ (sC (F2.sub (m2 x) F2.zero))) ≠ F1.zero,aC (e2 (F2.mul (RB (F2.sub (m2 x) F2.zero) (sC (F2.sub (m2 x) F2.zero))) (RB (F2.sub (m2 x) F2.zero) (sC (F2.sub (m2 x) F2.zero))))) = aC (e2 (F2.sub (m2 x) F2.zero)),lE (RB (F2.sub (m2 x) F2.zero) (sC (F2.sub (m2 x) F2.zero))) (F2.sub F2.zero (RB (F2.sub (m2 x) F2.zero) (sC (F2.sub (m2 x) F2.zero)))) = true],.many [.fl (e2 (RB (F2.sub (m2 x) F2.zero) (sC (F2.sub (m2 x) F2.zero)))),.im (.int .i64 0)]):=by kernel_rfl
theorem Pf (x : N2) : aM prog (qG prog) (fun m => ⟨fun s => SS true (true) false,fun s => bif Nat.beq s 67 then false else true,fun s => none⟩) f38 60 [.v (.fl (q2 x))] = some ([cP (fR (F2.sub (m2 x) F2.zero)),fm 2 ≠ F1.zero,cP (sA (F2.sub (m2 x) F2.zero)),aC [.f (cZ (sA (F2.sub (m2 x) F2.zero)))] ≠ aC [.f F1.zero],F1.add (cZ (sA (F2.sub (m2 x) F2.zero))) (cZ (sA (F2.sub (m2 x) F2.zero))) ≠ F1.zero,aC (e2 (F2.mul (RB (F2.sub (m2 x) F2.zero) (sA (F2.sub (m2 x) F2.zero))) (RB (F2.sub (m2 x) F2.zero) (sA (F2.sub (m2 x) F2.zero))))) = aC (e2 (F2.sub (m2 x) F2.zero)),lE (RB (F2.sub (m2 x) F2.zero) (sA (F2.sub (m2 x) F2.zero))) (F2.sub F2.zero (RB (F2.sub (m2 x) F2.zero) (sA (F2.sub (m2 x) F2.zero)))) = false],.many [.fl (e2 (F2.sub F2.zero (RB (F2.sub (m2 x) F2.zero) (sA (F2.sub (m2 x) F2.zero))))),.im (.int .i64 0)]):=by kernel_rfl
theorem Pd (x : N2) : aM prog (qG prog) (fun m => ⟨fun s => SS true (bif Nat.beq s 58 && Nat.beq m 44 then false else true) false,fun s => bif Nat.beq s 67 then false else true,fun s => none⟩) f38 60 [.v (.fl (q2 x))] = some ([cP (fR (F2.sub (m2 x) F2.zero)),fm 2 ≠ F1.zero,¬ cP (sA (F2.sub (m2 x) F2.zero)),cP (sC (F2.sub (m2 x) F2.zero)),aC [.f (cZ (sC (F2.sub (m2 x) F2.zero)))] ≠ aC [.f F1.zero],F1.add (cZ (sC (F2.sub (m2 x) F2.zero))) (cZ (sC (F2.sub (m2 x) F2.zero))) ≠ F1.zero,aC (e2 (F2.mul (RB (F2.sub (m2 x) F2.zero) (sC (F2.sub (m2 x) F2.zero))) (RB (F2.sub (m2 x) F2.zero) (sC (F2.sub (m2 x) F2.zero))))) = aC (e2 (F2.sub (m2 x) F2.zero)),lE (RB (F2.sub (m2 x) F2.zero) (sC (F2.sub (m2 x) F2.zero))) (F2.sub F2.zero (RB (F2.sub (m2 x) F2.zero) (sC (F2.sub (m2 x) F2.zero)))) = false],.many [.fl (e2 (F2.sub F2.zero (RB (F2.sub (m2 x) F2.zero) (sC (F2.sub (m2 x) F2.zero))))),.im (.int .i64 0)]):=by kernel_rfl
theorem Pb (x : N2) : aM prog (qG prog) (fun m => ⟨fun s => SS true (true) true,fun s => true,fun s => none⟩) f38 60 [.v (.fl (q2 x))] = some ([cP (fR (F2.sub (m2 x) F2.zero)),fm 2 ≠ F1.zero,cP (sA (F2.sub (m2 x) F2.zero)),aC [.f (cZ (sA (F2.sub (m2 x) F2.zero)))] = aC [.f F1.zero],cP (F1.sub F1.zero (F2.sub (m2 x) F2.zero).1),aC (e2 (F2.mul (zC (F2.sub (m2 x) F2.zero)) (zC (F2.sub (m2 x) F2.zero)))) = aC (e2 (F2.sub (m2 x) F2.zero)),lE (zC (F2.sub (m2 x) F2.zero)) (F2.sub F2.zero (zC (F2.sub (m2 x) F2.zero))) = true],.many [.fl (e2 (zC (F2.sub (m2 x) F2.zero))),.im (.int .i64 0)]):=by kernel_rfl
theorem Pa (x : N2) : aM prog (qG prog) (fun m => ⟨fun s => SS true (bif Nat.beq s 58 && Nat.beq m 44 then false else true) true,fun s => true,fun s => none⟩) f38 60 [.v (.fl (q2 x))] = some ([cP (fR (F2.sub (m2 x) F2.zero)),fm 2 ≠ F1.zero,¬ cP (sA (F2.sub (m2 x) F2.zero)),cP (sC (F2.sub (m2 x) F2.zero)),aC [.f (cZ (sC (F2.sub (m2 x) F2.zero)))] = aC [.f F1.zero],cP (F1.sub F1.zero (F2.sub (m2 x) F2.zero).1),aC (e2 (F2.mul (zC (F2.sub (m2 x) F2.zero)) (zC (F2.sub (m2 x) F2.zero)))) = aC (e2 (F2.sub (m2 x) F2.zero)),lE (zC (F2.sub (m2 x) F2.zero)) (F2.sub F2.zero (zC (F2.sub (m2 x) F2.zero))) = true],.many [.fl (e2 (zC (F2.sub (m2 x) F2.zero))),.im (.int .i64 0)]):=by kernel_rfl
theorem Oz (x : N2) : aM prog (qG prog) (fun m => ⟨fun s => SS true (bif Nat.beq s 73 then false else true) true,fun s => bif Nat.beq s 67 && Nat.beq m 39 then false else true,fun s => none⟩) f38 60 [.v (.fl (q2 x))] = some ([cP (fR (F2.sub (m2 x) F2.zero)),fm 2 ≠ F1.zero,cP (sA (F2.sub (m2 x) F2.zero)),aC [.f (cZ (sA (F2.sub (m2 x) F2.zero)))] = aC [.f F1.zero],¬ cP (F1.sub F1.zero (F2.sub (m2 x) F2.zero).1),cP (sC (F2.sub (m2 x) F2.zero)),aC [.f (cZ (sC (F2.sub (m2 x) F2.zero)))] ≠ aC [.f F1.zero],F1.add (cZ (sC (F2.sub (m2 x) F2.zero))) (cZ (sC (F2.sub (m2 x) F2.zero))) ≠ F1.zero,aC (e2 (F2.mul (RB (F2.sub (m2 x) F2.zero) (sC (F2.sub (m2 x) F2.zero))) (RB (F2.sub (m2 x) F2.zero) (sC (F2.sub (m2 x) F2.zero))))) = aC (e2 (F2.sub (m2 x) F2.zero)),lE (RB (F2.sub (m2 x) F2.zero) (sC (F2.sub (m2 x) F2.zero))) (F2.sub F2.zero (RB (F2.sub (m2 x) F2.zero) (sC (F2.sub (m2 x) F2.zero)))) = true],.many [.fl (e2 (RB (F2.sub (m2 x) F2.zero) (sC (F2.sub (m2 x) F2.zero)))),.im (.int .i64 0)]):=by kernel_rfl
theorem SV (d : Bool) (x : N2) (hp : aP (oS2 d (m2 x)).1) (args : List Value) (w : World) (ha : bK w [.v (.fl (q2 x))] args) : Good prog 38 (oS2 d (m2 x)).2 args w:=by
 have hY : (F2.sub (m2 x) F2.zero) = m2 x:=aFE _;have main:=aEc (m2 x) (fun o => match o with | some r => Good prog 38 (.many [.fl (e2 r),.im (.int .i64 0)]) args w | none => Good prog 38 (.many [.fl (e2 F2.zero),.im (.int .i64 23)]) args w) ?_ ?_ ?_ ?_ ?_ ?_
 ·cases d
  ·exact main.2 hp.1
  ·exact main.1 hp.1
 all_goals show _
 ·intro h1;have k:=aBf x;rw [hY] at k;exact aD aG (fun _ _ => pE _ _ _) (aH _) func38 k ⟨h1,trivial⟩ ha
 ·intro b h1 h2 h3 h4 h5;have hB:=(xN (m2 x).2 h3).1;have h3' : aC [.f (cZ (sA (m2 x)))] ≠ aC [.f F1.zero]:=fun e => h3 (uT e)
  cases b
  ·have k:=Pf x;rw [hY,SW h3,jT] at k;exact aD aG (fun _ _ => pE _ _ _) (aH _) func38 k ⟨h1,iY,h2,h3',hB,by rw [h4],h5,trivial⟩ ha
  ·have k:=Pe x;rw [hY,SW h3,jT] at k;exact aD aG (fun _ _ => pE _ _ _) (aH _) func38 k ⟨h1,iY,h2,h3',hB,by rw [h4],h5,trivial⟩ ha
 ·intro b h1 h2 h2' h3 h4 h5;have hB:=(xN (m2 x).2 h3).1;have h3' : aC [.f (cZ (sB (m2 x)))] ≠ aC [.f F1.zero]:=fun e => h3 (uT e)
  cases b
  ·have k:=Pd x;rw [hY,Bd,SW h3,jT] at k;exact aD aG (fun _ _ => pE _ _ _) (aH _) func38 k ⟨h1,iY,h2,h2',h3',hB,by rw [h4],h5,trivial⟩ ha
  ·have k:=Pc x;rw [hY,Bd,SW h3,jT] at k;exact aD aG (fun _ _ => pE _ _ _) (aH _) func38 k ⟨h1,iY,h2,h2',h3',hB,by rw [h4],h5,trivial⟩ ha
 ·intro h1 h2 h3 h4 h5 h6;have k:=Pb x;rw [hY,aEl,jT,MJ] at k;exact aD aG (fun _ _ => pE _ _ _) (aH _) func38 k ⟨h1,iY,h2,by rw [h3],h4,by rw [h5],h6,trivial⟩ ha
 ·intro h1 h2 h2' h3 h4 h5 h6;have k:=Pa x;rw [hY,Bd,aEl,jT,MJ] at k;exact aD aG (fun _ _ => pE _ _ _) (aH _) func38 k ⟨h1,iY,h2,h2',by rw [h3],h4,by rw [h5],h6,trivial⟩ ha
 ·intro h1 h2 h3 h4 h5 h6 h7 h8;have hB:=(xN (m2 x).2 h6).1;have h6' : aC [.f (cZ (sB (m2 x)))] ≠ aC [.f F1.zero]:=fun e => h6 (uT e)
  have k:=Oz x;rw [hY,Bd,SW h6,jT,MJ] at k;exact aD aG (fun _ _ => pE _ _ _) (aH _) func38 k ⟨h1,iY,h2,by rw [h3],h4,h5,h6',hB,by rw [h7],h8,trivial⟩ ha
def cu2 (x : Q2) : Q2:=F2.mul (F2.mul x x) x
def DF (x : Q2) : Q2:=F2.add (cu2 x) lY
def rt2 (d : Bool) (s : Q2) : Q2:=bif d then rt s else F2.zero
theorem Ht (x : N2) : aM prog (qG prog) (iK pV) f64 60 [.v (.fl (q2 x))] = some ([],.one (.fl (e2 (cu2 (m2 x))))):=by kernel_rfl
def Zn : Tab:=pV.add 64 (g1 nC fun x => ([],.one (.fl (e2 (cu2 x)))))
theorem So : TabOk prog Zn:=mF.ad func64 (iC cF fun x hp args w ha => aD aG (fun _ _ => mF) (aH prog) func64 (Ht x) trivial ha)
theorem Ou : aM prog (qG prog) (iK Zn) f65 60 [] = some ([],.one (.fl (e2 lY))):=by kernel_rfl
def Zo : Tab:=Zn.add 65 (g0 (.one (.fl (e2 lY))))
theorem Sp : TabOk prog Zo:=So.ad func65 (AW fun w => aD aG (fun _ s => So) (aH prog) func65 Ou trivial (args:=[]) trivial)
theorem aLl (y : N2) : Zo 66 [.v (.fl (q2 y))] = some ([],.one (.fl (e2 (F2.sub F2.zero (m2 y))))):=by kernel_rfl
def aFx : Tab:=Zo.add 66 (g1 nC fun y => ([],.one (.fl (e2 (F2.neg y)))))
theorem aHh : TabOk prog aFx:=Sp.ad func66 (iC (op:=fun y => ([],.one (.fl (e2 (F2.neg y))))) cF fun y hp args w ha => by
 have h:=(Sp _ _ _ _ (aLl y) trivial).2 args w ha;rw [jT] at h;exact h)
def Zc (d : Bool) : Tab:=aFx.add 62 (g1 nC (oS2 d))
theorem Sg (d : Bool) : TabOk prog (Zc d):=aHh.ad func62 (iC cF (Zt d))
def FQ (m : Nat) (d : Bool) (x : N2) : Q2:=bif Nat.beq m 3 then F2.neg (rt2 d (DF (m2 x))) else rt2 d (DF (m2 x))
def pR2 (d : Bool) (x : N2) : List Prop:=[(bif d then fW (DF (m2 x)) else ¬ fW (DF (m2 x)))]
theorem NF (d : Bool) (x : N2) : aM prog (qG prog) (iK (Zc d)) f34 60 [.v (.fl (q2 x)),.v (.im (.int .u8 2))] = some (pR2 d x,.one (.fl (e2 (FQ 2 d x)))):=by cases d <;> kernel_rfl
theorem NE (d : Bool) (x : N2) : aM prog (qG prog) (iK (Zc d)) f34 60 [.v (.fl (q2 x)),.v (.im (.int .u8 3))] = some (pR2 d x,.one (.fl (e2 (FQ 3 d x)))):=by cases d <;> kernel_rfl
def aHP (m : Nat) (d : Bool) : fQ
 | [.v (.fl l),.v (.im (.int .u8 (.ofNat m')))] => match Bh l with
  | some x => bif Nat.beq m' m then some (pR2 d x,.one (.fl (e2 (FQ m d x)))) else none
  | none => none
 | _ => none
theorem aDc (m : Nat) (hm : m = 2 ∨ m = 3) (d : Bool) : ∀ cs pre r,aHP m d cs = some (pre,r) → aP pre → ∀ (args : List Value) (w : World),bK w cs args → Good prog 34 r args w:=by
 intro cs pre r hg hp args w ha;unfold aHP at hg;split at hg
 ·rename_i l m';split at hg
  ·rename_i x hx;cases hb : Nat.beq m' m <;> rw [hb] at hg
   ·cases hg
   ·have hmm:=Nat.eq_of_beq_eq_true hb;subst hmm;cases hg;have ha' : bK w [.v (.fl (q2 x)),.v (.im (.int .u8 (Int.ofNat m')))] args:=by
     match args,ha with
     | [u,v],ha => exact ⟨by have h1 : u = .agg (aC l).toArray:=ha.1; rw [jA l _ hx] at h1; exact h1,ha.2.1,trivial⟩
     | [],ha => exact ha.elim
     | [_],ha => exact ha.2.elim
     | _ :: _ :: _ :: _,ha => exact ha.2.2.elim
    rcases hm with rfl | rfl
    ·exact aD aG (fun _ _ => Sg d) (aH prog) func34 (NF d x) hp ha'
    ·exact aD aG (fun _ _ => Sg d) (aH prog) func34 (NE d x) hp ha'
  ·cases hg
 ·cases hg
def tL : List At:=[.f F1.zero,.f F1.zero,.f F1.zero,.f F1.zero,.c (.bool false)]
def ZZ (k : Bool) : Tab:=T0.add 11 (Dr k)
theorem Cl (k : Bool) : TabOk prog (ZZ k):=(dB _).ad func11 (AU Br k)
theorem It (p : dM) : aM prog (qG prog) (iK (ZZ true)) f35 60 [.v (.fl (dR p)),.v (.im (.func (.func 11) #[] #[]))] = some ([gH p = 0],.many [.fl (dR p),.im (.int .i64 0)]):=by kernel_rfl
theorem Iu (p : dM) : aM prog (qG prog) (cfN (ZZ false) 12) f35 60 [.v (.fl (dR p)),.v (.im (.func (.func 11) #[] #[]))] = some ([aK .neq .i64 (gH p) 0 = some (.bool true)],.many [.fl tL,.im (.int .i64 (gH p))]):=by kernel_rfl
def gS (a : Bool) (p : dM) : List Prop × RV:=bif a then ([gH p = 0],.many [.fl (dR p),.im (.int .i64 0)]) else ([gH p ≠ 0],.many [.fl tL,.im (.int .i64 (gH p))])
def aIs (a : Bool) : fQ
 | [.v (.fl l),.v (.im (.func (.func f) fi ca))] => match Jb l with
  | some p => bif Nat.beq f 11 && (Nat.beq fi.size 0 && Nat.beq ca.size 0) then some (gS a p) else none
  | none => none
 | _ => none
theorem aDm (a : Bool) : ∀ cs pre r,aIs a cs = some (pre,r) → aP pre → ∀ (args : List Value) (w : World),bK w cs args → Good prog 35 r args w:=by
 intro cs pre r hg hp args w ha;unfold aIs at hg;split at hg
 ·rename_i l f fi ca;split at hg
  ·rename_i p hx;cases hb : (Nat.beq f 11 && (Nat.beq fi.size 0 && Nat.beq ca.size 0)) <;> rw [hb] at hg
   ·cases hg
   ·simp only [Bool.and_eq_true] at hb;have hmm:=Nat.eq_of_beq_eq_true hb.1;subst hmm;have e5 : fi = #[]:=Array.eq_empty_of_size_eq_zero (Nat.eq_of_beq_eq_true hb.2.1);have e6 : ca = #[]:=Array.eq_empty_of_size_eq_zero (Nat.eq_of_beq_eq_true hb.2.2);subst e5; subst e6;have ha' : bK w [.v (.fl (dR p)),.v (.im (.func (.func 11) #[] #[]))] args:=by
     match args,ha with
     | [u,v],ha => exact ⟨by have h1 : u = .agg (aC l).toArray:=ha.1; rw [jB l _ hx] at h1; exact h1,ha.2.1,trivial⟩
     | [],ha => exact ha.elim
     | [_],ha => exact ha.2.elim
     | _ :: _ :: _ :: _,ha => exact ha.2.2.elim
    cases a
    ·cases hg;exact aD aG (fun _ _ => Cl false) (aH prog) func35 (Iu p) ⟨by show some (Value.bool (gH p != 0)) = _; rw [bne_iff_ne.2 hp.1],trivial⟩ ha'
    ·cases hg;exact aD aG (fun _ _ => Cl true) (aH prog) func35 (It p) ⟨hp.1,trivial⟩ ha'
  ·cases hg
 ·cases hg
def FL (m : Nat) (d a : Bool) : Tab:=((T0.add 33 AS).add 34 (aHP m d)).add 35 (aIs a)
theorem zT (m : Nat) (hm : m = 2 ∨ m = 3) (d a : Bool) : TabOk prog (FL m d a):=(((dB _).ad func33 uQ).ad func34 (aDc m hm d)).ad func35 (aDm a)
def xK2 (m : Nat) : Ext:=x3 (TE.add 32 (gUk m)) KL (fun _ => none) (fun _ => none)
theorem TG (m : Nat) (hm : m = 1 ∨ m = 2 ∨ m = 3) (w : World) : cH prog (qY prog (xK2 m)) w.heap.size w:=kQ ((gX _).ad func32 (aHF m hm)) (gJ _) w
def xL2 (m : Nat) : Ext:=x3 (TE.add 32 (gUl m)) KL (fun _ => none) (fun _ => none)
theorem Lr (m : Nat) (hm : m = 0 ∨ m = 1) (w : World) : cH prog (qY prog (xL2 m)) w.heap.size w:=kQ ((gX _).ad func32 (aHD m hm)) (gJ _) w
def pUk (m : Nat) (B C : Nat → Nat) (c : Nat) : List Prop:=[L6 (bN B ++ bN C),B 0 / 64 = m,64 ≤ c]
def pUl (m : Nat) (B C D E : Nat → Nat) (c : Nat) : List Prop:=[LL ((bN B ++ bN C) ++ (bN D ++ bN E)),B 0 / 64 = m,128 ≤ c]
def x6 (L : List Nat) : N2:=(lo L,hi L)
def DG (L : List Nat) : N2:=(i4 L,h4 L)
def CJ (L : List Nat) : N2:=(k4 L,j4 L)
def gZ (y : Q2) : N2:=(y.1.1,y.2.1)
def aFw : Tab:=T0.add 32 aHG
theorem aHf : TabOk prog aFw:=(dB _).ad func32 aCZ
def Ze (m : Nat) : Tab:=T0.add 32 (aHE m)
theorem aCk (m : Nat) (hm : m = 2 ∨ m = 3) : TabOk prog (Ze m):=(dB _).ad func32 (aCY m hm)
theorem Nw (B C : Nat → Nat) (c : Nat) : aM prog (qG prog) (iK aFw) f16 80 [.s (bL B ++ bL C) 64 c] = some (pUk 0 B C c,.many [.fl tL,.im (.int .i64 44)]):=by kernel_rfl
theorem Nv (a : Bool) (B C : Nat → Nat) (c : Nat) : aM prog (qY prog (xK2 1)) (iK (FL 2 true a)) f16 80 [.s (bL B ++ bL C) 64 c] = some (pUk 1 B C c ++ (gS a (x6 (bN B ++ bN C),(0,0),true)).1,(gS a (x6 (bN B ++ bN C),(0,0),true)).2):=by cases a <;> kernel_rfl
theorem Nu (d a : Bool) (B C : Nat → Nat) (c : Nat) : aM prog (qY prog (xK2 2)) (iK (FL 2 d a)) f16 80 [.s (bL B ++ bL C) 64 c] = some (pUk 2 B C c ++ pR2 d (x6 (bN B ++ bN C)) ++ (gS a (x6 (bN B ++ bN C),gZ (FQ 2 d (x6 (bN B ++ bN C))),false)).1,(gS a (x6 (bN B ++ bN C),gZ (FQ 2 d (x6 (bN B ++ bN C))),false)).2):=by cases a <;> kernel_rfl
theorem Nt (d a : Bool) (B C : Nat → Nat) (c : Nat) : aM prog (qY prog (xK2 3)) (iK (FL 3 d a)) f16 80 [.s (bL B ++ bL C) 64 c] = some (pUk 3 B C c ++ pR2 d (x6 (bN B ++ bN C)) ++ (gS a (x6 (bN B ++ bN C),gZ (FQ 3 d (x6 (bN B ++ bN C))),false)).1,(gS a (x6 (bN B ++ bN C),gZ (FQ 3 d (x6 (bN B ++ bN C))),false)).2):=by cases a <;> kernel_rfl
theorem Hc (m : Nat) (B C D E : Nat → Nat) (c : Nat) : aM prog (qG prog) (iK (Ze m)) f16 80 [.s (wM B C D E) 128 c] = some (pUl m B C D E c,.many [.fl tL,.im (.int .i64 44)]):=by kernel_rfl
theorem He (a : Bool) (B C D E : Nat → Nat) (c : Nat) : aM prog (qY prog (xL2 0)) (iK (FL 2 true a)) f16 80 [.s (wM B C D E) 128 c] = some (pUl 0 B C D E c ++ (gS a (DG ((bN B ++ bN C) ++ (bN D ++ bN E)),CJ ((bN B ++ bN C) ++ (bN D ++ bN E)),false)).1,(gS a (DG ((bN B ++ bN C) ++ (bN D ++ bN E)),CJ ((bN B ++ bN C) ++ (bN D ++ bN E)),false)).2):=by cases a <;> kernel_rfl
theorem Hd (a : Bool) (B C D E : Nat → Nat) (c : Nat) : aM prog (qY prog (xL2 1)) (iK (FL 2 true a)) f16 80 [.s (wM B C D E) 128 c] = some (pUl 1 B C D E c ++ (gS a (DG ((bN B ++ bN C) ++ (bN D ++ bN E)),CJ ((bN B ++ bN C) ++ (bN D ++ bN E)),true)).1,(gS a (DG ((bN B ++ bN C) ++ (bN D ++ bN E)),CJ ((bN B ++ bN C) ++ (bN D ++ bN E)),true)).2):=by cases a <;> kernel_rfl
theorem Ns (p : Option Addr) (n c : Nat) : aM prog (qG prog) (iK (T0.add 32 gUo)) f16 80 [.v (.im (.slice p n c))] = some ([n ≠ 64,n ≠ 128],.many [.fl tL,.im (.int .i64 3)]):=by kernel_rfl
theorem PD (p : Option Addr) (n c : Nat) (h1 : n ≠ 64) (h2 : n ≠ 128) (w : World) : Good prog 16 (.many [.fl tL,.im (.int .i64 3)]) [.slice p n c] w :=
 aD aG (fun _ _ => (dB _).ad func32 aHC) (aH prog) func16 (Ns p n c) ⟨h1,h2,trivial⟩ ⟨rfl,trivial⟩
theorem aBC {l : List At} {L : List Nat} {c : Nat} (hL : kY l = some L) (h6 : L6 L) (hb : (L.take 32).getD 0 0 / 64 = 0) (hc : 64 ≤ c) (args : List Value) (w : World) (ha : bK w [.s l 64 c] args) : Good prog 16 (.many [.fl tL,.im (.int .i64 44)]) args w :=
 aD aG (fun _ _ => aHf) (aH prog) func16 (Nw (fun k => (L.take 32).getD k 0) (fun k => (L.drop 32).getD k 0) c) ⟨by rw [b6N h6]; exact h6,hb,hc,trivial⟩ (nA (gI hL h6) ha)
theorem Qf {l : List At} {L : List Nat} {c : Nat} (a : Bool) (hL : kY l = some L) (h6 : L6 L) (hb : (L.take 32).getD 0 0 / 64 = 1) (hc : 64 ≤ c) (hp : aP (gS a (x6 L,(0,0),true)).1) (args : List Value) (w : World) (ha : bK w [.s l 64 c] args) : Good prog 16 (gS a (x6 L,(0,0),true)).2 args w:=by
 have hN:=b6N h6;have h:=aU aG (fun _ _ => (zT 2 (Or.inl rfl) true a).w _ _) (TG 1 (Or.inl rfl) w) func16 (Nv a (fun k => (L.take 32).getD k 0) (fun k => (L.drop 32).getD k 0) c) (aN.2 ⟨⟨by rw [hN]; exact h6,hb,hc,trivial⟩,by rw [hN]; exact hp⟩) (nA (gI hL h6) ha);rw [hN] at h;exact h
theorem Bm {l : List At} {L : List Nat} {c m : Nat} (hm : m = 2 ∨ m = 3) (d a : Bool) (hL : kY l = some L) (h6 : L6 L) (hb : (L.take 32).getD 0 0 / 64 = m) (hc : 64 ≤ c) (hr : aP (pR2 d (x6 L))) (hp : aP (gS a (x6 L,gZ (FQ m d (x6 L)),false)).1) (args : List Value) (w : World) (ha : bK w [.s l 64 c] args) : Good prog 16 (gS a (x6 L,gZ (FQ m d (x6 L)),false)).2 args w:=by
 have hN:=b6N h6
 rcases hm with rfl | rfl
 ·have h:=aU aG (fun _ _ => (zT 2 (Or.inl rfl) d a).w _ _) (TG 2 (Or.inr (Or.inl rfl)) w) func16 (Nu d a (fun k => (L.take 32).getD k 0) (fun k => (L.drop 32).getD k 0) c) (aN.2 ⟨aN.2 ⟨⟨by rw [hN]; exact h6,hb,hc,trivial⟩,by rw [hN]; exact hr⟩,by rw [hN]; exact hp⟩) (nA (gI hL h6) ha);rw [hN] at h;exact h
 ·have h:=aU aG (fun _ _ => (zT 3 (Or.inr rfl) d a).w _ _) (TG 3 (Or.inr (Or.inr rfl)) w) func16 (Nt d a (fun k => (L.take 32).getD k 0) (fun k => (L.drop 32).getD k 0) c) (aN.2 ⟨aN.2 ⟨⟨by rw [hN]; exact h6,hb,hc,trivial⟩,by rw [hN]; exact hr⟩,by rw [hN]; exact hp⟩) (nA (gI hL h6) ha);rw [hN] at h;exact h
theorem bLN {L : List Nat} (h6 : LL L) : (bN (fun k => ((L.take 64).take 32).getD k 0) ++ bN (fun k => ((L.take 64).drop 32).getD k 0)) ++ (bN (fun k => ((L.drop 64).take 32).getD k 0) ++ bN (fun k => ((L.drop 64).drop 32).getD k 0)) = L:=by rw [b6N h6.1,b6N h6.2,List.take_append_drop]
theorem PC {l : List At} {L : List Nat} {c m : Nat} (hm : m = 2 ∨ m = 3) (hL : kY l = some L) (h6 : LL L) (hb : ((L.take 64).take 32).getD 0 0 / 64 = m) (hc : 128 ≤ c) (args : List Value) (w : World) (ha : bK w [.s l 128 c] args) : Good prog 16 (.many [.fl tL,.im (.int .i64 44)]) args w :=
 aD aG (fun _ _ => aCk m hm) (aH prog) func16 (Hc m (fun k => ((L.take 64).take 32).getD k 0) (fun k => ((L.take 64).drop 32).getD k 0) (fun k => ((L.drop 64).take 32).getD k 0) (fun k => ((L.drop 64).drop 32).getD k 0) c) ⟨by rw [bLN h6]; exact h6,hb,hc,trivial⟩ (nA (iE hL h6) ha)
theorem rK {l : List At} {L : List Nat} {c : Nat} (a : Bool) (hL : kY l = some L) (h6 : LL L) (hb : ((L.take 64).take 32).getD 0 0 / 64 = 0) (hc : 128 ≤ c) (hp : aP (gS a (DG L,CJ L,false)).1) (args : List Value) (w : World) (ha : bK w [.s l 128 c] args) : Good prog 16 (gS a (DG L,CJ L,false)).2 args w:=by
 have hN:=bLN h6;have h:=aU aG (fun _ _ => (zT 2 (Or.inl rfl) true a).w _ _) (Lr 0 (Or.inl rfl) w) func16 (He a (fun k => ((L.take 64).take 32).getD k 0) (fun k => ((L.take 64).drop 32).getD k 0) (fun k => ((L.drop 64).take 32).getD k 0) (fun k => ((L.drop 64).drop 32).getD k 0) c) (aN.2 ⟨⟨by rw [hN]; exact h6,hb,hc,trivial⟩,by rw [hN]; exact hp⟩) (nA (iE hL h6) ha);rw [hN] at h;exact h
theorem Bl {l : List At} {L : List Nat} {c : Nat} (a : Bool) (hL : kY l = some L) (h6 : LL L) (hb : ((L.take 64).take 32).getD 0 0 / 64 = 1) (hc : 128 ≤ c) (hp : aP (gS a (DG L,CJ L,true)).1) (args : List Value) (w : World) (ha : bK w [.s l 128 c] args) : Good prog 16 (gS a (DG L,CJ L,true)).2 args w:=by
 have hN:=bLN h6;have h:=aU aG (fun _ _ => (zT 2 (Or.inl rfl) true a).w _ _) (Lr 1 (Or.inr rfl) w) func16 (Hd a (fun k => ((L.take 64).take 32).getD k 0) (fun k => ((L.take 64).drop 32).getD k 0) (fun k => ((L.drop 64).take 32).getD k 0) (fun k => ((L.drop 64).drop 32).getD k 0) c) (aN.2 ⟨⟨by rw [hN]; exact h6,hb,hc,trivial⟩,by rw [hN]; exact hp⟩) (nA (iE hL h6) ha);rw [hN] at h;exact h
def aFA : Tab:=pV.add 78 Vz
theorem XT : TabOk prog aFA:=mF.ad func78 Vy
def ngV (y : N2) : Q2:=F2.sub F2.zero (m2 y)
def cfL (l : List (Nat × Value)) : Nat → Cfg:=fun _ => ⟨fun _ => aFA,fun _ => true,assoc l⟩
theorem VJ (y : N2) : aM prog (qG prog) (cfL [(13,.bool true)]) f43 60 [.v (.fl (q2 y))] = some ([aK .lss .i64 (Go.Proofs.YtfnkbmlmgnadmaaGreat.bG (wv y.2) (wv (ngV y).2.1)) 0 = some (.bool true)],.one (.im (.bool true))):=by kernel_rfl
theorem VI (y : N2) : aM prog (qG prog) (cfL [(13,.bool false),(16,.bool false)]) f43 60 [.v (.fl (q2 y))] = some ([aK .lss .i64 (Go.Proofs.YtfnkbmlmgnadmaaGreat.bG (wv y.2) (wv (ngV y).2.1)) 0 = some (.bool false),aK .eql .i64 (Go.Proofs.YtfnkbmlmgnadmaaGreat.bG (wv y.2) (wv (ngV y).2.1)) 0 = some (.bool false)],.one (.im (.bool false))):=by kernel_rfl
theorem VH (c : Bool) (y : N2) : aM prog (qG prog) (cfL [(13,.bool false),(16,.bool true),(23,.bool c)]) f43 60 [.v (.fl (q2 y))] = some ([aK .lss .i64 (Go.Proofs.YtfnkbmlmgnadmaaGreat.bG (wv y.2) (wv (ngV y).2.1)) 0 = some (.bool false),aK .eql .i64 (Go.Proofs.YtfnkbmlmgnadmaaGreat.bG (wv y.2) (wv (ngV y).2.1)) 0 = some (.bool true),aK .leq .i64 (Go.Proofs.YtfnkbmlmgnadmaaGreat.bG (wv y.1) (wv (ngV y).1.1)) 0 = some (.bool c)],.one (.im (.bool c))):=by kernel_rfl
theorem Tl {n : Nat} (h : wv n < FP.M) : wv (F1.sub F1.zero (m1 n)).1 = (0 + FP.M - wv n) % FP.M:=by
 have e1 : (F1.sub F1.zero (m1 n)).1 = (0 + FP.M - wv n) % FP.M:=by
  have e2 : (m1 n).1 = wv n:=Nat.mod_eq_of_lt h;show (0 + (FP.M - (m1 n).1) % FP.M) % FP.M = _;rw [e2,Nat.zero_add,Nat.zero_add,Nat.mod_mod]
 have e3 : wv (F1.sub F1.zero (m1 n)).1 = (F1.sub F1.zero (m1 n)).1:=bF (F1.sub F1.zero (m1 n)).2;rw [e3,e1]
theorem aBo (c : Bool) (y : N2) (hp : aP (XQ c y)) (args : List Value) (w : World) (ha : bK w [.v (.fl (q2 y))] args) : Good prog 43 (.one (.im (.bool c))) args w:=by
 obtain ⟨h1,h2,h3,_⟩:=hp;have e1 : wv (ngV y).1.1 = (0 + FP.M - wv y.1) % FP.M:=Tl h1;have e2 : wv (ngV y).2.1 = (0 + FP.M - wv y.2) % FP.M:=Tl h2;have hM:=dC;have hodd : FP.M % 2 = 1:=by decide
 unfold lw2 fV at h3
 by_cases hz : wv y.2 = 0
 ·rw [if_pos hz] at h3;have e3 : (0 + FP.M - wv y.2) % FP.M = wv y.2:=by rw [hz,Nat.sub_zero,Nat.zero_add,Nat.mod_self]
  exact aD aG (fun _ _ => XT) (aH prog) func43 (VH c y) ⟨by rw [BI,e2,e3,decide_eq_false (Nat.lt_irrefl _)],by rw [SI,e2,e3,decide_eq_true rfl],by rw [Xk,e1,h3],trivial⟩ ha
 ·rw [if_neg hz] at h3;have e3 : (0 + FP.M - wv y.2) % FP.M = FP.M - wv y.2:=by rw [Nat.zero_add]; exact Nat.mod_eq_of_lt (by omega)
  have hne : wv y.2 ≠ FP.M - wv y.2:=by omega
  rw [e3] at h3;cases c
  ·have h4 : ¬ wv y.2 ≤ FP.M - wv y.2:=of_decide_eq_false h3;exact aD aG (fun _ _ => XT) (aH prog) func43 (VI y) ⟨by rw [BI,e2,e3,decide_eq_false (by omega)],by rw [SI,e2,e3,decide_eq_false hne],trivial⟩ ha
  ·have h4 : wv y.2 ≤ FP.M - wv y.2:=of_decide_eq_true h3;exact aD aG (fun _ _ => XT) (aH prog) func43 (VJ y) ⟨by rw [BI,e2,e3,decide_eq_true (by omega)],trivial⟩ ha
def zL4 (B C D E : Nat → Nat) : List At:=(zL B ++ bL C) ++ (bL D ++ bL E)
def zN4 (B C D E : Nat → Nat) : List Nat:=(zN B ++ bN C) ++ (bN D ++ bN E)
def bN4 (B C D E : Nat → Nat) : List Nat:=(bN B ++ bN C) ++ (bN D ++ bN E)
def zz4 (L : List Nat) : List At:=zL4 (lB ((L.take 64).take 32)) (lB ((L.take 64).drop 32)) (lB ((L.drop 64).take 32)) (lB ((L.drop 64).drop 32))
def TC (L : List Nat) : List Nat:=zN4 (lB ((L.take 64).take 32)) (lB ((L.take 64).drop 32)) (lB ((L.drop 64).take 32)) (lB ((L.drop 64).drop 32))
theorem Hs (B C D E : Nat → Nat) (m c : Nat) : iD prog (qY prog (xF B m)) TD f67 120 [.s (wM B C D E) 128 c] = some (pF B m,⟨zL4 B C D E,128,5,1,true,[.im (.int .u8 (Int.ofNat m))],[]⟩):=by kernel_rfl
def aIf (m : Nat) : List CA → Option (List Prop × FS)
 | [.s l 64 c] => match kY l with
  | some L => some ([L6 L,(L.take 32).getD 0 0 / 64 = m],⟨zL (lB (L.take 32)) ++ bL (lB (L.drop 32)),64,5,1,true,[.im (.int .u8 (Int.ofNat m))],[]⟩)
  | none => none
 | [.s l 128 c] => match kY l with
  | some L => some ([LL L,((L.take 64).take 32).getD 0 0 / 64 = m],⟨zz4 L,128,5,1,true,[.im (.int .u8 (Int.ofNat m))],[]⟩)
  | none => none
 | _ => none
theorem aDh (m : Nat) : ∀ cs pre r,aIf m cs = some (pre,r) → aP pre → ∀ (args : List Value) (w : World),bK w cs args → Calls prog 67 args.toArray w (fun e w' => r.ok w e w'):=by
 intro cs pre r hg hp args w ha;have hT : ∀ n d : Nat,TabOkW prog ((TD n).T d) w.heap.size w:=fun _ _ => (dB _).w _ _
 unfold aIf at hg;split at hg
 ·rename_i l c;split at hg
  ·rename_i L hL;cases hg;obtain ⟨h6,hb,_⟩:=hp;exact bJ aG hT (aEp _ _ w) func67 (Om (lB (L.take 32)) (lB (L.drop 32)) m c) (aEI h6.1 hb) (nA (gI hL h6) ha)
  ·cases hg
 ·rename_i l c;split at hg
  ·rename_i L hL;cases hg;obtain ⟨h6,hb,_⟩:=hp;exact bJ aG hT (aEp _ _ w) func67 (Hs _ _ _ _ m c) (aEI h6.1.1 hb) (nA (iE hL h6) ha)
  ·cases hg
 ·cases hg
def Lt (m : Nat) : Ext:=x3 (TE.add 67 (aIf m)) KL (fun _ => none) (fun _ => none)
theorem lC (m : Nat) (w : World) : cH prog (qY prog (Lt m)) w.heap.size w:=kQ ((gX _).ad func67 (aDh m)) (gJ _) w
def Jo (m : Nat) (B C D E : Nat → Nat) : List Prop:=[LL (bN4 B C D E),B 0 / 64 = m]
theorem OI (B C : Nat → Nat) (c : Nat) : iD prog (qY prog (Lt 1)) (Zy true) f36 120 [.s (bL B ++ bL C) 64 c,.v (.im (.int .i64 64))] = some (p64 1 B C ++ [(zN B ++ bN C).length = 64,64 < 4611686018427387904,pZ true (zN B ++ bN C) 64],⟨zL B ++ bL C,64,5,1,true,[.im (.int .u8 1)],[.im (.bool true),.im (.int .i64 0)]⟩):=by kernel_rfl
theorem OJ (B C : Nat → Nat) (c : Nat) : aM prog (qY prog (Lt 1)) (Zy false) f36 120 [.s (bL B ++ bL C) 64 c,.v (.im (.int .i64 64))] = some (p64 1 B C ++ [(zN B ++ bN C).length = 64,64 < 4611686018427387904,pZ false (zN B ++ bN C) 64],Jh 44):=by kernel_rfl
theorem GR (B C D E : Nat → Nat) (c : Nat) : iD prog (qY prog (Lt 1)) (Zy true) f36 120 [.s (wM B C D E) 128 c,.v (.im (.int .i64 64))] = some (Jo 1 B C D E ++ [(zN4 B C D E).length = 128,128 < 4611686018427387904,pZ true (zN4 B C D E) 128],⟨zL4 B C D E,128,5,1,true,[.im (.int .u8 1)],[.im (.bool true),.im (.int .i64 0)]⟩):=by kernel_rfl
theorem GS (B C D E : Nat → Nat) (c : Nat) : aM prog (qY prog (Lt 1)) (Zy false) f36 120 [.s (wM B C D E) 128 c,.v (.im (.int .i64 64))] = some (Jo 1 B C D E ++ [(zN4 B C D E).length = 128,128 < 4611686018427387904,pZ false (zN4 B C D E) 128],Jh 44):=by kernel_rfl
theorem WP (B C : Nat → Nat) (c : Nat) : aM prog (qY prog (Lt 0)) (Zy true) f36 120 [.s (bL B ++ bL C) 64 c,.v (.im (.int .i64 64))] = some (p64 0 B C,Jh 44):=by kernel_rfl
theorem WO (B C : Nat → Nat) (c : Nat) : iD prog (qY prog (Lt 2)) (Zy true) f36 120 [.s (bL B ++ bL C) 64 c,.v (.im (.int .i64 64))] = some (p64 2 B C,⟨zL B ++ bL C,64,5,1,true,[.im (.int .u8 2)],[.im (.bool false),.im (.int .i64 0)]⟩):=by kernel_rfl
theorem OL (B C D E : Nat → Nat) (c : Nat) : aM prog (qY prog (Lt 2)) (Zy true) f36 120 [.s (wM B C D E) 128 c,.v (.im (.int .i64 64))] = some (Jo 2 B C D E,Jh 44):=by kernel_rfl
theorem WN (B C : Nat → Nat) (c : Nat) : iD prog (qY prog (Lt 3)) (Zy true) f36 120 [.s (bL B ++ bL C) 64 c,.v (.im (.int .i64 64))] = some (p64 3 B C,⟨zL B ++ bL C,64,5,1,true,[.im (.int .u8 3)],[.im (.bool false),.im (.int .i64 0)]⟩):=by kernel_rfl
theorem OK (B C D E : Nat → Nat) (c : Nat) : aM prog (qY prog (Lt 3)) (Zy true) f36 120 [.s (wM B C D E) 128 c,.v (.im (.int .i64 64))] = some (Jo 3 B C D E,Jh 44):=by kernel_rfl
theorem OM (B C D E : Nat → Nat) (c : Nat) : iD prog (qY prog (Lt 0)) (Zy true) f36 120 [.s (wM B C D E) 128 c,.v (.im (.int .i64 64))] = some (Jo 0 B C D E,⟨zL4 B C D E,128,5,1,true,[.im (.int .u8 0)],[.im (.bool false),.im (.int .i64 0)]⟩):=by kernel_rfl
theorem aBb (p : Option Addr) (n c : Nat) : aM prog (qG prog) aOi f36 120 [.v (.im (.slice p n c)),.v (.im (.int .i64 64))] = some ([aK .neq .i64 (n : Int) 64 = some (.bool true),aK .neq .i64 (n : Int) 128 = some (.bool true)],Jh 3):=by kernel_rfl
def Lb (b : Nat) : Nat → Cfg:=fun n => ⟨fun _ => aJL (!(Nat.beq n b)),fun _ => true,fun _ => none⟩
theorem Nz (B C D E : Nat → Nat) (c : Nat) : iD prog (qY prog x0) (Lb 0) f37 100 [.s (wM B C D E) 128 c] = some ([0 ≤ 32,32 ≤ c,0 < c,L8 (bN B),fY (hv (bN B)) = true] ++ [32 ≤ 64,64 ≤ c,32 < c,L8 (bN C),fY (hv (bN C)) = true] ++ [64 ≤ 96,96 ≤ c,64 < c,L8 (bN D),fY (hv (bN D)) = true] ++ [96 ≤ 128,128 ≤ c,96 < c,L8 (bN E),fY (hv (bN E)) = true],⟨[.q (hv (bN B)),.q (hv (bN C)),.q (hv (bN D)),.q (hv (bN E))],4,24,4,true,[],[.im (.bool true)]⟩):=by kernel_rfl
theorem Od (B C D E : Nat → Nat) (c : Nat) : aM prog (qY prog x0) (Lb 87) f37 100 [.s (wM B C D E) 128 c] = some ([0 ≤ 32,32 ≤ c,0 < c,L8 (bN B),fY (hv (bN B)) = false],PY):=by kernel_rfl
theorem Oc (B C D E : Nat → Nat) (c : Nat) : aM prog (qY prog x0) (Lb 86) f37 100 [.s (wM B C D E) 128 c] = some ([0 ≤ 32,32 ≤ c,0 < c,L8 (bN B),fY (hv (bN B)) = true] ++ [32 ≤ 64,64 ≤ c,32 < c,L8 (bN C),fY (hv (bN C)) = false],PY):=by kernel_rfl
theorem Ob (B C D E : Nat → Nat) (c : Nat) : aM prog (qY prog x0) (Lb 85) f37 100 [.s (wM B C D E) 128 c] = some ([0 ≤ 32,32 ≤ c,0 < c,L8 (bN B),fY (hv (bN B)) = true] ++ [32 ≤ 64,64 ≤ c,32 < c,L8 (bN C),fY (hv (bN C)) = true] ++ [64 ≤ 96,96 ≤ c,64 < c,L8 (bN D),fY (hv (bN D)) = false],PY):=by kernel_rfl
theorem Oa (B C D E : Nat → Nat) (c : Nat) : aM prog (qY prog x0) (Lb 84) f37 100 [.s (wM B C D E) 128 c] = some ([0 ≤ 32,32 ≤ c,0 < c,L8 (bN B),fY (hv (bN B)) = true] ++ [32 ≤ 64,64 ≤ c,32 < c,L8 (bN C),fY (hv (bN C)) = true] ++ [64 ≤ 96,96 ≤ c,64 < c,L8 (bN D),fY (hv (bN D)) = true] ++ [96 ≤ 128,128 ≤ c,96 < c,L8 (bN E),fY (hv (bN E)) = false],PY):=by kernel_rfl
def bl4 (L : List Nat) : Prop:=fY (hv ((L.take 64).take 32)) = true ∧ fY (hv ((L.take 64).drop 32)) = true ∧ fY (hv ((L.drop 64).take 32)) = true ∧ fY (hv ((L.drop 64).drop 32)) = true
theorem sW (b n d : Nat) : TabOk prog ((Lb b n).T d):=aEN _
theorem aKU {l : List At} {L : List Nat} {c : Nat} (hL : kY l = some L) (h6 : LL L) (hc : 128 ≤ c) (hb : bl4 L) (args : List Value) (w : World) (ha : bK w [.s l 128 c] args) : Calls prog 37 args.toArray w (fun e w' => (⟨[.q (hv ((L.take 64).take 32)),.q (hv ((L.take 64).drop 32)),.q (hv ((L.drop 64).take 32)),.q (hv ((L.drop 64).drop 32))],4,24,4,true,[],[.im (.bool true)]⟩ : FS).ok w e w'):=by
 have e1:=cQ h6.1.1.1;have e2:=cQ h6.1.2.1;have e3:=cQ h6.2.1.1;have e4:=cQ h6.2.2.1;have h:=bJ aG (fun n d => (sW 0 n d).w _ _) (mT w) func37 (Nz (lB ((L.take 64).take 32)) (lB ((L.take 64).drop 32)) (lB ((L.drop 64).take 32)) (lB ((L.drop 64).drop 32)) c) (by
  unfold lB;rw [e1,e2,e3,e4];exact aN.2 ⟨aN.2 ⟨aN.2 ⟨⟨by omega,by omega,by omega,h6.1.1,hb.1,trivial⟩,by omega,by omega,by omega,h6.1.2,hb.2.1,trivial⟩,by omega,by omega,by omega,h6.2.1,hb.2.2.1,trivial⟩,by omega,by omega,by omega,h6.2.2,hb.2.2.2,trivial⟩) (nA (iE hL h6) ha)
 unfold lB at h;rw [e1,e2,e3,e4] at h;exact h
theorem Fa {n : Nat} (h : ¬ fY n = true) : fY n = false:=by
 cases hb : fY n with
 | false => rfl
 | true => exact absurd hb h
theorem aKV {l : List At} {L : List Nat} {c : Nat} (hL : kY l = some L) (h6 : LL L) (hc : 128 ≤ c) (hb : ¬ bl4 L) (args : List Value) (w : World) (ha : bK w [.s l 128 c] args) : Good prog 37 PY args w:=by
 have e1:=cQ h6.1.1.1;have e2:=cQ h6.1.2.1;have e3:=cQ h6.2.1.1;have e4:=cQ h6.2.2.1;have ha':=nA (iE hL h6) ha
 by_cases h1 : fY (hv ((L.take 64).take 32)) = true
 ·by_cases h2 : fY (hv ((L.take 64).drop 32)) = true
  ·by_cases h3 : fY (hv ((L.drop 64).take 32)) = true
   ·have h4:=Fa fun h4 => hb ⟨h1,h2,h3,h4⟩
    exact aU aG (fun n d => (sW 84 n d).w _ _) (mT w) func37 (Oa (lB ((L.take 64).take 32)) (lB ((L.take 64).drop 32)) (lB ((L.drop 64).take 32)) (lB ((L.drop 64).drop 32)) c) (by
     unfold lB;rw [e1,e2,e3,e4];exact aN.2 ⟨aN.2 ⟨aN.2 ⟨⟨by omega,by omega,by omega,h6.1.1,h1,trivial⟩,by omega,by omega,by omega,h6.1.2,h2,trivial⟩,by omega,by omega,by omega,h6.2.1,h3,trivial⟩,by omega,by omega,by omega,h6.2.2,h4,trivial⟩) ha'
   ·have h3:=Fa h3;exact aU aG (fun n d => (sW 85 n d).w _ _) (mT w) func37 (Ob (lB ((L.take 64).take 32)) (lB ((L.take 64).drop 32)) (lB ((L.drop 64).take 32)) (lB ((L.drop 64).drop 32)) c) (by
     unfold lB;rw [e1,e2,e3];exact aN.2 ⟨aN.2 ⟨⟨by omega,by omega,by omega,h6.1.1,h1,trivial⟩,by omega,by omega,by omega,h6.1.2,h2,trivial⟩,by omega,by omega,by omega,h6.2.1,h3,trivial⟩) ha'
  ·have h2:=Fa h2;exact aU aG (fun n d => (sW 86 n d).w _ _) (mT w) func37 (Oc (lB ((L.take 64).take 32)) (lB ((L.take 64).drop 32)) (lB ((L.drop 64).take 32)) (lB ((L.drop 64).drop 32)) c) (by
    unfold lB;rw [e1,e2];exact aN.2 ⟨⟨by omega,by omega,by omega,h6.1.1,h1,trivial⟩,by omega,by omega,by omega,h6.1.2,h2,trivial⟩) ha'
 ·have h1:=Fa h1;exact aU aG (fun n d => (sW 87 n d).w _ _) (mT w) func37 (Od (lB ((L.take 64).take 32)) (lB ((L.take 64).drop 32)) (lB ((L.drop 64).take 32)) (lB ((L.drop 64).drop 32)) c) (by
   unfold lB;rw [e1];exact ⟨by omega,by omega,by omega,h6.1.1,h1,trivial⟩) ha'
def yK (x : N2) : Q2:=F2.add (F2.mul (m2 x) (F2.mul (m2 x) (m2 x))) lY
def nB (l : List At) (n c : Nat) (r : FS) : Prop:=Zu 36 [.s l n c,.v (.im (.int .i64 64))] r
def aFc (y : Q2) : fQ:=g1 nC fun s => ([fW s,rt s = y],.many [.fl (e2 y),.im (.int .i64 0)])
theorem Vh (y : Q2) : ∀ cs pre r,aFc y cs = some (pre,r) → aP pre → ∀ (args : List Value) (w : World),bK w cs args → Good prog 38 r args w :=
 iC (op:=fun s => ([fW s,rt s = y],.many [.fl (e2 y),.im (.int .i64 0)])) cF fun x hp args w ha => by
  obtain ⟨h1,h2,_⟩:=hp;have h:=SV true x ⟨h1,trivial⟩ args w ha;have e : (oS2 true (m2 x)).2 = .many [.fl (e2 (rt (m2 x))),.im (.int .i64 0)]:=by unfold oS2; rw [cond_true]
  rw [e] at h;have h2' : rt (m2 x) = y:=h2;rw [h2'] at h;exact h
theorem Vi : ∀ cs pre r,g1 nC (oS2 false) cs = some (pre,r) → aP pre → ∀ (args : List Value) (w : World),bK w cs args → Good prog 38 r args w:=iC cF (SV false)
def aJJ (k c : Bool) : Tab:=((Lf k c).add 43 (g1 Bh fun y => (XQ true y,.one (.im (.bool true))))).add 42 gRm
theorem aEL (k c : Bool) : TabOk prog (aJJ k c):=((zX k c).ad func43 (cN (op:=fun y => (XQ true y,.one (.im (.bool true)))) jA fun y hp args w ha => aBo true y hp args w ha)).ad func42 aHQ
def qV (y : Q2) (k c : Bool) : Tab:=(aJJ k c).add 38 (aFc y)
theorem zV (y : Q2) (k c : Bool) : TabOk prog (qV y k c):=(aEL k c).ad func38 (Vh y)
def aJI : Tab:=(aJJ true true).add 38 (g1 nC (oS2 false))
theorem aLd : TabOk prog aJI:=(aEL true true).ad func38 Vi
theorem NS (l : List At) (n c : Nat) : aM prog (qG prog) (iK (aJO 44)) f17 120 [.s l n c] = some ([kN 36 [.s l n c,.v (.im (.int .i64 64))] (Jh 44)],.many [.fl tL,.im (.int .i64 44)]):=by kernel_rfl
theorem VP (p : Option Addr) (n c : Nat) : aM prog (qG prog) (iK (aJO 3)) f17 120 [.v (.im (.slice p n c))] = some ([kN 36 [.v (.im (.slice p n c)),.v (.im (.int .i64 64))] (Jh 3)],.many [.fl tL,.im (.int .i64 3)]):=by kernel_rfl
def iG2 : List At:=[.f F1.zero,.f F1.zero,.f F1.zero,.f F1.zero,.c (.bool true)]
theorem NT (l rest : List At) (n c : Nat) : aM prog (qY prog (xBg rest n 1 true)) TD f17 120 [.s l n c] = some ([nB l n c (IG rest n 1 true)],.many [.fl iG2,.im (.int .i64 0)]):=by kernel_rfl
def fG : Code:=(f17.body).getD .skip
theorem aBD : fG = .seq (cA fG) (.seq (cA (cB fG)) (cB (cB fG))):=by kernel_rfl
def aGC : List Fact:=[.slot 2 (.pt 2 0),.row 2 true tL]
def aKQ (rest : List At) (n m : Nat) : List Fact:=[.slot 5 (.so 16 n),.app 16 5 1 n,.slot 2 (.pt 2 0),.row 2 true tL,.slot 4 (.im (.int .u8 (Int.ofNat m))),.row 16 true rest,.slot 6 (.im (.bool false)),.slot 7 (.im (.int .i64 0))]
def zB (rest : List At) (n m cap : Nat) : List Fact:=[.slot 5 (.sl 16 0 n cap),.slot 2 (.pt 2 0),.row 2 true tL,.slot 4 (.im (.int .u8 (Int.ofNat m))),.row 16 true rest,.slot 6 (.im (.bool false)),.slot 7 (.im (.int .i64 0))]
theorem aKO (l : List At) (n c : Nat) : cM prog (qG prog) f17.ntmps TD 60 (cA fG) (mQ 0 [.s l n c]) (.slot 0 (.sl 0 0 n c) :: .row 0 false l :: aGC) = some ([],.nrm,.slot 0 (.sl 0 0 n c) :: .row 0 false l :: aGC):=by kernel_rfl
theorem aKN (l rest : List At) (n m c : Nat) : cM prog (qY prog (xBg rest n m false)) f17.ntmps TD 60 (cA (cB fG)) (.slot 0 (.sl 0 0 n c) :: .row 0 false l :: aGC) (aKQ rest n m) = some ([nB l n c (IG rest n m false)],.nrm,aKQ rest n m):=by kernel_rfl
theorem aKP (rest : List At) (n m cap : Nat) : cM prog (qG prog) f17.ntmps (iK aJH) 60 (cB (cB fG)) (zB rest n m cap) (CT tL 21) = some ([kN 37 [.s rest n cap] PY],.rt,CT tL 21):=by kernel_rfl
theorem aBE (rest : List At) (n m cap : Nat) (x : N2) : cM prog (qY prog (xPa [.q x.2,.q x.1] 2)) f17.ntmps (iK aJI) 60 (cB (cB fG)) (zB rest n m cap) (CT tL 41) = some ([LH rest n cap (CU [.q x.2,.q x.1] 2),¬ fW (yK x)],.rt,CT tL 41):=by kernel_rfl
theorem Qi (rest : List At) (n cap : Nat) (x : N2) (y : Q2) : cM prog (qY prog (xPa [.q x.2,.q x.1] 2)) f17.ntmps (iK (qV y true true)) 60 (cB (cB fG)) (zB rest n 2 cap) (CT [.q x.1,.q x.2,.f y.1,.f y.2,.c (.bool false)] 0) = some ([LH rest n cap (CU [.q x.2,.q x.1] 2),fW (yK x),rt (yK x) = y] ++ XQ true (gZ y) ++ [(dI x (gZ y) false).1 = 0,eH (x,gZ y,false) = true],.rt,CT [.q x.1,.q x.2,.f y.1,.f y.2,.c (.bool false)] 0):=by kernel_rfl
theorem Qj (rest : List At) (n cap : Nat) (x : N2) (y : Q2) : cM prog (qY prog (xPa [.q x.2,.q x.1] 2)) f17.ntmps (iK (qV y true false)) 60 (cB (cB fG)) (zB rest n 2 cap) (CT tL 42) = some ([LH rest n cap (CU [.q x.2,.q x.1] 2),fW (yK x),rt (yK x) = y] ++ XQ true (gZ y) ++ [(dI x (gZ y) false).1 = 0,eH (x,gZ y,false) = false],.rt,CT tL 42):=by kernel_rfl
theorem Qg (rest : List At) (n cap : Nat) (x : N2) (y : Q2) : cM prog (qY prog (xPa [.q x.2,.q x.1] 2)) f17.ntmps (iK (qV y true true)) 60 (cB (cB fG)) (zB rest n 3 cap) (CT [.q x.1,.q x.2,.f (F2.sub F2.zero y).1,.f (F2.sub F2.zero y).2,.c (.bool false)] 0) = some ([LH rest n cap (CU [.q x.2,.q x.1] 2),fW (yK x),rt (yK x) = y] ++ XQ true (gZ y) ++ [(dI x (gZ (F2.sub F2.zero y)) false).1 = 0,eH (x,gZ (F2.sub F2.zero y),false) = true],.rt,CT [.q x.1,.q x.2,.f (F2.sub F2.zero y).1,.f (F2.sub F2.zero y).2,.c (.bool false)] 0):=by kernel_rfl
theorem Qh (rest : List At) (n cap : Nat) (x : N2) (y : Q2) : cM prog (qY prog (xPa [.q x.2,.q x.1] 2)) f17.ntmps (iK (qV y true false)) 60 (cB (cB fG)) (zB rest n 3 cap) (CT tL 42) = some ([LH rest n cap (CU [.q x.2,.q x.1] 2),fW (yK x),rt (yK x) = y] ++ XQ true (gZ y) ++ [(dI x (gZ (F2.sub F2.zero y)) false).1 = 0,eH (x,gZ (F2.sub F2.zero y),false) = false],.rt,CT tL 42):=by kernel_rfl
theorem Qk (rest : List At) (n m cap : Nat) (x y : N2) : cM prog (qY prog (xPa [.q x.2,.q x.1,.q y.2,.q y.1] 4)) f17.ntmps (iK (qV F2.zero true true)) 60 (cB (cB fG)) (zB rest n m cap) (CT (dR (x,y,false)) 0) = some ([LH rest n cap (CU [.q x.2,.q x.1,.q y.2,.q y.1] 4),(dI x y false).1 = 0,eH (x,y,false) = true],.rt,CT (dR (x,y,false)) 0):=by kernel_rfl
theorem Ql (rest : List At) (n m cap : Nat) (x y : N2) : cM prog (qY prog (xPa [.q x.2,.q x.1,.q y.2,.q y.1] 4)) f17.ntmps (iK (qV F2.zero true false)) 60 (cB (cB fG)) (zB rest n m cap) (CT tL 42) = some ([LH rest n cap (CU [.q x.2,.q x.1,.q y.2,.q y.1] 4),(dI x y false).1 = 0,eH (x,y,false) = false],.rt,CT tL 42):=by kernel_rfl
theorem Qm (rest : List At) (n m cap : Nat) (x y : N2) : cM prog (qY prog (xPa [.q x.2,.q x.1,.q y.2,.q y.1] 4)) f17.ntmps (cfN (qV F2.zero false true) 84) 60 (cB (cB fG)) (zB rest n m cap) (CT tL (dI x y false).1) = some ([LH rest n cap (CU [.q x.2,.q x.1,.q y.2,.q y.1] 4),aK .neq .i64 (dI x y false).1 0 = some (.bool true)],.rt,CT tL (dI x y false).1):=by kernel_rfl
theorem gQ {l rest : List At} {n m c : Nat} {r : List At} {e : Int} (hb : nB l n c (IG rest n m false))
  (hrun : ∀ cap,n ≤ cap → ∃ (q : EqT) (C : Nat → Cfg) (ps : List Prop),(∀ w : World,cH prog q w.heap.size w) ∧ (∀ k d,TabOk prog ((C k).T d)) ∧ cM prog q f17.ntmps C 60 (cB (cB fG)) (zB rest n m cap) (CT r e) = some (ps,.rt,CT r e) ∧ aP ps)
  (hres : nM prog (CT r e) f17.results.toList = some [.fl r,.im (.int .i64 e)]) (args : List Value) (w : World) (ha : bK w [.s l n c] args) : Good prog 17 (.many [.fl r,.im (.int .i64 e)]) args w:=by
 have hT0 : ∀ k d : Nat,TabOkW prog ((TD k).T d) w.heap.size w:=fun _ _ => (dB _).w _ _
 refine fX func17 (c:=fG) rfl ha (Nat.le_of_ble_eq_true (by kernel_rfl)) fun a w' hA => ?_
 rw [aBD];refine wp_seq (aT aG hT0 ((aH _).w _ _) (aKO l n c) trivial hA fun a w' hA => ?_);refine wp_seq (aT aG hT0 (Ls rest n m false w) (aKN l rest n m c) ⟨hb,trivial⟩ hA fun a w' hA => ?_);obtain ⟨cap,hc,hA⟩:=hA.cap (s:=5) (k:=16) (n:=n) (e:=5) (sz:=1) (List.mem_cons_self ..) (List.mem_cons_of_mem _ (List.mem_cons_self ..));have hA2 : Holds f17.ntmps w.heap.size w (zB rest n m cap) a w':=hA.sub fun φ hφ => by
  rcases List.mem_cons.1 hφ with rfl | hφ
  ·exact List.mem_cons_self ..
  ·exact List.mem_cons_of_mem _ (List.mem_cons_of_mem _ (List.mem_cons_of_mem _ hφ))
 obtain ⟨q,C,ps,h1,h2,h3,h4⟩:=hrun cap hc;refine aT aG (fun k d => (h2 k d).w _ _) (h1 w) h3 h4 hA2 fun a w' hA => ?_
 exact gW (l:=[.fl r,.im (.int .i64 e)]) (r:=.many [.fl r,.im (.int .i64 e)]) hres rfl hA
def aNv (p : DE) (e : Int) : RV:=.many [.fl (LJ p),.im (.int .i64 e)]
theorem dO {f : FuncId} {l l' : List At} {e : Int} {args : List Value} {w : World} (hl : aC l = aC l') (h : Good prog f (.many [.fl l,.im (.int .i64 e)]) args w) : Good prog f (.many [.fl l',.im (.int .i64 e)]) args w:=by
 have hd : (RV.many [.fl l,.im (.int .i64 e)]).den = (RV.many [.fl l',.im (.int .i64 e)]).den:=by
  show Value.tuple (#[.agg (aC l).toArray,.int .i64 e]) = Value.tuple (#[.agg (aC l').toArray,.int .i64 e]);rw [hl]
 unfold Good at h ⊢;rw [← hd];exact h
def R1 (l : List At) (n cap : Nat) (p : DE) (e : Int) : Prop:=kN 20 [.s l n cap] (aNv p e)
theorem RL {B : Nat → Nat} (s : Nat) : ∀ n,Go.Proofs.YtfnkbmlmgnadmaaGreat.jF B s n = 0 ↔ ∀ k,k < n → B (s + k) = 0
 | 0 => ⟨fun _ k hk => absurd hk (by omega),fun _ => rfl⟩
 | n + 1 => by
  have ih:=RL (B:=B) s n;show Go.Proofs.YtfnkbmlmgnadmaaGreat.jF B s n * 256 + B (s + n) = 0 ↔ _;constructor
  ·intro h k hk
   by_cases e : k = n
   ·subst e; omega
   ·exact ih.1 (by omega) k (by omega)
  ·intro h;have h1:=ih.2 fun k hk => h k (by omega)
   have h2:=h n (by omega);omega
theorem xD (L : List Nat) : hv L = 0 ↔ ∀ k,k < 32 → L.getD k 0 = 0:=by
 have h:=RL (B:=fun k => L.getD k 0) 0 32;simp only [Nat.zero_add] at h;exact h
theorem aFp {a : Nat} : a &&& 63 = a % 64:=Nat.and_two_pow_sub_one_eq_mod a 6
theorem aFG (L : List Nat) (h : L.length = 32) : zN (lB L) = (L.getD 0 0 &&& 63) :: L.tail:=by
 match L,h with
 | [a0,a1,a2,a3,a4,a5,a6,a7,a8,a9,a10,a11,a12,a13,a14,a15,a16,a17,a18,a19,a20,a21,a22,a23,a24,a25,a26,a27,a28,a29,a30,a31],_ => rfl
theorem aKd {L : List Nat} (h : L.length = 32) {k : Nat} (hk : k ≠ 0) : (zN (lB L)).getD k 0 = L.getD k 0:=by
 rw [aFG L h]
 match L,h with
 | a :: r,_ =>
  cases k with
  | zero => exact absurd rfl hk
  | succ k => rfl
theorem aFF {L : List Nat} (h : L.length = 32) : (zN (lB L)).length = 32:=rfl
theorem aKc {L : List Nat} (h : L8 L) : L8 (zN (lB L)):=⟨rfl,fun k => by
 by_cases hk : k = 0
 ·subst hk;show L.getD 0 0 &&& 63 < 256;rw [aFp]; omega
 ·rw [aKd h.1 hk]; exact h.2 k⟩
theorem aEk {L : List Nat} (h : L8 L) : hv (zN (lB L)) = xv (hv L):=by
 have h1 : hv L = L.getD 0 0 * 256 ^ 31 + Go.Proofs.YtfnkbmlmgnadmaaGreat.jF (fun k => L.getD k 0) 1 31:=by
  have:=jR (fun k => L.getD k 0) 0 1 31;show Go.Proofs.YtfnkbmlmgnadmaaGreat.jF _ 0 32 = _;rw [this];show (0 * 256 + L.getD (0 + 0) 0) * 256 ^ 31 + _ = _;rw [Nat.zero_mul,Nat.zero_add]
 have h2 : hv (zN (lB L)) = (L.getD 0 0 % 64) * 256 ^ 31 + Go.Proofs.YtfnkbmlmgnadmaaGreat.jF (fun k => L.getD k 0) 1 31:=by
  have:=jR (fun k => (zN (lB L)).getD k 0) 0 1 31;show Go.Proofs.YtfnkbmlmgnadmaaGreat.jF _ 0 32 = _;rw [this,Dn (C:=fun k => L.getD k 0) 1 31 fun k hk => aKd h.1 (by omega)];show (0 * 256 + (L.getD 0 0 &&& 63)) * 256 ^ 31 + _ = _;rw [Nat.zero_mul,Nat.zero_add,aFp]
 have h3:=JN (B:=fun k => L.getD k 0) h.2 1 31;have h4:=h.2 0;generalize Go.Proofs.YtfnkbmlmgnadmaaGreat.jF (fun k => L.getD k 0) 1 31 = t at *;generalize L.getD 0 0 = a at *;rw [h1,h2];unfold xv;have e : 256 ^ 31 = 452312848583266388373324160190187140051835877600158453279131187530910662656:=by decide
 rw [e] at h3 ⊢;omega
theorem aKj (N : Nat) : wv (xv N) = xv N:=by
 have h : xv N < 115792089237316195423570985008687907853269984665640564039457584007913129639936:=Nat.lt_of_lt_of_le (Nat.mod_lt _ (by decide)) (by decide);exact AX h
theorem aEr {L : List Nat} (h : L8 L) : wv (hv L) = hv L:=AX (Uy h)
theorem Da {L : List Nat} (h : L8 L) : L.getD 0 0 / 64 = 0 ∨ L.getD 0 0 / 64 = 1 ∨ L.getD 0 0 / 64 = 2 ∨ L.getD 0 0 / 64 = 3:=by have:=h.2 0; omega
theorem Yj (x : Fq) : wv x.1 < FP.M:=by rw [show wv x.1 = x.1 from bF x.2]; exact x.2
theorem sub_zero (y : Fq) : F1.sub F1.zero y = F1.neg y:=F1.zero_add _
theorem aLp (x : Fq) : m1 x.1 = x:=Fin.ext (show wv x.1 % FP.M = x.1 by rw [show wv x.1 = x.1 from bF x.2]; exact Nat.mod_eq_of_lt x.2)
end Go.Proofs.YtfnkbmlmgnadmaaGreat.Ex
