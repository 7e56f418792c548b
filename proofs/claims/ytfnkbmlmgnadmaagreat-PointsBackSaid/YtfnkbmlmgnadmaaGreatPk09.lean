/- Pk09 -/
import Derived.Test.YtfnkbmlmgnadmaaGreatPk08
import Derived.Test.YtfnkbmlmgnadmaaGreatPk07
import Derived.Test.YtfnkbmlmgnadmaaGreatPk00
import Derived.Test.YtfnkbmlmgnadmaaGreatPk04
import Derived.Test.YtfnkbmlmgnadmaaGreatPk02
import Derived.Test.YtfnkbmlmgnadmaaGreatPk03
set_option maxRecDepth 100000
set_option linter.unusedVariables false
set_option linter.unusedSimpArgs false
noncomputable section
namespace Go.Proofs.YtfnkbmlmgnadmaaGreat.Ex
open Go.Proofs.Tryz
open Go.RowKit
theorem fd2 : FD F2 iZ:=⟨aCh.1,fun x h => TG fun e => h (pE e)⟩
theorem aBm {x : Q2} (h : x ≠ F2.zero) : iE x ≠ F1.zero:=fun e => h (pE e)
abbrev J1:=Jc Fq
abbrev J2:=Jc Q2
def iU (p : J1) : List At:=[.f p.1,.f p.2.1,.f p.2.2]
def bG (p : J2) : List At:=[.f p.1.1,.f p.1.2,.f p.2.1.1,.f p.2.1.2,.f p.2.2.1,.f p.2.2.2]
def Rv : List At → Option J1 | [.f a,.f b,.f c] => some (a,b,c) | _ => none
def Ar : List At → Option J2 | [.f a,.f b,.f c,.f d,.f e,.f f] => some ((a,b),(c,d),(e,f)) | _ => none
theorem nW : Rd Rv iU:=fun l x h => by unfold Rv at h; split at h <;> cases h; rfl
theorem iM : Rd Ar bG:=fun l x h => by unfold Ar at h; split at h <;> cases h; rfl
theorem mX {a b : Fq} (h : a ≠ b) : aA (e1 a) ≠ aA (e1 b):=fun e => h (RN e)
theorem iS {a b : Q2} (h : a ≠ b) : aA (e2 a) ≠ aA (e2 b):=fun e => h (aCq e)
theorem FD.inv_one {R : Type} {K : CR R} {inv : R → R} (F : FD K inv) : inv K.one = K.one:=by
 have:=F.inv K.one F.ne
 rwa [K.one_mul] at this
theorem PJ (p : J1) : aU prog (qG prog) (fun _ => ⟨fun s => FH true,fun s => true,fun _ => none⟩) f236 60 [.v (.fl (iU p))] = some ([aA (e1 p.2.2) = aA (e1 F1.zero)],.one (.im (.bool true))):=by kernel_rfl
theorem PK (p : J1) : aU prog (qG prog) (fun _ => ⟨fun s => FH false,fun s => false,fun _ => none⟩) f236 60 [.v (.fl (iU p))] = some ([aA (e1 p.2.2) ≠ aA (e1 F1.zero)],.one (.im (.bool false))):=by kernel_rfl
def Iz (d : Bool) (p : J1) : List Prop × RV:=bif d then ([p.2.2 = F1.zero],.one (.im (.bool true))) else ([p.2.2 ≠ F1.zero],.one (.im (.bool false)))
theorem Iy (d : Bool) (p : J1) (hp : aL (Iz d p).1) (args : List Value) (w : World) (ha : bD w [.v (.fl (iU p))] args) : Good prog 236 (Iz d p).2 args w:=by
 cases d
 ·have h : p.2.2 ≠ F1.zero:=hp.1;exact aD aG (fun _ s => CZ _) (aK prog) func236 (PK p) ⟨mX h,trivial⟩ ha
 ·have h : p.2.2 = F1.zero:=hp.1;exact aD aG (fun _ s => CZ _) (aK prog) func236 (PJ p) ⟨by rw [h],trivial⟩ ha
def FK (d : Bool) : Tab:=(FH d).add 236 (g1 Rv (Iz d))
theorem DC (d : Bool) : TabOk prog (FK d):=(CZ d).ad func236 (cM nW fun p hp args w ha => Iy d p hp args w ha)
theorem OM (d : Bool) (p : J1) (b : Fq) : aU prog (qG prog) (fun _ => ⟨fun s => FK d,fun s => true,fun _ => none⟩) f239 60 [.v (.fl (iU p)),.v (.fl (e1 b))] = some ([aA (e1 p.2.2) = aA (e1 F1.one)],.one (.fl (e1 b))):=by kernel_rfl
theorem ON (d : Bool) (p : J1) (b : Fq) : aU prog (qG prog) (fun _ => ⟨fun s => FK d,fun s => false,fun _ => none⟩) f239 60 [.v (.fl (iU p)),.v (.fl (e1 b))] = some ([aA (e1 p.2.2) ≠ aA (e1 F1.one)],.one (.fl (e1 (F1.mul b p.2.2)))):=by kernel_rfl
theorem Pu (d : Bool) (p : J1) (b : Fq) (args : List Value) (w : World) (ha : bD w [.v (.fl (iU p)),.v (.fl (e1 b))] args) : Good prog 239 (.one (.fl (e1 (F1.mul b p.2.2)))) args w:=by
 by_cases h : p.2.2 = F1.one
 ·rw [h,F1.mul_one];exact aD aG (fun _ s => DC _) (aK prog) func239 (OM d p b) ⟨by rw [h],trivial⟩ ha
 ·exact aD aG (fun _ s => DC _) (aK prog) func239 (ON d p b) ⟨mX h,trivial⟩ ha
def FB (d : Bool) : Tab:=(FK d).add 239 (g2 Rv zK fun p b => ([],.one (.fl (e1 (F1.mul b p.2.2)))))
theorem CX (d : Bool) : TabOk prog (FB d):=(DC d).ad func239 (iQ nW dK fun p b hp args w ha => Pu d p b args w ha)
theorem PP (d : Bool) (p q : J1) : aU prog (qG prog) (fun _ => ⟨fun s => FB d,fun s => true,fun _ => none⟩) f234 60 [.v (.fl (iU p)),.v (.fl (iU q))] = some ([aA (e1 q.2.2) = aA (e1 F1.one)],.many [.fl (e1 (p.1)),.fl (e1 (p.2.1))]):=by kernel_rfl
theorem PQ (d : Bool) (p q : J1) : aU prog (qG prog) (fun _ => ⟨fun s => FB d,fun s => false,fun _ => none⟩) f234 60 [.v (.fl (iU p)),.v (.fl (iU q))] = some ([aA (e1 q.2.2) ≠ aA (e1 F1.one)],.many [.fl (e1 (yH F1 p q)),.fl (e1 (tI F1 p q))]):=by kernel_rfl
theorem Wn (d : Bool) (p q : J1) (args : List Value) (w : World) (ha : bD w [.v (.fl (iU p)),.v (.fl (iU q))] args) : Good prog 234 (.many [.fl (e1 (yH F1 p q)),.fl (e1 (tI F1 p q))]) args w:=by
 by_cases h : q.2.2 = F1.one
 ·have hx : yH F1 p q = p.1:=by unfold yH; rw [h,F1.mul_one,F1.mul_one]
  have hy : tI F1 p q = p.2.1:=by unfold tI; rw [h,F1.mul_one,F1.mul_one,F1.mul_one]
  rw [hx,hy];exact aD aG (fun _ s => CX _) (aK prog) func234 (PP d p q) ⟨by rw [h],trivial⟩ ha
 ·exact aD aG (fun _ s => CX _) (aK prog) func234 (PQ d p q) ⟨mX h,trivial⟩ ha
def SW (d : Bool) : Tab:=(FB d).add 234 (g2 Rv Rv fun p q => ([],.many [.fl (e1 (yH F1 p q)),.fl (e1 (tI F1 p q))]))
theorem VJ (d : Bool) : TabOk prog (SW d):=(CX d).ad func234 (iQ nW nW fun p q hp args w ha => Wn d p q args w ha)
theorem Ft (d : Bool) (p : J1) : aU prog (qG prog) (fun _ => ⟨fun s => SW d,fun s => true,fun _ => none⟩) f235 60 [.v (.fl (iU p))] = some ([],.one (.fl (iU (eN F1 p)))):=by kernel_rfl
def oK (d : Bool) : Tab:=(SW d).add 235 (g1 Rv fun p => ([],.one (.fl (iU (eN F1 p)))))
theorem mT (d : Bool) : TabOk prog (oK d):=(VJ d).ad func235 (cM nW fun p hp args w ha => aD aG (fun _ s => VJ _) (aK prog) func235 (Ft d p) trivial ha)
theorem IR (p q : J1) : aU prog (qG prog) (fun _ => ⟨fun s => oK (bif Nat.beq s 18 then true else false),fun s => true,fun _ => none⟩) f238 80 [.v (.fl (iU p)),.v (.fl (iU q))] = some ([p.2.2 = F1.zero],.one (.fl (iU q))):=by kernel_rfl
theorem IQ (p q : J1) : aU prog (qG prog) (fun _ => ⟨fun s => oK (bif Nat.beq s 18 then false else true),fun s => true,fun _ => none⟩) f238 80 [.v (.fl (iU p)),.v (.fl (iU q))] = some ([p.2.2 ≠ F1.zero,q.2.2 = F1.zero],.one (.fl (iU p))):=by kernel_rfl
theorem IP (p q : J1) : aU prog (qG prog) (fun _ => ⟨fun s => oK (bif Nat.beq s 18 then false else false),fun s => true,fun _ => none⟩) f238 80 [.v (.fl (iU p)),.v (.fl (iU q))] = some ([p.2.2 ≠ F1.zero,q.2.2 ≠ F1.zero,aA (e1 (uB F1 p q)) = aA (e1 F1.zero),aA (e1 (NG F1 p q)) = aA (e1 F1.zero)],.one (.fl (iU (eN F1 p)))):=by kernel_rfl
theorem IN (p q : J1) : aU prog (qG prog) (fun _ => ⟨fun s => oK (bif Nat.beq s 18 then false else false),fun s => false,fun _ => none⟩) f238 80 [.v (.fl (iU p)),.v (.fl (iU q))] = some ([p.2.2 ≠ F1.zero,q.2.2 ≠ F1.zero,aA (e1 (uB F1 p q)) ≠ aA (e1 F1.zero)],.one (.fl (iU (DS F1 p q)))):=by kernel_rfl
theorem IM (p q : J1) : aU prog (qG prog) (fun _ => ⟨fun s => oK (bif Nat.beq s 18 then false else false),fun s => !(Nat.beq s 49),fun _ => none⟩) f238 80 [.v (.fl (iU p)),.v (.fl (iU q))] = some ([p.2.2 ≠ F1.zero,q.2.2 ≠ F1.zero,aA (e1 (uB F1 p q)) = aA (e1 F1.zero),aA (e1 (NG F1 p q)) ≠ aA (e1 F1.zero)],.one (.fl (iU (DS F1 p q)))):=by kernel_rfl
theorem Hm (d : Bool) (p q : J1) (args : List Value) (w : World) (ha : bD w [.v (.fl (iU p)),.v (.fl (iU q))] args) : Good prog 238 (.one (.fl (iU (fJ F1 p q)))) args w:=by
 unfold fJ
 by_cases h1 : p.2.2 = F1.zero
 ·rw [if_pos h1];exact aD aG (fun _ s => mT _) (aK prog) func238 (IR p q) ⟨h1,trivial⟩ ha
 ·rw [if_neg h1]
  by_cases h2 : q.2.2 = F1.zero
  ·rw [if_pos h2];exact aD aG (fun _ s => mT _) (aK prog) func238 (IQ p q) ⟨h1,h2,trivial⟩ ha
  ·rw [if_neg h2]
   by_cases h3 : uB F1 p q = F1.zero
   ·by_cases h4 : NG F1 p q = F1.zero
    ·rw [if_pos ⟨h3,h4⟩];exact aD aG (fun _ s => mT _) (aK prog) func238 (IP p q) ⟨h1,h2,by rw [h3],by rw [h4],trivial⟩ ha
    ·rw [if_neg (fun h => h4 h.2)];exact aD aG (fun _ s => mT _) (aK prog) func238 (IM p q) ⟨h1,h2,by rw [h3],mX h4,trivial⟩ ha
   ·rw [if_neg (fun h => h3 h.1)];exact aD aG (fun _ s => mT _) (aK prog) func238 (IN p q) ⟨h1,h2,mX h3,trivial⟩ ha
def uN (d : Bool) : Tab:=(oK d).add 238 (g2 Rv Rv fun p q => ([],.one (.fl (iU (fJ F1 p q)))))
theorem vZ (d : Bool) : TabOk prog (uN d):=(mT d).ad func238 (iQ nW nW fun p q hp args w ha => Hm d p q args w ha)
theorem PH (p : J2) : aU prog (qG prog) (fun _ => ⟨fun s => uN true,fun s => true,fun _ => none⟩) f172 60 [.v (.fl (bG p))] = some ([aA (e2 p.2.2) = aA (e2 F2.zero)],.one (.im (.bool true))):=by kernel_rfl
theorem PI (p : J2) : aU prog (qG prog) (fun _ => ⟨fun s => uN false,fun s => false,fun _ => none⟩) f172 60 [.v (.fl (bG p))] = some ([aA (e2 p.2.2) ≠ aA (e2 F2.zero)],.one (.im (.bool false))):=by kernel_rfl
def Ix (d : Bool) (p : J2) : List Prop × RV:=bif d then ([p.2.2 = F2.zero],.one (.im (.bool true))) else ([p.2.2 ≠ F2.zero],.one (.im (.bool false)))
theorem Iw (d : Bool) (p : J2) (hp : aL (Ix d p).1) (args : List Value) (w : World) (ha : bD w [.v (.fl (bG p))] args) : Good prog 172 (Ix d p).2 args w:=by
 cases d
 ·have h : p.2.2 ≠ F2.zero:=hp.1;exact aD aG (fun _ s => vZ _) (aK prog) func172 (PI p) ⟨iS h,trivial⟩ ha
 ·have h : p.2.2 = F2.zero:=hp.1;exact aD aG (fun _ s => vZ _) (aK prog) func172 (PH p) ⟨by rw [h],trivial⟩ ha
def FJ (d : Bool) : Tab:=(uN d).add 172 (g1 Ar (Ix d))
theorem DB (d : Bool) : TabOk prog (FJ d):=(vZ d).ad func172 (cM iM fun p hp args w ha => Iw d p hp args w ha)
theorem OK (d : Bool) (p : J2) (b : Q2) : aU prog (qG prog) (fun _ => ⟨fun s => FJ d,fun s => true,fun _ => none⟩) f190 60 [.v (.fl (bG p)),.v (.fl (e2 b))] = some ([aA (e2 p.2.2) = aA (e2 F2.one)],.one (.fl (e2 b))):=by kernel_rfl
theorem OL (d : Bool) (p : J2) (b : Q2) : aU prog (qG prog) (fun _ => ⟨fun s => FJ d,fun s => false,fun _ => none⟩) f190 60 [.v (.fl (bG p)),.v (.fl (e2 b))] = some ([aA (e2 p.2.2) ≠ aA (e2 F2.one)],.one (.fl (e2 (F2.mul b p.2.2)))):=by kernel_rfl
theorem Ps (d : Bool) (p : J2) (b : Q2) (args : List Value) (w : World) (ha : bD w [.v (.fl (bG p)),.v (.fl (e2 b))] args) : Good prog 190 (.one (.fl (e2 (F2.mul b p.2.2)))) args w:=by
 by_cases h : p.2.2 = F2.one
 ·rw [h,F2.mul_one];exact aD aG (fun _ s => DB _) (aK prog) func190 (OK d p b) ⟨by rw [h],trivial⟩ ha
 ·exact aD aG (fun _ s => DB _) (aK prog) func190 (OL d p b) ⟨iS h,trivial⟩ ha
def FA (d : Bool) : Tab:=(FJ d).add 190 (g2 Ar UI fun p b => ([],.one (.fl (e2 (F2.mul b p.2.2)))))
theorem CW (d : Bool) : TabOk prog (FA d):=(DB d).ad func190 (iQ iM gR fun p b hp args w ha => Ps d p b args w ha)
theorem PN (d : Bool) (p q : J2) : aU prog (qG prog) (fun _ => ⟨fun s => FA d,fun s => true,fun _ => none⟩) f189 60 [.v (.fl (bG p)),.v (.fl (bG q))] = some ([aA (e2 q.2.2) = aA (e2 F2.one)],.many [.fl (e2 (p.1)),.fl (e2 (p.2.1))]):=by kernel_rfl
theorem PO (d : Bool) (p q : J2) : aU prog (qG prog) (fun _ => ⟨fun s => FA d,fun s => false,fun _ => none⟩) f189 60 [.v (.fl (bG p)),.v (.fl (bG q))] = some ([aA (e2 q.2.2) ≠ aA (e2 F2.one)],.many [.fl (e2 (yH F2 p q)),.fl (e2 (tI F2 p q))]):=by kernel_rfl
theorem Wm (d : Bool) (p q : J2) (args : List Value) (w : World) (ha : bD w [.v (.fl (bG p)),.v (.fl (bG q))] args) : Good prog 189 (.many [.fl (e2 (yH F2 p q)),.fl (e2 (tI F2 p q))]) args w:=by
 by_cases h : q.2.2 = F2.one
 ·have hx : yH F2 p q = p.1:=by unfold yH; rw [h,F2.mul_one,F2.mul_one]
  have hy : tI F2 p q = p.2.1:=by unfold tI; rw [h,F2.mul_one,F2.mul_one,F2.mul_one]
  rw [hx,hy];exact aD aG (fun _ s => CW _) (aK prog) func189 (PN d p q) ⟨by rw [h],trivial⟩ ha
 ·exact aD aG (fun _ s => CW _) (aK prog) func189 (PO d p q) ⟨iS h,trivial⟩ ha
def SV (d : Bool) : Tab:=(FA d).add 189 (g2 Ar Ar fun p q => ([],.many [.fl (e2 (yH F2 p q)),.fl (e2 (tI F2 p q))]))
theorem VI (d : Bool) : TabOk prog (SV d):=(CW d).ad func189 (iQ iM iM fun p q hp args w ha => Wm d p q args w ha)
theorem Fs (d : Bool) (p : J2) : aU prog (qG prog) (fun _ => ⟨fun s => SV d,fun s => true,fun _ => none⟩) f188 60 [.v (.fl (bG p))] = some ([],.one (.fl (bG (eN F2 p)))):=by kernel_rfl
def ST (d : Bool) : Tab:=(SV d).add 188 (g1 Ar fun p => ([],.one (.fl (bG (eN F2 p)))))
theorem VF (d : Bool) : TabOk prog (ST d):=(VI d).ad func188 (cM iM fun p hp args w ha => aD aG (fun _ s => VI _) (aK prog) func188 (Fs d p) trivial ha)
theorem Fp (d : Bool) (p : J2) : aU prog (qG prog) (fun _ => ⟨fun s => ST d,fun s => true,fun _ => none⟩) f181 60 [.v (.fl (bG p))] = some ([],.one (.fl (bG (DU F2 p)))):=by kernel_rfl
def yB (d : Bool) : Tab:=(ST d).add 181 (g1 Ar fun p => ([],.one (.fl (bG (DU F2 p)))))
theorem tV (d : Bool) : TabOk prog (yB d):=(VF d).ad func181 (cM iM fun p hp args w ha => aD aG (fun _ s => VF _) (aK prog) func181 (Fp d p) trivial ha)
theorem GU (p : J2) : aU prog (qG prog) (fun _ => ⟨fun s => yB true,fun s => true,fun _ => none⟩) f159 60 [.v (.fl (bG p))] = some ([p.2.2 = F2.zero],.many [.fl (e2 F2.zero),.fl (e2 F2.zero),.im (.bool true)]):=by kernel_rfl
theorem GT (p : J2) : aU prog (qG prog) (fun _ => ⟨fun s => yB false,fun s => true,fun _ => none⟩) f159 60 [.v (.fl (bG p))] = some ([p.2.2 ≠ F2.zero,aA (e2 p.2.2) = aA (e2 F2.one)],.many [.fl (e2 p.1),.fl (e2 p.2.1),.im (.bool false)]):=by kernel_rfl
theorem GV (p : J2) : aU prog (qG prog) (fun _ => ⟨fun s => yB false,fun s => false,fun _ => none⟩) f159 60 [.v (.fl (bG p))] = some ([p.2.2 ≠ F2.zero,aA (e2 p.2.2) ≠ aA (e2 F2.one),iE p.2.2 ≠ F1.zero],.many [.fl (e2 (F2.mul p.1 (F2.mul (iZ p.2.2) (iZ p.2.2)))),.fl (e2 (F2.mul p.2.1 (F2.mul (F2.mul (iZ p.2.2) (iZ p.2.2)) (iZ p.2.2)))),.im (.bool false)]):=by kernel_rfl
def QR (d : Bool) (p : J2) : List Prop × RV:=bif d then ([p.2.2 = F2.zero],.many [.fl (e2 F2.zero),.fl (e2 F2.zero),.im (.bool true)]) else ([p.2.2 ≠ F2.zero],.many [.fl (e2 (F2.mul p.1 (F2.mul (iZ p.2.2) (iZ p.2.2)))),.fl (e2 (F2.mul p.2.1 (F2.mul (F2.mul (iZ p.2.2) (iZ p.2.2)) (iZ p.2.2)))),.im (.bool false)])
theorem Bn (d : Bool) (p : J2) (hp : aL (QR d p).1) (args : List Value) (w : World) (ha : bD w [.v (.fl (bG p))] args) : Good prog 159 (QR d p).2 args w:=by
 cases d
 ·have h : p.2.2 ≠ F2.zero:=hp.1;show Good _ _ (.many [.fl (e2 (F2.mul p.1 (F2.mul (iZ p.2.2) (iZ p.2.2)))),.fl (e2 (F2.mul p.2.1 (F2.mul (F2.mul (iZ p.2.2) (iZ p.2.2)) (iZ p.2.2)))),.im (.bool false)]) _ _
  by_cases h1 : p.2.2 = F2.one
  ·have hi : iZ p.2.2 = F2.one:=by rw [h1]; exact fd2.inv_one
   rw [hi,F2.mul_one,F2.mul_one,F2.mul_one,F2.mul_one];exact aD aG (fun _ s => tV _) (aK prog) func159 (GT p) ⟨h,by rw [h1],trivial⟩ ha
  ·exact aD aG (fun _ s => tV _) (aK prog) func159 (GV p) ⟨h,iS h1,aBm h,trivial⟩ ha
 ·exact aD aG (fun _ s => tV _) (aK prog) func159 (GU p) hp ha
def lF (d : Bool) : Tab:=(yB d).add 159 (g1 Ar (QR d))
theorem kB (d : Bool) : TabOk prog (lF d):=(tV d).ad func159 (cM iM fun p hp args w ha => Bn d p hp args w ha)
theorem IL (p q : J2) : aU prog (qG prog) (fun _ => ⟨fun s => lF (bif Nat.beq s 18 then true else false),fun s => true,fun _ => none⟩) f176 80 [.v (.fl (bG p)),.v (.fl (bG q))] = some ([p.2.2 = F2.zero],.one (.fl (bG q))):=by kernel_rfl
theorem IK (p q : J2) : aU prog (qG prog) (fun _ => ⟨fun s => lF (bif Nat.beq s 18 then false else true),fun s => true,fun _ => none⟩) f176 80 [.v (.fl (bG p)),.v (.fl (bG q))] = some ([p.2.2 ≠ F2.zero,q.2.2 = F2.zero],.one (.fl (bG p))):=by kernel_rfl
theorem IJ (p q : J2) : aU prog (qG prog) (fun _ => ⟨fun s => lF (bif Nat.beq s 18 then false else false),fun s => true,fun _ => none⟩) f176 80 [.v (.fl (bG p)),.v (.fl (bG q))] = some ([p.2.2 ≠ F2.zero,q.2.2 ≠ F2.zero,aA (e2 (uB F2 p q)) = aA (e2 F2.zero),aA (e2 (NG F2 p q)) = aA (e2 F2.zero)],.one (.fl (bG (eN F2 p)))):=by kernel_rfl
theorem II (p q : J2) : aU prog (qG prog) (fun _ => ⟨fun s => lF (bif Nat.beq s 18 then false else false),fun s => false,fun _ => none⟩) f176 80 [.v (.fl (bG p)),.v (.fl (bG q))] = some ([p.2.2 ≠ F2.zero,q.2.2 ≠ F2.zero,aA (e2 (uB F2 p q)) ≠ aA (e2 F2.zero)],.one (.fl (bG (DS F2 p q)))):=by kernel_rfl
theorem IH (p q : J2) : aU prog (qG prog) (fun _ => ⟨fun s => lF (bif Nat.beq s 18 then false else false),fun s => !(Nat.beq s 49),fun _ => none⟩) f176 80 [.v (.fl (bG p)),.v (.fl (bG q))] = some ([p.2.2 ≠ F2.zero,q.2.2 ≠ F2.zero,aA (e2 (uB F2 p q)) = aA (e2 F2.zero),aA (e2 (NG F2 p q)) ≠ aA (e2 F2.zero)],.one (.fl (bG (DS F2 p q)))):=by kernel_rfl
theorem Hl (d : Bool) (p q : J2) (args : List Value) (w : World) (ha : bD w [.v (.fl (bG p)),.v (.fl (bG q))] args) : Good prog 176 (.one (.fl (bG (fJ F2 p q)))) args w:=by
 unfold fJ
 by_cases h1 : p.2.2 = F2.zero
 ·rw [if_pos h1];exact aD aG (fun _ s => kB _) (aK prog) func176 (IL p q) ⟨h1,trivial⟩ ha
 ·rw [if_neg h1]
  by_cases h2 : q.2.2 = F2.zero
  ·rw [if_pos h2];exact aD aG (fun _ s => kB _) (aK prog) func176 (IK p q) ⟨h1,h2,trivial⟩ ha
  ·rw [if_neg h2]
   by_cases h3 : uB F2 p q = F2.zero
   ·by_cases h4 : NG F2 p q = F2.zero
    ·rw [if_pos ⟨h3,h4⟩];exact aD aG (fun _ s => kB _) (aK prog) func176 (IJ p q) ⟨h1,h2,by rw [h3],by rw [h4],trivial⟩ ha
    ·rw [if_neg (fun h => h4 h.2)];exact aD aG (fun _ s => kB _) (aK prog) func176 (IH p q) ⟨h1,h2,by rw [h3],iS h4,trivial⟩ ha
   ·rw [if_neg (fun h => h3 h.1)];exact aD aG (fun _ s => kB _) (aK prog) func176 (II p q) ⟨h1,h2,iS h3,trivial⟩ ha
def iD (d : Bool) : Tab:=(lF d).add 176 (g2 Ar Ar fun p q => ([],.one (.fl (bG (fJ F2 p q)))))
theorem gJ (d : Bool) : TabOk prog (iD d):=(kB d).ad func176 (iQ iM iM fun p q hp args w ha => Hl d p q args w ha)
theorem nI (x : Nat) : w4 x = w4 (wv x):=by
 obtain ⟨e0,e1,e2,e3⟩:=fG (bR x) (show wv x < 115792089237316195423570985008687907853269984665640564039457584007913129639936 by
  have h:=bR x;obtain ⟨h0,h1,h2,h3⟩:=h;unfold wv aC; omega) rfl
 unfold w4;rw [e0,e1,e2,e3]
theorem q_f {x : Nat} (h : wv x < FP.M) : aA [.q x] = aA [.f (m1 x)]:=by
 show w4 x ++ [] = w4 (m1 x).1 ++ [];rw [nI x];show w4 (wv x) ++ [] = w4 (wv x % FP.M) ++ [];rw [Nat.mod_eq_of_lt h]
theorem AM (a : At) (l : List At) : aA (a :: l) = aA [a] ++ aA l:=by show a.cells ++ aA l = (a.cells ++ []) ++ aA l; rw [List.append_nil]
theorem tL {x y : Nat} (h : w4 x = w4 y) : wv x = wv y:=by
 unfold w4 at h;simp only [List.cons.injEq,Value.int.injEq,true_and,and_true,Int.ofNat_inj] at h;unfold wv;rw [h.1,h.2.1,h.2.2.1,h.2.2.2]
theorem nX {x : Nat} : aA [.q x] = aA (e1 F1.zero) ↔ wv x = 0:=by
 constructor
 ·intro h;have h' : w4 x ++ [] = w4 0 ++ []:=h;rw [List.append_nil,List.append_nil] at h';rw [tL h']; decide
 ·intro h;show w4 x ++ [] = w4 0 ++ [];rw [nI x,h]
theorem oT {x : N2} : aA (q2 x) = aA (e2 F2.zero) ↔ wv x.1 = 0 ∧ wv x.2 = 0:=by
 constructor
 ·intro h;have h' : w4 x.1 ++ (w4 x.2 ++ []) = w4 0 ++ (w4 0 ++ []):=h;obtain ⟨h1,h2⟩:=List.append_inj h' rfl;rw [List.append_nil,List.append_nil] at h2;exact ⟨by rw [tL h1]; decide,by rw [tL h2]; decide⟩
 ·rintro ⟨h1,h2⟩
  show w4 x.1 ++ (w4 x.2 ++ []) = w4 0 ++ (w4 0 ++ []);rw [nI x.1,nI x.2,h1,h2]
theorem Good.congr {P : Program} {f : FuncId} {r r' : RV} {args : List Value} {w : World} (h : Good P f r args w) (e : r.den = r'.den) : Good P f r' args w:=by
 unfold Good at h ⊢;rw [← e];exact h
def nG (x : Nat) : Prop:=wv x < FP.M
def iH (x : N2) : Prop:=wv x.1 < FP.M ∧ wv x.2 < FP.M
def NH (x : Nat) : Prop:=wv x = 0
def yF (x : N2) : Prop:=wv x.1 = 0 ∧ wv x.2 = 0
theorem Zd {x : Nat} (h : nG x) : aA (q1 x) = aA (e1 (m1 x)):=q_f h
theorem Zc {x : N2} (h : iH x) : aA (q2 x) = aA (e2 (m2 x)):=by
 show aA (.q x.1 :: [.q x.2]) = aA (.f (m1 x.1) :: [.f (m1 x.2)]);rw [AM,AM (.f _),q_f h.1,q_f h.2]
theorem KT {c : Int} (h : c ≠ 0) : aP .neq .i64 c 0 = some (.bool true):=by
 show some (Value.bool (c != 0)) = _;rw [bne_iff_ne.2 h]
theorem KU {c : Int} (h : c = 0) : aP .neq .i64 c 0 = some (.bool false):=by rw [h]; rfl
open Classical in
theorem Ms : ∃ g : Nat → Nat → Bool → Int × J1,∀ x y i,g x y i = if i = true then (if NH x ∧ NH y then (0,(F1.zero,F1.zero,F1.zero)) else (44,(F1.zero,F1.zero,F1.zero))) else if ¬ (nG x ∧ nG y) then (21,(F1.zero,F1.zero,F1.zero)) else if F1.mul (m1 y) (m1 y) = F1.add (F1.mul (F1.mul (m1 x) (m1 x)) (m1 x)) (fm 3) then (0,(m1 x,m1 y,F1.one)) else (41,(F1.zero,F1.zero,F1.zero)):=⟨_,fun _ _ _ => rfl⟩
def cV : Nat → Nat → Bool → Int × J1:=Classical.choose Ms
open Classical in
theorem jS (x y : Nat) (i : Bool) : cV x y i = if i = true then (if NH x ∧ NH y then (0,(F1.zero,F1.zero,F1.zero)) else (44,(F1.zero,F1.zero,F1.zero))) else if ¬ (nG x ∧ nG y) then (21,(F1.zero,F1.zero,F1.zero)) else if F1.mul (m1 y) (m1 y) = F1.add (F1.mul (F1.mul (m1 x) (m1 x)) (m1 x)) (fm 3) then (0,(m1 x,m1 y,F1.one)) else (41,(F1.zero,F1.zero,F1.zero)):=Classical.choose_spec Ms x y i
theorem Af (x y : Nat) : aU prog (qG prog) (fun _ => ⟨fun s => iD (bif Nat.beq s 28 then true else bif Nat.beq s 33 then true else true),fun s => false,fun _ => none⟩) f148 80 [.v (.fl (q1 x)),.v (.fl (q1 y)),.v (.im (.bool true))] = some ([aA (q1 x) ≠ aA (e1 F1.zero)],.many [.fl (iU (F1.zero,F1.zero,F1.zero)),.im (.int .i64 44)]):=by kernel_rfl
theorem Ae (x y : Nat) : aU prog (qG prog) (fun _ => ⟨fun s => iD (bif Nat.beq s 28 then true else bif Nat.beq s 33 then true else true),fun s => !(Nat.beq s 18),fun _ => none⟩) f148 80 [.v (.fl (q1 x)),.v (.fl (q1 y)),.v (.im (.bool true))] = some ([aA (q1 x) = aA (e1 F1.zero),aA (q1 y) ≠ aA (e1 F1.zero)],.many [.fl (iU (F1.zero,F1.zero,F1.zero)),.im (.int .i64 44)]):=by kernel_rfl
theorem Ad (x y : Nat) : aU prog (qG prog) (fun _ => ⟨fun s => iD (bif Nat.beq s 28 then true else bif Nat.beq s 33 then true else true),fun s => true,fun _ => none⟩) f148 80 [.v (.fl (q1 x)),.v (.fl (q1 y)),.v (.im (.bool true))] = some ([aA (q1 x) = aA (e1 F1.zero),aA (q1 y) = aA (e1 F1.zero)],.many [.fl (iU (F1.zero,F1.zero,F1.zero)),.im (.int .i64 0)]):=by kernel_rfl
theorem Ac (x y : Nat) : aU prog (qG prog) (fun _ => ⟨fun s => iD (bif Nat.beq s 28 then false else bif Nat.beq s 33 then true else true),fun s => true,fun _ => none⟩) f148 80 [.v (.fl (q1 x)),.v (.fl (q1 y)),.v (.im (.bool false))] = some ([¬ wv x < FP.M],.many [.fl (iU (F1.zero,F1.zero,F1.zero)),.im (.int .i64 21)]):=by kernel_rfl
theorem Ab (x y : Nat) : aU prog (qG prog) (fun _ => ⟨fun s => iD (bif Nat.beq s 28 then true else bif Nat.beq s 33 then false else true),fun s => true,fun _ => none⟩) f148 80 [.v (.fl (q1 x)),.v (.fl (q1 y)),.v (.im (.bool false))] = some ([wv x < FP.M,¬ wv y < FP.M],.many [.fl (iU (F1.zero,F1.zero,F1.zero)),.im (.int .i64 21)]):=by kernel_rfl
theorem Aa (x y : Nat) : aU prog (qG prog) (fun _ => ⟨fun s => iD (bif Nat.beq s 28 then true else bif Nat.beq s 33 then true else true),fun s => false,fun _ => none⟩) f148 80 [.v (.fl (q1 x)),.v (.fl (q1 y)),.v (.im (.bool false))] = some ([wv x < FP.M,wv y < FP.M,wv y < FP.M,wv y < FP.M,wv x < FP.M,wv x < FP.M,wv x < FP.M,aA (e1 (F1.mul (m1 y) (m1 y))) ≠ aA (e1 (F1.add (F1.mul (F1.mul (m1 x) (m1 x)) (m1 x)) (fm 3)))],.many [.fl (iU (F1.zero,F1.zero,F1.zero)),.im (.int .i64 41)]):=by kernel_rfl
theorem ZZ (x y : Nat) : aU prog (qG prog) (fun _ => ⟨fun s => iD (bif Nat.beq s 28 then true else bif Nat.beq s 33 then true else true),fun s => true,fun _ => none⟩) f148 80 [.v (.fl (q1 x)),.v (.fl (q1 y)),.v (.im (.bool false))] = some ([wv x < FP.M,wv y < FP.M,wv y < FP.M,wv y < FP.M,wv x < FP.M,wv x < FP.M,wv x < FP.M,aA (e1 (F1.mul (m1 y) (m1 y))) = aA (e1 (F1.add (F1.mul (F1.mul (m1 x) (m1 x)) (m1 x)) (fm 3)))],.many [.fl (q1 x ++ (q1 y ++ e1 F1.one)),.im (.int .i64 0)]):=by kernel_rfl
theorem aCF (x y : Nat) (i : Bool) (args : List Value) (w : World) (ha : bD w [.v (.fl (q1 x)),.v (.fl (q1 y)),.v (.im (.bool i))] args) : Good prog 148 (.many [.fl (iU (cV x y i).2),.im (.int .i64 (cV x y i).1)]) args w:=by
 rw [jS];cases i with
 | true =>
  rw [if_pos rfl]
  by_cases hx : NH x
  ·by_cases hy : NH y
   ·rw [if_pos ⟨hx,hy⟩];exact aD aG (fun _ s => gJ _) (aK prog) func148 (Ad x y) ⟨nX.2 hx,nX.2 hy,trivial⟩ ha
   ·rw [if_neg (fun h => hy h.2)];exact aD aG (fun _ s => gJ _) (aK prog) func148 (Ae x y) ⟨nX.2 hx,fun h => hy (nX.1 h),trivial⟩ ha
  ·rw [if_neg (fun h => hx h.1)];exact aD aG (fun _ s => gJ _) (aK prog) func148 (Af x y) ⟨fun h => hx (nX.1 h),trivial⟩ ha
 | false =>
  rw [if_neg (by simp)]
  by_cases hx : nG x
  ·by_cases hy : nG y
   ·rw [if_neg (fun h => h ⟨hx,hy⟩)]
    by_cases h : F1.mul (m1 y) (m1 y) = F1.add (F1.mul (F1.mul (m1 x) (m1 x)) (m1 x)) (fm 3)
    ·rw [if_pos h];refine Good.congr (r:=.many [.fl (q1 x ++ (q1 y ++ e1 F1.one)),.im (.int .i64 0)]) ?_ ?_
     ·exact aD aG (fun _ s => gJ _) (aK prog) func148 (ZZ x y) ⟨hx,hy,hy,hy,hx,hx,hx,by rw [h],trivial⟩ ha
     ·have e : aA (q1 x ++ (q1 y ++ e1 F1.one)) = aA (iU (m1 x,m1 y,F1.one)):=by
       rw [aH,aH,Zd hx,Zd hy];rfl
      show Value.tuple #[.agg (aA _).toArray,_] = .tuple #[.agg (aA _).toArray,_];rw [e]
    ·rw [if_neg h];exact aD aG (fun _ s => gJ _) (aK prog) func148 (Aa x y) ⟨hx,hy,hy,hy,hx,hx,hx,mX h,trivial⟩ ha
   ·rw [if_pos (fun h => hy h.2)];exact aD aG (fun _ s => gJ _) (aK prog) func148 (Ab x y) ⟨hx,hy,trivial⟩ ha
  ·rw [if_pos (fun h => hx h.1)];exact aD aG (fun _ s => gJ _) (aK prog) func148 (Ac x y) ⟨hx,trivial⟩ ha
def aBV : gE
 | [.v (.fl l),.v (.fl m),.v (.im (.bool i))] => match PT l,PT m with
  | some x,some y => some ([],.many [.fl (iU (cV x y i).2),.im (.int .i64 (cV x y i).1)])
  | _,_ => none
 | _ => none
theorem Vc : ∀ cs pre r,aBV cs = some (pre,r) → aL pre → ∀ (args : List Value) (w : World),bD w cs args → Good prog 148 r args w:=by
 intro cs pre r hg hp args w ha;unfold aBV at hg;split at hg
 ·rename_i l m i;split at hg
  ·rename_i x y hx hy;cases hg;refine aCF x y i args w ?_
   match args,ha with
   | [u,v,t],ha =>
    refine ⟨?_,?_,ha.2.2⟩
    ·show u = .agg (aA (q1 x)).toArray;rw [← fU l x hx]; exact ha.1
    ·show v = .agg (aA (q1 y)).toArray;rw [← fU m y hy]; exact ha.2.1
   | [],ha => exact ha.elim
   | [_],ha => exact ha.2.elim
   | [_,_],ha => exact ha.2.2.elim
   | _ :: _ :: _ :: _ :: _,ha => exact ha.2.2.2.elim
  ·cases hg
 ·cases hg
def Ot (d : Bool) : Tab:=(iD d).add 148 aBV
theorem Ik (d : Bool) : TabOk prog (Ot d):=(gJ d).ad func148 Vc
abbrev dU:=Nat × Nat × Bool
def fA (p : dU) : List At:=[.q p.1,.q p.2.1,.c (.bool p.2.2)]
def Xx : List At → Option dU
 | [a,b,.c (.bool i)] => match nD a,nD b with | some x,some y => some (x,y,i) | _,_ => none
 | _ => none
theorem iF {a : At} {x : Nat} (h : nD a = some x) : a.cells = w4 x:=by cases a <;> cases h <;> rfl
theorem qT : Rd Xx fA:=fun l x h => by
 unfold Xx at h;split at h
 ·split at h
  ·rename_i x y h1 h2;cases h;show _ ++ (_ ++ _) = w4 _ ++ (w4 _ ++ _);rw [iF h1,iF h2]
  ·cases h
 ·cases h
def ptI {R : Type} : Pt R → Bool | none => true | some _ => false
def Yc {R : Type} (K : CR R) : Pt R → R | none => K.zero | some p => p.1
def Yb {R : Type} (K : CR R) : Pt R → R | none => K.zero | some p => p.2
theorem Rk (d : Bool) (p : dU) : aU prog (qG prog) (fun _ => ⟨fun s => Ot d,fun s => true,fun _ => none⟩) f118 80 [.v (.fl (fA p))] = some ([],.many [.fl (iU (cV p.1 p.2.1 p.2.2).2),.im (.int .i64 (cV p.1 p.2.1 p.2.2).1)]):=by kernel_rfl
def Oe (d : Bool) : Tab:=(Ot d).add 118 (g1 Xx fun p => ([],.many [.fl (iU (cV p.1 p.2.1 p.2.2).2),.im (.int .i64 (cV p.1 p.2.1 p.2.2).1)]))
theorem If (d : Bool) : TabOk prog (Oe d):=(Ik d).ad func118 (cM qT fun p hp args w ha => aD aG (fun _ s => Ik _) (aK prog) func118 (Rk d p) trivial ha)
theorem Rt (d : Bool) (p : dU) : aU prog (qG prog) (fun _ => ⟨fun s => Oe d,fun s => true,fun _ => none⟩) f79 80 [.v (.fl (fA p))] = some ([],.one (.im (.int .i64 (cV p.1 p.2.1 p.2.2).1))):=by kernel_rfl
def qB (d : Bool) : Tab:=(Oe d).add 79 (g1 Xx fun p => ([],.one (.im (.int .i64 (cV p.1 p.2.1 p.2.2).1))))
theorem mA (d : Bool) : TabOk prog (qB d):=(If d).ad func79 (cM qT fun p hp args w ha => aD aG (fun _ s => If _) (aK prog) func79 (Rt d p) trivial ha)
open Classical in
theorem Mp : ∃ g : N2 → N2 → Bool → Int × J2,∀ x y i,g x y i = if i = true then (if yF x ∧ yF y then (0,(F2.zero,F2.zero,F2.zero)) else (44,(F2.zero,F2.zero,F2.zero))) else if ¬ (iH x ∧ iH y) then (21,(F2.zero,F2.zero,F2.zero)) else if F2.mul (m2 y) (m2 y) = F2.add (F2.mul (F2.mul (m2 x) (m2 x)) (m2 x)) qD then (0,(m2 x,m2 y,F2.one)) else (41,(F2.zero,F2.zero,F2.zero)):=⟨_,fun _ _ _ => rfl⟩
def fM : N2 → N2 → Bool → Int × J2:=Classical.choose Mp
open Classical in
theorem iV (x y : N2) (i : Bool) : fM x y i = if i = true then (if yF x ∧ yF y then (0,(F2.zero,F2.zero,F2.zero)) else (44,(F2.zero,F2.zero,F2.zero))) else if ¬ (iH x ∧ iH y) then (21,(F2.zero,F2.zero,F2.zero)) else if F2.mul (m2 y) (m2 y) = F2.add (F2.mul (F2.mul (m2 x) (m2 x)) (m2 x)) qD then (0,(m2 x,m2 y,F2.one)) else (41,(F2.zero,F2.zero,F2.zero)):=Classical.choose_spec Mp x y i
theorem ZY (x y : N2) : aU prog (qG prog) (fun _ => ⟨fun s => qB (bif Nat.beq s 28 then true else bif Nat.beq s 33 then true else true),fun s => false,fun _ => none⟩) f87 80 [.v (.fl (q2 x)),.v (.fl (q2 y)),.v (.im (.bool true))] = some ([aA (q2 x) ≠ aA (e2 F2.zero)],.many [.fl (bG (F2.zero,F2.zero,F2.zero)),.im (.int .i64 44)]):=by kernel_rfl
theorem ZX (x y : N2) : aU prog (qG prog) (fun _ => ⟨fun s => qB (bif Nat.beq s 28 then true else bif Nat.beq s 33 then true else true),fun s => !(Nat.beq s 18),fun _ => none⟩) f87 80 [.v (.fl (q2 x)),.v (.fl (q2 y)),.v (.im (.bool true))] = some ([aA (q2 x) = aA (e2 F2.zero),aA (q2 y) ≠ aA (e2 F2.zero)],.many [.fl (bG (F2.zero,F2.zero,F2.zero)),.im (.int .i64 44)]):=by kernel_rfl
theorem ZW (x y : N2) : aU prog (qG prog) (fun _ => ⟨fun s => qB (bif Nat.beq s 28 then true else bif Nat.beq s 33 then true else true),fun s => true,fun _ => none⟩) f87 80 [.v (.fl (q2 x)),.v (.fl (q2 y)),.v (.im (.bool true))] = some ([aA (q2 x) = aA (e2 F2.zero),aA (q2 y) = aA (e2 F2.zero)],.many [.fl (bG (F2.zero,F2.zero,F2.zero)),.im (.int .i64 0)]):=by kernel_rfl
theorem ZV (x y : N2) : aU prog (qG prog) (fun _ => ⟨fun s => qB (bif Nat.beq s 28 then false else bif Nat.beq s 33 then true else true),fun s => true,fun _ => none⟩) f87 80 [.v (.fl (q2 x)),.v (.fl (q2 y)),.v (.im (.bool false))] = some ([¬ (wv x.1 < FP.M ∧ wv x.2 < FP.M)],.many [.fl (bG (F2.zero,F2.zero,F2.zero)),.im (.int .i64 21)]):=by kernel_rfl
theorem ZU (x y : N2) : aU prog (qG prog) (fun _ => ⟨fun s => qB (bif Nat.beq s 28 then true else bif Nat.beq s 33 then false else true),fun s => true,fun _ => none⟩) f87 80 [.v (.fl (q2 x)),.v (.fl (q2 y)),.v (.im (.bool false))] = some ([(wv x.1 < FP.M ∧ wv x.2 < FP.M),¬ (wv y.1 < FP.M ∧ wv y.2 < FP.M)],.many [.fl (bG (F2.zero,F2.zero,F2.zero)),.im (.int .i64 21)]):=by kernel_rfl
theorem ZT (x y : N2) : aU prog (qG prog) (fun _ => ⟨fun s => qB (bif Nat.beq s 28 then true else bif Nat.beq s 33 then true else true),fun s => false,fun _ => none⟩) f87 80 [.v (.fl (q2 x)),.v (.fl (q2 y)),.v (.im (.bool false))] = some ([(wv x.1 < FP.M ∧ wv x.2 < FP.M),(wv y.1 < FP.M ∧ wv y.2 < FP.M),aA (e2 (F2.mul (m2 y) (m2 y))) ≠ aA (e2 (F2.add (F2.mul (F2.mul (m2 x) (m2 x)) (m2 x)) qD))],.many [.fl (bG (F2.zero,F2.zero,F2.zero)),.im (.int .i64 41)]):=by kernel_rfl
theorem ZS (x y : N2) : aU prog (qG prog) (fun _ => ⟨fun s => qB (bif Nat.beq s 28 then true else bif Nat.beq s 33 then true else true),fun s => true,fun _ => none⟩) f87 80 [.v (.fl (q2 x)),.v (.fl (q2 y)),.v (.im (.bool false))] = some ([(wv x.1 < FP.M ∧ wv x.2 < FP.M),(wv y.1 < FP.M ∧ wv y.2 < FP.M),aA (e2 (F2.mul (m2 y) (m2 y))) = aA (e2 (F2.add (F2.mul (F2.mul (m2 x) (m2 x)) (m2 x)) qD))],.many [.fl (q2 x ++ (q2 y ++ e2 F2.one)),.im (.int .i64 0)]):=by kernel_rfl
theorem aCE (x y : N2) (i : Bool) (args : List Value) (w : World) (ha : bD w [.v (.fl (q2 x)),.v (.fl (q2 y)),.v (.im (.bool i))] args) : Good prog 87 (.many [.fl (bG (fM x y i).2),.im (.int .i64 (fM x y i).1)]) args w:=by
 rw [iV];cases i with
 | true =>
  rw [if_pos rfl]
  by_cases hx : yF x
  ·by_cases hy : yF y
   ·rw [if_pos ⟨hx,hy⟩];exact aD aG (fun _ s => mA _) (aK prog) func87 (ZW x y) ⟨oT.2 hx,oT.2 hy,trivial⟩ ha
   ·rw [if_neg (fun h => hy h.2)];exact aD aG (fun _ s => mA _) (aK prog) func87 (ZX x y) ⟨oT.2 hx,fun h => hy (oT.1 h),trivial⟩ ha
  ·rw [if_neg (fun h => hx h.1)];exact aD aG (fun _ s => mA _) (aK prog) func87 (ZY x y) ⟨fun h => hx (oT.1 h),trivial⟩ ha
 | false =>
  rw [if_neg (by simp)]
  by_cases hx : iH x
  ·by_cases hy : iH y
   ·rw [if_neg (fun h => h ⟨hx,hy⟩)]
    by_cases h : F2.mul (m2 y) (m2 y) = F2.add (F2.mul (F2.mul (m2 x) (m2 x)) (m2 x)) qD
    ·rw [if_pos h];refine Good.congr (r:=.many [.fl (q2 x ++ (q2 y ++ e2 F2.one)),.im (.int .i64 0)]) ?_ ?_
     ·exact aD aG (fun _ s => mA _) (aK prog) func87 (ZS x y) ⟨hx,hy,by rw [h],trivial⟩ ha
     ·have e : aA (q2 x ++ (q2 y ++ e2 F2.one)) = aA (bG (m2 x,m2 y,F2.one)):=by
       rw [aH,aH,Zc hx,Zc hy];rfl
      show Value.tuple #[.agg (aA _).toArray,_] = .tuple #[.agg (aA _).toArray,_];rw [e]
    ·rw [if_neg h];exact aD aG (fun _ s => mA _) (aK prog) func87 (ZT x y) ⟨hx,hy,iS h,trivial⟩ ha
   ·rw [if_pos (fun h => hy h.2)];exact aD aG (fun _ s => mA _) (aK prog) func87 (ZU x y) ⟨hx,hy,trivial⟩ ha
  ·rw [if_pos (fun h => hx h.1)];exact aD aG (fun _ s => mA _) (aK prog) func87 (ZV x y) ⟨hx,trivial⟩ ha
def aBU : gE
 | [.v (.fl l),.v (.fl m),.v (.im (.bool i))] => match Ct l,Ct m with
  | some x,some y => some ([],.many [.fl (bG (fM x y i).2),.im (.int .i64 (fM x y i).1)])
  | _,_ => none
 | _ => none
theorem Vb : ∀ cs pre r,aBU cs = some (pre,r) → aL pre → ∀ (args : List Value) (w : World),bD w cs args → Good prog 87 r args w:=by
 intro cs pre r hg hp args w ha;unfold aBU at hg;split at hg
 ·rename_i l m i;split at hg
  ·rename_i x y hx hy;cases hg;refine aCE x y i args w ?_
   match args,ha with
   | [u,v,t],ha =>
    refine ⟨?_,?_,ha.2.2⟩
    ·show u = .agg (aA (q2 x)).toArray;rw [← jO l x hx]; exact ha.1
    ·show v = .agg (aA (q2 y)).toArray;rw [← jO m y hy]; exact ha.2.1
   | [],ha => exact ha.elim
   | [_],ha => exact ha.2.elim
   | [_,_],ha => exact ha.2.2.elim
   | _ :: _ :: _ :: _ :: _,ha => exact ha.2.2.2.elim
  ·cases hg
 ·cases hg
def Oq (d : Bool) : Tab:=(qB d).add 87 aBU
theorem Ij (d : Bool) : TabOk prog (Oq d):=(mA d).ad func87 Vb
abbrev bY:=N2 × N2 × Bool
def cS (p : bY) : List At:=[.q p.1.1,.q p.1.2,.q p.2.1.1,.q p.2.1.2,.c (.bool p.2.2)]
def As : List At → Option bY
 | [a,b,c,d,.c (.bool i)] => match nD a,nD b,nD c,nD d with | some x,some y,some z,some w => some ((x,y),(z,w),i) | _,_,_,_ => none
 | _ => none
theorem iN : Rd As cS:=fun l x h => by
 unfold As at h;split at h
 ·split at h
  ·rename_i x y z w h1 h2 h3 h4;cases h;show _ ++ (_ ++ (_ ++ (_ ++ _))) = w4 _ ++ (w4 _ ++ (w4 _ ++ (w4 _ ++ _)));rw [iF h1,iF h2,iF h3,iF h4]
  ·cases h
 ·cases h
def yI (p : Pt Q2) : List At:=[.f (Yc F2 p).1,.f (Yc F2 p).2,.f (Yb F2 p).1,.f (Yb F2 p).2,.c (.bool (ptI p))]
theorem Rj (d : Bool) (p : bY) : aU prog (qG prog) (fun _ => ⟨fun s => Oq d,fun s => true,fun _ => none⟩) f51 80 [.v (.fl (cS p))] = some ([],.many [.fl (bG (fM p.1 p.2.1 p.2.2).2),.im (.int .i64 (fM p.1 p.2.1 p.2.2).1)]):=by kernel_rfl
def Od (d : Bool) : Tab:=(Oq d).add 51 (g1 As fun p => ([],.many [.fl (bG (fM p.1 p.2.1 p.2.2).2),.im (.int .i64 (fM p.1 p.2.1 p.2.2).1)]))
theorem Ie (d : Bool) : TabOk prog (Od d):=(Ij d).ad func51 (cM iN fun p hp args w ha => aD aG (fun _ s => Ij _) (aK prog) func51 (Rj d p) trivial ha)
theorem Rs (d : Bool) (p : bY) : aU prog (qG prog) (fun _ => ⟨fun s => Od d,fun s => true,fun _ => none⟩) f28 80 [.v (.fl (cS p))] = some ([],.one (.im (.int .i64 (fM p.1 p.2.1 p.2.2).1))):=by kernel_rfl
def XX (d : Bool) : Tab:=(Od d).add 28 (g1 As fun p => ([],.one (.im (.int .i64 (fM p.1 p.2.1 p.2.2).1))))
theorem QP (d : Bool) : TabOk prog (XX d):=(Ie d).ad func28 (cM iN fun p hp args w ha => aD aG (fun _ s => Ie _) (aK prog) func28 (Rs d p) trivial ha)
theorem PE (p : J2) : aU prog (qG prog) (fun _ => ⟨fun s => XX true,fun s => true,fun _ => none⟩) f131 80 [.v (.fl (bG p))] = some ([p.2.2 = F2.zero],.one (.fl (yI none))):=by kernel_rfl
theorem PF (p : J2) : aU prog (qG prog) (fun _ => ⟨fun s => XX false,fun s => true,fun _ => none⟩) f131 80 [.v (.fl (bG p))] = some ([p.2.2 ≠ F2.zero],.one (.fl (yI (some (F2.mul p.1 (F2.mul (iZ p.2.2) (iZ p.2.2)),F2.mul p.2.1 (F2.mul (F2.mul (iZ p.2.2) (iZ p.2.2)) (iZ p.2.2))))))):=by kernel_rfl
theorem Sy (p : J2) (args : List Value) (w : World) (ha : bD w [.v (.fl (bG p))] args) : Good prog 131 (.one (.fl (yI (gC F2 iZ p)))) args w:=by
 by_cases h : p.2.2 = F2.zero
 ·rw [cQ h];exact aD aG (fun _ s => QP _) (aK prog) func131 (PE p) ⟨h,trivial⟩ ha
 ·rw [dF h];exact aD aG (fun _ s => QP _) (aK prog) func131 (PF p) ⟨h,trivial⟩ ha
def FI (d : Bool) : Tab:=(XX d).add 131 (g1 Ar fun p => ([],.one (.fl (yI (gC F2 iZ p)))))
theorem DA (d : Bool) : TabOk prog (FI d):=(QP d).ad func131 (cM iM fun p hp args w ha => Sy p args w ha)
def gW : List At:=[.c (.func (.func 51) #[] #[]),.c (.func (.func 131) #[] #[])]
theorem Fr (d : Bool) : aU prog (qG prog) (fun _ => ⟨fun s => FI d,fun s => true,fun _ => none⟩) f93 80 [] = some ([],.one (.fl gW)):=by kernel_rfl
def SR (d : Bool) : Tab:=(FI d).add 93 (g0 (.one (.fl gW)))
theorem VD (d : Bool) : TabOk prog (SR d):=(DA d).ad func93 (LU fun w => aD aG (fun _ s => DA _) (aK prog) func93 (Fr d) trivial (args:=[]) trivial)
def dQ (n : Nat) : Nat:=if wv n = 0 then 0 else Nat.log2 (wv n) + 1
theorem uA (n : Nat) : LenIs (wv n) (dQ n):=by
 unfold dQ
 by_cases h : wv n = 0
 ·rw [if_pos h,h]; exact ⟨by decide,fun h => by cases h⟩
 ·rw [if_neg h];exact ⟨Nat.lt_log2_self,fun _ => by rw [Nat.add_sub_cancel]; exact Nat.log2_self_le h⟩
theorem Xm (n : Nat) : wv n < 2 ^ 256:=by
 obtain ⟨h0,h1,h2,h3⟩:=bR n;unfold wv aC;have : (2 : Nat) ^ 256 = 115792089237316195423570985008687907853269984665640564039457584007913129639936:=by decide
 omega
theorem Ug (n : Nat) : dQ n ≤ 256:=by
 rcases Nat.lt_or_ge 256 (dQ n) with h | h
 ·have h1:=(uA n).2 (by omega);have h2:=Nat.pow_le_pow_right (show 0 < 2 by omega) (show 256 ≤ dQ n - 1 by omega);have:=Xm n;omega
 ·exact h
def aBQ : gE
 | [.v (.fl l)] => match PT l with
  | some n => some ([],.one (.im (.int .i64 (dQ n : Nat))))
  | none => none
 | _ => none
theorem aBp : ∀ cs pre r,aBQ cs = some (pre,r) → aL pre → ∀ (args : List Value) (w : World),bD w cs args → Good prog 152 r args w:=by
 intro cs pre r hg hp args w ha;unfold aBQ at hg;split at hg
 ·rename_i l;split at hg
  ·rename_i n hn;cases hg;rw [sV ha,fU l _ hn];refine (rM _ _ _ _ (bR n) w).mono ?_
   rintro e w' ⟨L,rfl,_,h,hbl⟩
   cases h.uniq (uA n);exact ⟨rfl,hbl⟩
  ·cases hg
 ·cases hg
def aBH : gE
 | [.v (.fl l),.v (.im (.int .i64 (.ofNat k)))] => match PT l with
  | some n => some ([k < 9223372036854775808],.one (.fl (q1 (wv n / 2 ^ k))))
  | none => none
 | _ => none
theorem aAv : ∀ cs pre r,aBH cs = some (pre,r) → aL pre → ∀ (args : List Value) (w : World),bD w cs args → Good prog 156 r args w:=by
 intro cs pre r hg hp args w ha;unfold aBH at hg;split at hg
 ·rename_i l k;split at hg
  ·rename_i n hn;cases hg
   match args,ha with
   | [v,u],ha =>
    have h1 : v = .agg (aA l).toArray:=ha.1;have h2 : u = .int .i64 (Int.ofNat k):=ha.2.1;rw [fU l _ hn] at h1;subst h1; subst h2;have hk : k < 9223372036854775808:=hp.1;refine (fF _ _ _ _ (Int.ofNat k) (bR n) (by simp) (by simp; omega) w).mono ?_
    rintro e w' ⟨s0,s1,s2,s3,rfl,hs,hv,hb⟩
    have hlt : wv n / 2 ^ k < 115792089237316195423570985008687907853269984665640564039457584007913129639936:=by
     refine Nat.lt_of_le_of_lt (Nat.div_le_self _ _) ?_;have:=Xm n;have e : (2 : Nat) ^ 256 = 115792089237316195423570985008687907853269984665640564039457584007913129639936:=by decide
     omega
    obtain ⟨rfl,rfl,rfl,rfl⟩:=fG hs hlt hv;exact ⟨rfl,hb⟩
   | [],ha => exact ha.elim
   | [_],ha => exact ha.2.elim
   | _ :: _ :: _ :: _,ha => exact ha.2.2.elim
  ·cases hg
 ·cases hg
def TZ (x : Nat) : Nat:=fw x 0 * 2 % 18446744073709551616
def gZ (x p : Nat) : Nat:=(if p = 0 then TZ x else fw (wv x / 2 ^ (p * 4 - 1)) 0) % 32
def kZ (x p : Nat) : Int:=((gZ x p + 1) / 2 : Nat) - (if 16 ≤ gZ x p then 16 else 0 : Int)
def gQ (d : Bool) : Tab:=((FI d).add 152 aBQ).add 156 aBH
theorem lY (d : Bool) : TabOk prog (gQ d):=((DA d).ad func152 aBp).ad func156 aAv
def eH (b o n m : Nat) : List At:=[.c (qK b o n m),.c (iI 4)]
def atX (old : Nat → Nat → List At → Prop) (x i w : Nat) : Ext :=
 { idx:=assoc [(13,i)],ld:=assoc [(14,[At.q x])],st:=fun _ => none,gen:=assoc [(17,uI (TZ x)),(32,uI 32),(34,uI w),(37,iI (w + 1)),(42,uI (w / 16)),(47,iI 16)],mks:=fun _ => none,ky:=fun _ => none,old:=old,T2:=Fr0 }
def atN (p w : Nat) (c0 c1 : Bool) (v : Int) : Nat → Option Value:=assoc [(19,.bool c0),(24,iI (p * 4)),(25,iI (p * 4 - 1)),(36,uI (w + 1)),(38,iI ((w + 1) / 2)),(43,.bool c1),(48,.int .i64 v)]
def iY (op : BinOp) (t : Nat) (x y : Operand) (v u r : Value) : Prop:=∀ w : World,(do eqGuard op t x y v u; binOp op t v u : Sem Value).run prog w = .ok r w
theorem Ah (old : Nat → Nat → List At → Prop) (b o n m i p x w : Nat) (v : Int) : aU prog (qX prog (atX old x i w)) (fun _ => ⟨fun s => gQ true,fun s => true,atN p w true true v⟩) f178 80 [.v (.fl (eH b o n m)),.v (.im (iI i)),.v (.im (iI p))] = some ([Int.ofNat i = Int.ofNat i,i < n,old b (o + i * 4) [At.q x],dG [At.q x] = 4,iY .shl 22 (.tmp 16) (.const (.int .u64 1)) (.int .u64 (fw x 0 : Nat)) (.int .u64 1) (uI (TZ x)),aP .gtr .i64 (Int.ofNat p) 0 = some (.bool true),aP .mul .i64 (Int.ofNat p) (Int.ofNat 4) = some (iI (p * 4)),aP .sub .i64 (Int.ofNat (p * 4)) 1 = some (iI (p * 4 - 1)),p * 4 - 1 < 9223372036854775808,iY .shl 22 (.const (.int .u64 1)) (.tmp 31) (.int .u64 1) (.int .i64 (IntKind.i64.wrap (Int.ofNat 4 + 1))) (uI 32),iY .and 22 (.tmp 28) (.tmp 33) (.int .u64 (fw (wv x / 2 ^ (p * 4 - 1)) 0 : Nat)) (.int .u64 (IntKind.u64.wrap (Int.ofNat 32 - 1))) (uI w),aP .add .u64 (Int.ofNat w) 1 = some (uI (w + 1)),∀ W : World,(convert 22 3 (uI (w + 1))).run prog W = .ok (iI (w + 1)) W,aP .quo .i64 (Int.ofNat (w + 1)) 2 = some (iI ((w + 1) / 2)),iY .shr 22 (.tmp 39) (.tmp 41) (uI w) (iI 4) (uI (w / 16)),aP .eql .u64 (Int.ofNat (w / 16)) 1 = some (.bool true),iY .shl 3 (.const (.int .i64 1)) (.tmp 46) (.int .i64 1) (iI 4) (iI 16),aP .sub .i64 (Int.ofNat ((w + 1) / 2)) (Int.ofNat 16) = some (.int .i64 v)],.one (.im (.int .i64 v))):=by kernel_rfl
theorem Ai (old : Nat → Nat → List At → Prop) (b o n m i p x w : Nat) (v : Int) : aU prog (qX prog (atX old x i w)) (fun _ => ⟨fun s => gQ true,fun s => true,atN p w true false v⟩) f178 80 [.v (.fl (eH b o n m)),.v (.im (iI i)),.v (.im (iI p))] = some ([Int.ofNat i = Int.ofNat i,i < n,old b (o + i * 4) [At.q x],dG [At.q x] = 4,iY .shl 22 (.tmp 16) (.const (.int .u64 1)) (.int .u64 (fw x 0 : Nat)) (.int .u64 1) (uI (TZ x)),aP .gtr .i64 (Int.ofNat p) 0 = some (.bool true),aP .mul .i64 (Int.ofNat p) (Int.ofNat 4) = some (iI (p * 4)),aP .sub .i64 (Int.ofNat (p * 4)) 1 = some (iI (p * 4 - 1)),p * 4 - 1 < 9223372036854775808,iY .shl 22 (.const (.int .u64 1)) (.tmp 31) (.int .u64 1) (.int .i64 (IntKind.i64.wrap (Int.ofNat 4 + 1))) (uI 32),iY .and 22 (.tmp 28) (.tmp 33) (.int .u64 (fw (wv x / 2 ^ (p * 4 - 1)) 0 : Nat)) (.int .u64 (IntKind.u64.wrap (Int.ofNat 32 - 1))) (uI w),aP .add .u64 (Int.ofNat w) 1 = some (uI (w + 1)),∀ W : World,(convert 22 3 (uI (w + 1))).run prog W = .ok (iI (w + 1)) W,aP .quo .i64 (Int.ofNat (w + 1)) 2 = some (iI ((w + 1) / 2)),iY .shr 22 (.tmp 39) (.tmp 41) (uI w) (iI 4) (uI (w / 16)),aP .eql .u64 (Int.ofNat (w / 16)) 1 = some (.bool false)],.one (.im (iI ((w + 1) / 2)))):=by kernel_rfl
theorem Aj (old : Nat → Nat → List At → Prop) (b o n m i p x w : Nat) (v : Int) : aU prog (qX prog (atX old x i w)) (fun _ => ⟨fun s => gQ true,fun s => true,atN p w false true v⟩) f178 80 [.v (.fl (eH b o n m)),.v (.im (iI i)),.v (.im (iI p))] = some ([Int.ofNat i = Int.ofNat i,i < n,old b (o + i * 4) [At.q x],dG [At.q x] = 4,iY .shl 22 (.tmp 16) (.const (.int .u64 1)) (.int .u64 (fw x 0 : Nat)) (.int .u64 1) (uI (TZ x)),aP .gtr .i64 (Int.ofNat p) 0 = some (.bool false),iY .shl 22 (.const (.int .u64 1)) (.tmp 31) (.int .u64 1) (.int .i64 (IntKind.i64.wrap (Int.ofNat 4 + 1))) (uI 32),iY .and 22 (.tmp 28) (.tmp 33) (.int .u64 (TZ x : Nat)) (.int .u64 (IntKind.u64.wrap (Int.ofNat 32 - 1))) (uI w),aP .add .u64 (Int.ofNat w) 1 = some (uI (w + 1)),∀ W : World,(convert 22 3 (uI (w + 1))).run prog W = .ok (iI (w + 1)) W,aP .quo .i64 (Int.ofNat (w + 1)) 2 = some (iI ((w + 1) / 2)),iY .shr 22 (.tmp 39) (.tmp 41) (uI w) (iI 4) (uI (w / 16)),aP .eql .u64 (Int.ofNat (w / 16)) 1 = some (.bool true),iY .shl 3 (.const (.int .i64 1)) (.tmp 46) (.int .i64 1) (iI 4) (iI 16),aP .sub .i64 (Int.ofNat ((w + 1) / 2)) (Int.ofNat 16) = some (.int .i64 v)],.one (.im (.int .i64 v))):=by kernel_rfl
theorem Ak (old : Nat → Nat → List At → Prop) (b o n m i p x w : Nat) (v : Int) : aU prog (qX prog (atX old x i w)) (fun _ => ⟨fun s => gQ true,fun s => true,atN p w false false v⟩) f178 80 [.v (.fl (eH b o n m)),.v (.im (iI i)),.v (.im (iI p))] = some ([Int.ofNat i = Int.ofNat i,i < n,old b (o + i * 4) [At.q x],dG [At.q x] = 4,iY .shl 22 (.tmp 16) (.const (.int .u64 1)) (.int .u64 (fw x 0 : Nat)) (.int .u64 1) (uI (TZ x)),aP .gtr .i64 (Int.ofNat p) 0 = some (.bool false),iY .shl 22 (.const (.int .u64 1)) (.tmp 31) (.int .u64 1) (.int .i64 (IntKind.i64.wrap (Int.ofNat 4 + 1))) (uI 32),iY .and 22 (.tmp 28) (.tmp 33) (.int .u64 (TZ x : Nat)) (.int .u64 (IntKind.u64.wrap (Int.ofNat 32 - 1))) (uI w),aP .add .u64 (Int.ofNat w) 1 = some (uI (w + 1)),∀ W : World,(convert 22 3 (uI (w + 1))).run prog W = .ok (iI (w + 1)) W,aP .quo .i64 (Int.ofNat (w + 1)) 2 = some (iI ((w + 1) / 2)),iY .shr 22 (.tmp 39) (.tmp 41) (uI w) (iI 4) (uI (w / 16)),aP .eql .u64 (Int.ofNat (w / 16)) 1 = some (.bool false)],.one (.im (iI ((w + 1) / 2)))):=by kernel_rfl
theorem UB (x : Nat) : iY .shl 22 (.tmp 16) (.const (.int .u64 1)) (.int .u64 (fw x 0 : Nat)) (.int .u64 1) (uI (TZ x)):=fun w => by
 have h:=(bR x).1;simp [eqGuard,binOp,go_sem,IntKind.wrap,IntKind.signed,uI,TZ]
theorem BY : iY .shl 22 (.const (.int .u64 1)) (.tmp 31) (.int .u64 1) (.int .i64 (IntKind.i64.wrap (Int.ofNat 4 + 1))) (uI 32):=fun w => by
 have e : IntKind.i64.wrap (Int.ofNat 4 + 1) = 5:=by decide
 rw [e];simp [eqGuard,binOp,go_sem,IntKind.wrap,uI]
theorem Es : iY .shl 3 (.const (.int .i64 1)) (.tmp 46) (.int .i64 1) (iI 4) (iI 16):=fun w => by
 simp [eqGuard,binOp,go_sem,IntKind.wrap,iI]
theorem Xt (x : Nat) (h : x < 18446744073709551616) : iY .and 22 (.tmp 28) (.tmp 33) (.int .u64 (x : Nat)) (.int .u64 (IntKind.u64.wrap (Int.ofNat 32 - 1))) (uI (x % 32)):=fun w => by
 have e : IntKind.u64.wrap (Int.ofNat 32 - 1) = ((31 : Nat) : Int):=by decide
 rw [e];have h2:=bits_and_u64_nat x 31 h (by omega);have h3 : x &&& 31 = x % 32:=Nat.and_two_pow_sub_one_eq_mod x 5;rw [h3] at h2;simp [eqGuard,binOp,go_sem,uI];exact h2
theorem aAw (x : Nat) (h : x < 64) (W : World) : (convert 22 3 (uI x)).run prog W = .ok (iI x) W:=by
 have e : IntKind.i64.wrap (x : Int) = x:=pI (by omega);have e2 : (x : Int) % 18446744073709551616 = x:=by omega
 simp [convert,go_sem,uI,iI,e]
theorem aEI (x : Nat) (h : x < 32) : iY .shr 22 (.tmp 39) (.tmp 41) (uI x) (iI 4) (uI (x / 16)):=fun w => by
 simp [eqGuard,binOp,go_sem,uI,iI]
theorem WY (x p : Nat) : gZ x p < 32:=Nat.mod_lt _ (by omega)
theorem aEY (n : Nat) (h : n < 100) : aP .add .u64 (Int.ofNat n) 1 = some (uI (n + 1)):=by
 show some (Value.int .u64 (IntKind.u64.wrap ((n : Int) + 1))) = _;have e : IntKind.u64.wrap ((n : Int) + 1) = ((n + 1 : Nat) : Int):=by
  unfold IntKind.wrap;simp [IntKind.signed,IntKind.bits];omega
 rw [e]; rfl
theorem DE (k : IntKind) (n : Nat) : aP .eql k (Int.ofNat n) 1 = some (.bool (decide (n = 1))):=by
 show some (Value.bool ((n : Int) == 1)) = _
 by_cases h : n = 1
 ·subst h; rfl
 ·rw [decide_eq_false h,beq_eq_false_iff_ne.2 (by omega)]
theorem Np {w0 : World} (b o n m i p x : Nat) (hx : oldOf w0 b (o + i * 4) [.q x]) (hi : i < n) (hp : p < 1152921504606846976) : Calls prog 178 #[.agg (aA (eH b o n m)).toArray,iI i,iI p] w0 (fun e w' => e = .returned (.int .i64 (kZ x p)) ∧ Below w0.heap.size w0 w'):=by
 have hq : ∀ w,bU prog (qX prog (atX (oldOf w0) x i w)) w0.heap.size w0:=fun w => vM (mQ _) fun _ _ _ h => h
 have hT : ∀ n d : Nat,TabOkW prog (gQ true) w0.heap.size w0:=fun _ _ => (lY true).w _ _
 have ha : bD w0 [.v (.fl (eH b o n m)),.v (.im (iI i)),.v (.im (iI p))] [.agg (aA (eH b o n m)).toArray,iI i,iI p]:=⟨rfl,rfl,rfl,trivial⟩;have hw:=WY x p;have hfw:=(bR (wv x / 2 ^ (p * 4 - 1))).1;have hs : TZ x < 18446744073709551616:=Nat.mod_lt _ (by omega);have o1:=aEY (gZ x p) (by omega);have o2:=aAw (gZ x p + 1) (by omega);have o3 : aP .quo .i64 (Int.ofNat (gZ x p + 1)) 2 = some (iI ((gZ x p + 1) / 2)):=Yl (k:=2) (by omega) (by omega);have o4:=aEI (gZ x p) hw;have hv : 16 ≤ gZ x p → aP .sub .i64 (Int.ofNat ((gZ x p + 1) / 2)) (Int.ofNat 16) = some (.int .i64 (kZ x p)):=fun h => by
  show some (Value.int .i64 (IntKind.i64.wrap ((((gZ x p + 1) / 2 : Nat) : Int) - 16))) = _;unfold kZ;rw [if_pos h,IntKind.wrap_i64];congr 2;omega
 have hn : ¬ 16 ≤ gZ x p → kZ x p = Int.ofNat ((gZ x p + 1) / 2):=fun h => by
  unfold kZ;rw [if_neg h]; simp
 by_cases hp0 : p = 0
 ·have hd : gZ x p = TZ x % 32:=by unfold gZ; rw [if_pos hp0]
  have o5:=Xt (TZ x) hs;rw [← hd] at o5;have g0 : aP .gtr .i64 (Int.ofNat p) 0 = some (.bool false):=by rw [hp0]; rfl
  by_cases h16 : 16 ≤ gZ x p
  ·exact bA aG hT (hq _) func178 (Aj (oldOf w0) b o n m i p x (gZ x p) (kZ x p)) ⟨rfl,hi,hx,rfl,UB x,g0,BY,o5,o1,o2,o3,o4,by rw [DE,decide_eq_true (by omega)],Es,hv h16,trivial⟩ ha
  ·rw [hn h16];exact bA aG hT (hq _) func178 (Ak (oldOf w0) b o n m i p x (gZ x p) 0) ⟨rfl,hi,hx,rfl,UB x,g0,BY,o5,o1,o2,o3,o4,by rw [DE,decide_eq_false (by omega)],trivial⟩ ha
 ·have hd : gZ x p = fw (wv x / 2 ^ (p * 4 - 1)) 0 % 32:=by unfold gZ; rw [if_neg hp0]
  have o5:=Xt _ hfw;rw [← hd] at o5;have g0 : aP .gtr .i64 (Int.ofNat p) 0 = some (.bool true):=by
   have:=Io (i:=p) (n:=0);rw [decide_eq_true (by omega)] at this;exact this
  have g1 : aP .mul .i64 (Int.ofNat p) (Int.ofNat 4) = some (iI (p * 4)):=aFa (by omega);have g2 : aP .sub .i64 (Int.ofNat (p * 4)) 1 = some (iI (p * 4 - 1)):=KQ (k:=1) (by omega) (by omega)
  by_cases h16 : 16 ≤ gZ x p
  ·exact bA aG hT (hq _) func178 (Ah (oldOf w0) b o n m i p x (gZ x p) (kZ x p)) ⟨rfl,hi,hx,rfl,UB x,g0,g1,g2,by omega,BY,o5,o1,o2,o3,o4,by rw [DE,decide_eq_true (by omega)],Es,hv h16,trivial⟩ ha
  ·rw [hn h16];exact bA aG hT (hq _) func178 (Ai (oldOf w0) b o n m i p x (gZ x p) 0) ⟨rfl,hi,hx,rfl,UB x,g0,g1,g2,by omega,BY,o5,o1,o2,o3,o4,by rw [DE,decide_eq_false (by omega)],trivial⟩ ha
def gAt (b o n m : Nat) (x : Nat → Nat) : gE
 | [.v (.fl [.c (.slice (some ⟨b',o',.none⟩) n' m'),.c (.int .i64 (.ofNat 4))]),.v (.im (.int .i64 (.ofNat i))),.v (.im (.int .i64 (.ofNat p)))] =>
  some ([b' = b,o' = o,n' = n,m' = m,i < n,p < 1152921504606846976],.one (.im (.int .i64 (kZ (x i) p))))
 | _ => none
theorem aCa {w : World} {b o n m : Nat} {x : Nat → Nat} (hx : ∀ i,i < n → oldOf w b (o + i * 4) [.q (x i)]) : ∀ cs pre r,gAt b o n m x cs = some (pre,r) → aL pre → ∀ (args : List Value),bD w cs args → Good prog 178 r args w:=by
 intro cs pre r hg hp args ha;unfold gAt at hg;split at hg
 ·rename_i b' o' n' m' i p;cases hg;obtain ⟨rfl,rfl,rfl,rfl,hi,hpp,_⟩:=hp
  match args,ha with
  | [u,v,t],ha =>
   have h1 : u = .agg (aA (eH b' o' n' m')).toArray:=ha.1;have h2 : v = iI i:=ha.2.1;have h3 : t = iI p:=ha.2.2.1;subst h1; subst h2; subst h3;exact Np b' o' n' m' i p (x i) (hx i hi) hi hpp
  | [],ha => exact ha.elim
  | [_],ha => exact ha.2.elim
  | [_,_],ha => exact ha.2.2.elim
  | _ :: _ :: _ :: _ :: _,ha => exact ha.2.2.2.elim
 ·cases hg
def Xj (old : Nat → Nat → List At → Prop) : Ext:={ idx:=fun _ => none,ld:=fun _ => none,st:=fun _ => none,gen:=fun _ => none,mks:=fun _ => none,ky:=fun _ => none,old:=old,T2:=Fr0 }
theorem zD {x : Ext} {w : World} (h : x.old = oldOf w) (h2 : x.T2 = Fr0) : bU prog (qX prog x) w.heap.size w:=vM (h2 ▸ mQ _) fun _ _ _ q => h ▸ q
def nE (x : Nat → Nat) : Nat → Nat
 | 0 => 0
 | i + 1 => if dQ (x i) > nE x i then dQ (x i) else nE x i
theorem QV (x : Nat → Nat) : ∀ i,nE x i ≤ 256
 | 0 => Nat.zero_le _
 | i + 1 => by
  have:=QV x i;have:=Ug (x i);unfold nE;split <;> omega
theorem Jj (x : Nat → Nat) : ∀ n i,i < n → dQ (x i) ≤ nE x n
 | n + 1,i,h => by
  unfold nE
  by_cases e : i = n
  ·subst e; split <;> omega
  ·have:=Jj x n i (by omega);split <;> omega
def plX (old : Nat → Nat → List At → Prop) (x i : Nat) : Ext:={ Xj old with idx:=assoc [(11,i)],ld:=assoc [(12,[At.q x])] }
def Hn (b o n m i mx : Nat) : List Fact:=[.slot 1 (.pt 1 0),.row 1 true (eH b o n m),.slot 3 (.im (iI mx)),.slot 7 (.im (qK b o n m)),.slot 8 (.im (iI n)),.slot 9 (.im (iI i))]
def Hp (num : Nat → Option Value) (_ : Nat) : Cfg:=⟨fun _ => gQ true,fun _ => true,num⟩
def gT : Code:=(f187.body).getD .skip
def QG : Code:=Pg (Pg (cB (cA (cB (cB gT)))))
theorem Su : gT = .seq (cA gT) (.seq (cA (cB gT)) (.seq (.seq (cA (cA (cB (cB gT)))) (.block 0 (.loop QG))) (cB (cB (cB gT))))):=by kernel_rfl
def plA (b o n m : Nat) : List Fact:=[.slot 1 (.pt 1 0),.row 1 true (eH b o n m)]
def plB (b o n m : Nat) : List Fact:=[.slot 1 (.pt 1 0),.row 1 true (eH b o n m),.slot 3 (.im (iI 0))]
theorem aER (b o n m : Nat) : bQ prog (qG prog) f187.ntmps (Hp fun _ => none) 40 (cA gT) (lM 0 [.v (.fl (eH b o n m))]) (plA b o n m) = some ([],.nrm,plA b o n m):=by kernel_rfl
theorem aEQ (b o n m : Nat) : bQ prog (qG prog) f187.ntmps (Hp fun _ => none) 40 (cA (cB gT)) (plA b o n m) (plB b o n m) = some ([],.nrm,plB b o n m):=by kernel_rfl
theorem aEP (b o n m : Nat) : bQ prog (qG prog) f187.ntmps (Hp fun _ => none) 40 (cA (cA (cB (cB gT)))) (plB b o n m) (Hn b o n m 0 0) = some ([],.nrm,Hn b o n m 0 0):=by kernel_rfl
theorem aES (old : Nat → Nat → List At → Prop) (b o n m i mx mx' x : Nat) : bQ prog (qX prog (plX old x i)) f187.ntmps (Hp (assoc [(10,.bool true),(16,iI mx'),(17,iI (i + 1))])) 40 QG (Hn b o n m i mx) (Hn b o n m (i + 1) mx') = some ([aP .lss .i64 (Int.ofNat i) (Int.ofNat n) = some (.bool true),Int.ofNat i = Int.ofNat i,i < n,old b (o + i * 4) [.q x],dG [At.q x] = 4,Value.int .i64 (if (Int.ofNat (dQ x)) > (Int.ofNat mx) then Int.ofNat (dQ x) else Int.ofNat mx) = iI mx',aP .add .i64 (Int.ofNat i) 1 = some (iI (i + 1))],.nrm,Hn b o n m (i + 1) mx'):=by kernel_rfl
theorem aAN (b o n m i mx : Nat) : bQ prog (qG prog) f187.ntmps (Hp (assoc [(10,.bool false)])) 40 QG (Hn b o n m i mx) (Hn b o n m i mx) = some ([aP .lss .i64 (Int.ofNat i) (Int.ofNat n) = some (.bool false)],.ex 0,Hn b o n m i mx):=by kernel_rfl
theorem St (b o n m i mx : Nat) : bQ prog (qG prog) f187.ntmps (Hp (assoc [(21,iI (mx / 4)),(22,iI (mx / 4 + 1))])) 40 (cB (cB (cB gT))) (Hn b o n m i mx) [.slot 2 (.im (iI (mx / 4 + 1)))] = some ([aP .quo .i64 (Int.ofNat mx) (Int.ofNat 4) = some (iI (mx / 4)),aP .add .i64 (Int.ofNat (mx / 4)) 1 = some (iI (mx / 4 + 1))],.rt,[.slot 2 (.im (iI (mx / 4 + 1)))]):=by kernel_rfl
theorem CT {w0 : World} (b o n m : Nat) (x : Nat → Nat) (hx : ∀ i,i < n → oldOf w0 b (o + i * 4) [.q (x i)]) (hn : n < 4611686018427387904) : Calls prog 187 #[.agg (aA (eH b o n m)).toArray] w0 (fun e w' => e = .returned (iI (nE x n / 4 + 1)) ∧ Below w0.heap.size w0 w'):=by
 have hG : bU prog (qG prog) w0.heap.size w0:=(aK _).w _ _;have hT : ∀ n d : Nat,TabOkW prog (gQ true) w0.heap.size w0:=fun _ _ => (lY true).w _ _
 refine fK func187 (c:=gT) rfl (args:=[.agg (aA (eH b o n m)).toArray]) (cs:=[.v (.fl (eH b o n m))]) ⟨rfl,trivial⟩ (Nat.le_of_ble_eq_true (by kernel_rfl)) fun a w' hA => ?_
 rw [Su];refine wp_seq (aE aG hT hG (aER b o n m) trivial hA fun a w' hA => ?_);refine wp_seq (aE aG hT hG (aEQ b o n m) trivial hA fun a w' hA => ?_);refine wp_seq (wp_seq (aE aG hT hG (aEP b o n m) trivial hA fun a w' hA => ?_));refine wp_block ?_;refine rL aG (fun i => Hn b o n m i (nE x i)) n (fun i hi => ?_) (.ex 0) (by simp) (Hn b o n m n (nE x n)) ?_ hA fun a w' hA => ?_
 ·refine ⟨_,_,_,_,zD (x:=plX (oldOf w0) (x i) i) rfl rfl,hT,aES (oldOf w0) b o n m i (nE x i) (nE x (i + 1)) (x i),kW hi,rfl,hi,hx i hi,rfl,?_,AD (k:=1) (by omega),trivial⟩;show Value.int .i64 (if ((dQ (x i) : Nat) : Int) > ((nE x i : Nat) : Int) then ((dQ (x i) : Nat) : Int) else ((nE x i : Nat) : Int)) = .int .i64 ((nE x (i + 1) : Nat) : Int);rw [nE]
  by_cases h : dQ (x i) > nE x i
  ·rw [if_pos h,if_pos (by omega)]
  ·rw [if_neg h,if_neg (by omega)]
 ·exact ⟨_,_,_,_,hG,hT,aAN b o n m n _,pD (Nat.le_refl _),trivial⟩
 ·have:=QV x n;show (cB (cB (cB gT))).wp _ _ _ _;exact aE aG hT hG (St b o n m n _) ⟨Yl (by omega) (by omega),AD (k:=1) (by omega),trivial⟩ hA fun a w' hA => eV (l:=[.im (iI (nE x n / 4 + 1))]) (r:=.one (.im (iI (nE x n / 4 + 1)))) (by kernel_rfl) (by kernel_rfl) hA
def jt1 (p : J1) : Nat → J1
 | 0 => (F1.zero,F1.zero,F1.zero)
 | k + 1 => fJ F1 (jt1 p k) p
theorem XA (x p : Nat) : -8 ≤ kZ x p ∧ kZ x p ≤ 8:=by
 have:=WY x p;unfold kZ;split <;> omega
structure ClMem1 (w : World) (bt bd bT N b o n m : Nat) (x : Nat → Nat) (pt : Nat → J1) : Prop where
 t : oldOf w bt 0 [.c (qK bT 0 N N)]
 d : oldOf w bd 0 (eH b o n m)
 x : ∀ i,i < n → oldOf w b (o + i * 4) [.q (x i)]
 p : ∀ i,i < N → ∀ k,k < 8 → oldOf w bT (i * 96 + k * 12) (iU (jt1 (pt i) (k + 1)))
theorem oldOf.on {base : Nat} {w w' : World} (hb : Below w.heap.size w w') {b o : Nat} {l : List At} (h : oldOf w b o l) : oldOf w' b o l:=⟨Nat.lt_of_lt_of_le h.1 hb.size,mN hb h.1 h.2⟩
theorem ClMem1.on {w w' : World} (hb : Below w.heap.size w w') {bt bd bT N b o n m : Nat} {x : Nat → Nat} {pt : Nat → J1} (h : ClMem1 w bt bd bT N b o n m x pt) : ClMem1 w' bt bd bT N b o n m x pt :=
 ⟨h.t.on hb (base:=0),h.d.on hb (base:=0),fun i hi => (h.x i hi).on hb (base:=0),fun i hi k hk => (h.p i hi k hk).on hb (base:=0)⟩
def gPl (b o n m PL : Nat) : gE
 | [.v (.fl [.c (.slice (some ⟨b',o',.none⟩) n' m'),.c (.int .i64 (.ofNat 4))])] => some ([b' = b,o' = o,n' = n,m' = m],.one (.im (iI PL)))
 | _ => none
def zA (p : J2) : Nat → J2
 | 0 => (F2.zero,F2.zero,F2.zero)
 | k + 1 => fJ F2 (zA p k) p
def YL (p : J2) : Int → J2
 | .ofNat 0 => (F2.zero,F2.zero,F2.zero)
 | .ofNat (k + 1) => zA p (k + 1)
 | .negSucc k => DU F2 (zA p (k + 1))
def YM (old : Nat → Nat → List At → Prop) (k : Nat) (h : Int) (q : J2) : Ext:={ Xj old with idx:=assoc [(12,k),(22,k)],ld:=assoc [(13,bG q),(23,bG q)],gen:=assoc [(19,.int .i64 h)] }
theorem YU (old : Nat → Nat → List At → Prop) (b off k : Nat) (g h : Int) (q : J2) : aU prog (qX prog (YM old k h q)) (fun _ => ⟨fun s => gQ true,fun s => true,assoc [(7,.bool true),(10,iI k)]⟩) f177 80 [.v (.im (tC b off)),.v (.im (.int .i64 g))] = some ([aP .gtr .i64 g 0 = some (.bool true),aP .sub .i64 g 1 = some (iI k),Int.ofNat k = Int.ofNat k,k < 8,old b (off + k * 24) (bG q),dG (bG q) = 24],.one (.fl (bG q))):=by kernel_rfl
theorem YV (old : Nat → Nat → List At → Prop) (b off k : Nat) (g h : Int) (q : J2) : aU prog (qX prog (YM old k h q)) (fun _ => ⟨fun s => gQ true,fun s => true,assoc [(7,.bool false),(16,.bool true),(20,iI k)]⟩) f177 80 [.v (.im (tC b off)),.v (.im (.int .i64 g))] = some ([aP .gtr .i64 g 0 = some (.bool false),aP .lss .i64 g 0 = some (.bool true),(∀ W : World,(Op.unary .neg (.int .i64 g)).run prog W = .ok (.int .i64 h) W),aP .sub .i64 h 1 = some (iI k),Int.ofNat k = Int.ofNat k,k < 8,old b (off + k * 24) (bG q),dG (bG q) = 24],.one (.fl (bG (DU F2 q)))):=by kernel_rfl
theorem YT (old : Nat → Nat → List At → Prop) (b off k : Nat) (g h : Int) (q : J2) : aU prog (qX prog (YM old k h q)) (fun _ => ⟨fun s => gQ true,fun s => true,assoc [(7,.bool false),(16,.bool false)]⟩) f177 80 [.v (.im (tC b off)),.v (.im (.int .i64 g))] = some ([aP .gtr .i64 g 0 = some (.bool false),aP .lss .i64 g 0 = some (.bool false)],.one (.fl (bG (F2.zero,F2.zero,F2.zero)))):=by kernel_rfl
theorem NQ {w0 : World} (b off : Nat) (g : Int) (p : J2) (hp : ∀ k,k < 8 → oldOf w0 b (off + k * 24) (bG (zA p (k + 1)))) (h1 : -8 ≤ g) (h2 : g ≤ 8) : Calls prog 177 #[tC b off,.int .i64 g] w0 (fun e w' => e = .returned (.agg (aA (bG (YL p g))).toArray) ∧ Below w0.heap.size w0 w'):=by
 have hT : ∀ n d : Nat,TabOkW prog (gQ true) w0.heap.size w0:=fun _ _ => (lY true).w _ _
 have ha : bD w0 [.v (.im (tC b off)),.v (.im (.int .i64 g))] [tC b off,.int .i64 g]:=⟨rfl,rfl,trivial⟩
 match g,h1,h2,ha with
 | .ofNat 0,_,_,ha => exact bA aG hT (zD (x:=YM (oldOf w0) 0 0 (F2.zero,F2.zero,F2.zero)) rfl rfl) func177 (YT (oldOf w0) b off 0 _ 0 (F2.zero,F2.zero,F2.zero)) ⟨rfl,rfl,trivial⟩ ha
 | .ofNat (k + 1),_,h2,ha =>
  have hk : k < 8:=by have h2' : ((k + 1 : Nat) : Int) ≤ 8:=h2; omega
  exact bA aG hT (zD (x:=YM (oldOf w0) k 0 (zA p (k + 1))) rfl rfl) func177 (YU (oldOf w0) b off k _ 0 (zA p (k + 1))) ⟨by rw [show (0 : Int) = Int.ofNat 0 from rfl,Io,decide_eq_true (by omega)],KQ (k:=1) (by omega) (by omega),rfl,hk,hp k hk,rfl,trivial⟩ ha
 | .negSucc k,h1,_,ha =>
  have hk : k < 8:=by have h1' : -8 ≤ -((k : Int) + 1):=h1; omega
  refine bA aG hT (zD (x:=YM (oldOf w0) k (Int.ofNat (k + 1)) (zA p (k + 1))) rfl rfl) func177 (YV (oldOf w0) b off k _ (Int.ofNat (k + 1)) (zA p (k + 1))) ⟨?_,?_,?_,KQ (k:=1) (by omega) (by omega),rfl,hk,hp k hk,rfl,trivial⟩ ha
  ·show some (Value.bool (decide (Int.negSucc k > 0))) = _;rw [decide_eq_false (by omega)]
  ·show some (Value.bool (decide (Int.negSucc k < 0))) = _;rw [decide_eq_true (by omega)]
  ·intro W;have e : IntKind.i64.wrap (0 - Int.negSucc k) = Int.ofNat (k + 1):=by rw [IntKind.wrap_i64]; show _ = ((k + 1 : Nat) : Int); omega
   show (Op.intArith .sub .i64 0 (Int.negSucc k)).run prog W = _;simp only [Op.intArith,Sem.run_pure,e]
def Kt (bT i : Nat) (p : J2) : gE
 | [.v (.im (.pointer (some ⟨b',off,.none⟩))),.v (.im (.int .i64 g))] => some ([b' = bT,off = i * 192,-8 ≤ g,g ≤ 8],.one (.fl (bG (YL p g))))
 | _ => none
theorem Ks {w : World} {bT i : Nat} {p : J2} (hp : ∀ k,k < 8 → oldOf w bT (i * 192 + k * 24) (bG (zA p (k + 1)))) : ∀ cs pre r,Kt bT i p cs = some (pre,r) → aL pre → ∀ (args : List Value),bD w cs args → Good prog 177 r args w:=by
 intro cs pre r hg hq args ha;unfold Kt at hg;split at hg
 ·rename_i b' off g;cases hg;obtain ⟨rfl,rfl,h1,h2,_⟩:=hq
  match args,ha with
  | [u,v],ha =>
   have e1 : u = tC b' (i * 192):=ha.1;have e2 : v = .int .i64 g:=ha.2.1;subst e1; subst e2;exact NQ b' _ g p hp h1 h2
  | [],ha => exact ha.elim
  | [_],ha => exact ha.2.elim
  | _ :: _ :: _ :: _,ha => exact ha.2.2.elim
 ·cases hg
def AT (pt : Nat → J2) (x : Nat → Nat) (p : Nat) : Nat → J2
 | 0 => (F2.zero,F2.zero,F2.zero)
 | i + 1 => fJ F2 (AT pt x p i) (YL (pt i) (kZ (x i) p))
def Vy (old : Nat → Nat → List At → Prop) (bT N b o n m i : Nat) : Ext:={ Xj old with idx:=assoc [(15,i)],ld:=assoc [(16,eH b o n m)],gen:=assoc [(7,qK bT 0 N N),(13,qK bT 0 N N)] }
def xB (pl bt bd N i : Nat) (c : J2) : List Fact:=[.slot 0 (.im (iI pl)),.slot 1 (.im (tC bt 0)),.slot 2 (.im (tC bd 0)),.slot 4 (.pt 4 0),.row 4 true (bG (F2.zero,F2.zero,F2.zero)),.slot 5 (.pt 5 0),.row 5 true (bG c),.slot 8 (.im (iI N)),.slot 9 (.im (iI i))]
def aHY (bT b o n m : Nat) (x : Nat → Nat) (i : Nat) (p : J2) : Tab:=((gQ true).add 178 (gAt b o n m x)).add 177 (Kt bT i p)
def fB : Code:=(f175.body).getD .skip
def EN : Code:=Pg (Pg (cB (cA (cB (cB fB)))))
theorem Ml : fB = .seq (cA fB) (.seq (cA (cB fB)) (.seq (.seq (cA (cA (cB (cB fB)))) (.block 0 (.loop EN))) (cB (cB (cB fB))))):=by kernel_rfl
def aCy (pl bt bd : Nat) : List Fact:=[.slot 0 (.im (iI pl)),.slot 1 (.im (tC bt 0)),.slot 2 (.im (tC bd 0)),.slot 4 (.pt 4 0),.row 4 true (bG (F2.zero,F2.zero,F2.zero))]
def aCx (pl bt bd : Nat) : List Fact:=[.slot 0 (.im (iI pl)),.slot 1 (.im (tC bt 0)),.slot 2 (.im (tC bd 0)),.slot 4 (.pt 4 0),.row 4 true (bG (F2.zero,F2.zero,F2.zero)),.slot 5 (.pt 5 0),.row 5 true (bG (F2.zero,F2.zero,F2.zero))]
theorem aCB (pl bt bd : Nat) : bQ prog (qG prog) f175.ntmps (Hp fun _ => none) 40 (cA fB) (lM 0 [.v (.im (iI pl)),.v (.im (tC bt 0)),.v (.im (tC bd 0))]) (aCy pl bt bd) = some ([],.nrm,aCy pl bt bd):=by kernel_rfl
theorem aCA (pl bt bd : Nat) : bQ prog (qG prog) f175.ntmps (Hp fun _ => none) 40 (cA (cB fB)) (aCy pl bt bd) (aCx pl bt bd) = some ([],.nrm,aCx pl bt bd):=by kernel_rfl
theorem aCz (old : Nat → Nat → List At → Prop) (pl bt bd bT N b o n m : Nat) : bQ prog (qX prog (Vy old bT N b o n m 0)) f175.ntmps (Hp fun _ => none) 40 (cA (cA (cB (cB fB)))) (aCx pl bt bd) (xB pl bt bd N 0 (F2.zero,F2.zero,F2.zero)) = some ([old bt 0 [.c (qK bT 0 N N)]],.nrm,xB pl bt bd N 0 (F2.zero,F2.zero,F2.zero)):=by kernel_rfl
theorem aCC (old : Nat → Nat → List At → Prop) (pl bt bd bT N b o n m i : Nat) (x : Nat → Nat) (p c : J2) : bQ prog (qX prog (Vy old bT N b o n m i)) f175.ntmps (fun _ => ⟨fun _ => aHY bT b o n m x i p,fun _ => true,assoc [(10,.bool true),(22,iI (i + 1))]⟩) 40 EN (xB pl bt bd N i c) (xB pl bt bd N (i + 1) (fJ F2 c (YL p (kZ (x i) pl)))) = some ([aP .lss .i64 (Int.ofNat i) (Int.ofNat N) = some (.bool true),old bt 0 [.c (qK bT 0 N N)],Int.ofNat i = Int.ofNat i,i < N,old bd 0 (eH b o n m),dG (eH b o n m) = 2,b = b,o = o,n = n,m = m,i < n,pl < 1152921504606846976,bT = bT,0 + i * 192 = i * 192,-8 ≤ kZ (x i) pl,kZ (x i) pl ≤ 8,aP .add .i64 (Int.ofNat i) 1 = some (iI (i + 1))],.nrm,xB pl bt bd N (i + 1) (fJ F2 c (YL p (kZ (x i) pl)))):=by kernel_rfl
theorem Vz (pl bt bd N i : Nat) (c : J2) : bQ prog (qG prog) f175.ntmps (Hp (assoc [(10,.bool false)])) 40 EN (xB pl bt bd N i c) (xB pl bt bd N i c) = some ([aP .lss .i64 (Int.ofNat i) (Int.ofNat N) = some (.bool false)],.ex 0,xB pl bt bd N i c):=by kernel_rfl
theorem Mj (pl bt bd N i : Nat) (c : J2) : bQ prog (qG prog) f175.ntmps (Hp fun _ => none) 40 (cB (cB (cB fB))) (xB pl bt bd N i c) [.slot 4 (.pt 4 0),.row 4 true (bG c)] = some ([],.rt,[.slot 4 (.pt 4 0),.row 4 true (bG c)]):=by kernel_rfl
structure ClMem2 (w : World) (bt bd bT N b o n m : Nat) (x : Nat → Nat) (pt : Nat → J2) : Prop where
 t : oldOf w bt 0 [.c (qK bT 0 N N)]
 d : oldOf w bd 0 (eH b o n m)
 x : ∀ i,i < n → oldOf w b (o + i * 4) [.q (x i)]
 p : ∀ i,i < N → ∀ k,k < 8 → oldOf w bT (i * 192 + k * 24) (bG (zA (pt i) (k + 1)))
theorem ClMem2.on {w w' : World} (hb : Below w.heap.size w w') {bt bd bT N b o n m : Nat} {x : Nat → Nat} {pt : Nat → J2} (h : ClMem2 w bt bd bT N b o n m x pt) : ClMem2 w' bt bd bT N b o n m x pt :=
 ⟨h.t.on hb (base:=0),h.d.on hb (base:=0),fun i hi => (h.x i hi).on hb (base:=0),fun i hi k hk => (h.p i hi k hk).on hb (base:=0)⟩
theorem Cl {w0 : World} {bt bd bT N b o n m : Nat} {x : Nat → Nat} {pt : Nat → J2} (h : ClMem2 w0 bt bd bT N b o n m x pt) (hN : N ≤ n) (hn : n < 4611686018427387904) {pl : Nat} (hpl : pl < 1152921504606846976) : Calls prog 175 #[iI pl,tC bt 0,tC bd 0] w0 (fun e w' => e = .returned (.agg (aA (bG (AT pt x pl N))).toArray) ∧ Below w0.heap.size w0 w'):=by
 have hG : bU prog (qG prog) w0.heap.size w0:=(aK _).w _ _;have hT : ∀ n d : Nat,TabOkW prog (gQ true) w0.heap.size w0:=fun _ _ => (lY true).w _ _
 refine fK func175 (c:=fB) rfl (args:=[iI pl,tC bt 0,tC bd 0]) (cs:=[.v (.im (iI pl)),.v (.im (tC bt 0)),.v (.im (tC bd 0))]) ⟨rfl,rfl,rfl,trivial⟩ (Nat.le_of_ble_eq_true (by kernel_rfl)) fun a w' hA => ?_
 rw [Ml];refine wp_seq (aE aG hT hG (aCB pl bt bd) trivial hA fun a w' hA => ?_);refine wp_seq (aE aG hT hG (aCA pl bt bd) trivial hA fun a w' hA => ?_);refine wp_seq (wp_seq (aE aG hT (zD (x:=Vy (oldOf w0) bT N b o n m 0) rfl rfl) (aCz (oldOf w0) pl bt bd bT N b o n m) ⟨h.t,trivial⟩ hA fun a w' hA => ?_));refine wp_block ?_;refine rL aG (fun i => xB pl bt bd N i (AT pt x pl i)) N (fun i hi => ?_) (.ex 0) (by simp) (xB pl bt bd N N (AT pt x pl N)) ?_ hA fun a w' hA => ?_
 ·refine ⟨_,_,_,_,zD (x:=Vy (oldOf w0) bT N b o n m i) rfl rfl,fun _ _ => ?_,aCC (oldOf w0) pl bt bd bT N b o n m i x (pt i) (AT pt x pl i),kW hi,h.t,rfl,hi,h.d,rfl,rfl,rfl,rfl,rfl,by omega,hpl,rfl,by omega,(XA _ _).1,(XA _ _).2,AD (k:=1) (by omega),trivial⟩;refine TabOkW.add (TabOkW.add ((lY true).w _ _) func178 (by kernel_rfl) (by kernel_rfl) fun w hw => ?_) func177 (by kernel_rfl) (by kernel_rfl) fun w hw => ?_
  ·exact aCa fun j hj => (h.x j hj).on hw (base:=0)
  ·exact Ks fun k hk => (h.p i hi k hk).on hw (base:=0)
 ·exact ⟨_,_,_,_,hG,hT,Vz pl bt bd N N _,pD (Nat.le_refl _),trivial⟩
 ·show (cB (cB (cB fB))).wp _ _ _ _;exact aE aG hT hG (Mj pl bt bd N N _) trivial hA fun a w' hA => eV (l:=[.fl (bG (AT pt x pl N))]) (r:=.one (.fl (bG (AT pt x pl N)))) (by kernel_rfl) (by kernel_rfl) hA
def Bg (D : Nat → J2) (PL : Nat) : Nat → J2
 | 0 => (F2.zero,F2.zero,F2.zero)
 | i + 1 => fJ F2 (eN F2 (eN F2 (eN F2 (eN F2 (Bg D PL i))))) (D (PL - 1 - i))
def xA (bt bd : Nat) : Value:=.func (.func 175) #[] #[tC bt 0,tC bd 0]
def vT (bt bd b o n m PL i : Nat) (c : J2) : List Fact:=[.slot 1 (.im (xA bt bd)),.slot 2 (.pt 2 0),.row 2 true (eH b o n m),.slot 4 (.pt 4 0),.row 4 true (bG (F2.zero,F2.zero,F2.zero)),.slot 5 (.pt 5 0),.row 5 true (bG c),.slot 6 (.im (iI PL)),.slot 10 (.im (iI PL)),.slot 11 (.im (iI i))]
def aFB (bt bd : Nat) (D : Nat → J2) : gE
 | [.v (.im (.int .i64 (.ofNat p))),.v (.im (.pointer (some ⟨b1,0,.none⟩))),.v (.im (.pointer (some ⟨b2,0,.none⟩)))] => some ([b1 = bt,b2 = bd,p < 1152921504606846976],.one (.fl (bG (D p))))
 | _ => none
def aHr (bt bd b o n m PL : Nat) (D : Nat → J2) : Tab:=((gQ true).add 187 (gPl b o n m PL)).add 175 (aFB bt bd D)
def dS : Code:=(f174.body).getD .skip
def CV : Code:=Pg (Pg (cB (cA (cB (cB (cB dS))))))
theorem Hw : dS = .seq (cA dS) (.seq (cA (cB dS)) (.seq (cA (cB (cB dS))) (.seq (.seq (cA (cA (cB (cB (cB dS))))) (.block 0 (.loop CV))) (cB (cB (cB (cB dS))))))):=by kernel_rfl
def KC (bt bd b o n m PL : Nat) (D : Nat → J2) (num : Nat → Option Value) (_ : Nat) : Cfg:=⟨fun _ => aHr bt bd b o n m PL D,fun _ => true,num⟩
def aAQ (bt bd b o n m : Nat) : List Fact:=[.slot 1 (.im (xA bt bd)),.slot 2 (.pt 2 0),.row 2 true (eH b o n m),.slot 4 (.pt 4 0),.row 4 true (bG (F2.zero,F2.zero,F2.zero))]
def aAP (bt bd b o n m : Nat) : List Fact:=[.slot 1 (.im (xA bt bd)),.slot 2 (.pt 2 0),.row 2 true (eH b o n m),.slot 4 (.pt 4 0),.row 4 true (bG (F2.zero,F2.zero,F2.zero)),.slot 5 (.pt 5 0),.row 5 true (bG (F2.zero,F2.zero,F2.zero))]
def Ht (bt bd b o n m PL : Nat) : List Fact:=[.slot 1 (.im (xA bt bd)),.slot 2 (.pt 2 0),.row 2 true (eH b o n m),.slot 4 (.pt 4 0),.row 4 true (bG (F2.zero,F2.zero,F2.zero)),.slot 5 (.pt 5 0),.row 5 true (bG (F2.zero,F2.zero,F2.zero)),.slot 6 (.im (iI PL))]
theorem aAU (bt bd b o n m PL : Nat) (D : Nat → J2) : bQ prog (qG prog) f174.ntmps (KC bt bd b o n m PL D fun _ => none) 40 (cA dS) (lM 0 [.v (.fl (eH b o n m)),.v (.im (xA bt bd))]) (aAQ bt bd b o n m) = some ([],.nrm,aAQ bt bd b o n m):=by kernel_rfl
theorem aAT (bt bd b o n m PL : Nat) (D : Nat → J2) : bQ prog (qG prog) f174.ntmps (KC bt bd b o n m PL D fun _ => none) 40 (cA (cB dS)) (aAQ bt bd b o n m) (aAP bt bd b o n m) = some ([],.nrm,aAP bt bd b o n m):=by kernel_rfl
theorem aAS (bt bd b o n m PL : Nat) (D : Nat → J2) : bQ prog (qG prog) f174.ntmps (KC bt bd b o n m PL D fun _ => none) 40 (cA (cB (cB dS))) (aAP bt bd b o n m) (Ht bt bd b o n m PL) = some ([b = b,o = o,n = n,m = m],.nrm,Ht bt bd b o n m PL):=by kernel_rfl
theorem aAR (bt bd b o n m PL : Nat) (D : Nat → J2) : bQ prog (qG prog) f174.ntmps (KC bt bd b o n m PL D fun _ => none) 40 (cA (cA (cB (cB (cB dS))))) (Ht bt bd b o n m PL) (vT bt bd b o n m PL 0 (F2.zero,F2.zero,F2.zero)) = some ([],.nrm,vT bt bd b o n m PL 0 (F2.zero,F2.zero,F2.zero)):=by kernel_rfl
theorem aAV (bt bd b o n m PL i : Nat) (D : Nat → J2) (c : J2) : bQ prog (qG prog) f174.ntmps (KC bt bd b o n m PL D (assoc [(12,.bool true),(24,iI (PL - 1)),(26,iI (PL - 1 - i)),(29,iI (i + 1))])) 60 CV (vT bt bd b o n m PL i c) (vT bt bd b o n m PL (i + 1) (fJ F2 (eN F2 (eN F2 (eN F2 (eN F2 c)))) (D (PL - 1 - i)))) = some ([aP .lss .i64 (Int.ofNat i) (Int.ofNat PL) = some (.bool true),aP .sub .i64 (Int.ofNat PL) 1 = some (iI (PL - 1)),aP .sub .i64 (Int.ofNat (PL - 1)) (Int.ofNat i) = some (iI (PL - 1 - i)),bt = bt,bd = bd,PL - 1 - i < 1152921504606846976,aP .add .i64 (Int.ofNat i) 1 = some (iI (i + 1))],.nrm,vT bt bd b o n m PL (i + 1) (fJ F2 (eN F2 (eN F2 (eN F2 (eN F2 c)))) (D (PL - 1 - i)))):=by kernel_rfl
theorem Sx (bt bd b o n m PL i : Nat) (D : Nat → J2) (c : J2) : bQ prog (qG prog) f174.ntmps (KC bt bd b o n m PL D (assoc [(12,.bool false)])) 40 CV (vT bt bd b o n m PL i c) (vT bt bd b o n m PL i c) = some ([aP .lss .i64 (Int.ofNat i) (Int.ofNat PL) = some (.bool false)],.ex 0,vT bt bd b o n m PL i c):=by kernel_rfl
theorem Hu (bt bd b o n m PL i : Nat) (D : Nat → J2) (c : J2) : bQ prog (qG prog) f174.ntmps (KC bt bd b o n m PL D fun _ => none) 40 (cB (cB (cB (cB dS)))) (vT bt bd b o n m PL i c) [.slot 4 (.pt 4 0),.row 4 true (bG c)] = some ([],.rt,[.slot 4 (.pt 4 0),.row 4 true (bG c)]):=by kernel_rfl
theorem Bf {w0 : World} {bt bd bT N b o n m : Nat} {x : Nat → Nat} {pt : Nat → J2} (h : ClMem2 w0 bt bd bT N b o n m x pt) (hN : N ≤ n) (hn : n < 4611686018427387904) : Calls prog 174 #[.agg (aA (eH b o n m)).toArray,xA bt bd] w0 (fun e w' => e = .returned (.agg (aA (bG (Bg (fun p => AT pt x p N) (nE x n / 4 + 1) (nE x n / 4 + 1)))).toArray) ∧ Below w0.heap.size w0 w'):=by
 have hG : bU prog (qG prog) w0.heap.size w0:=(aK _).w _ _;have hL:=QV x n;generalize hPL : nE x n / 4 + 1 = PL;have hPL' : PL < 1000:=by omega
 have hT : ∀ num,∀ n' d : Nat,TabOkW prog ((KC bt bd b o n m PL (fun p => AT pt x p N) num n').T d) w0.heap.size w0:=fun num _ _ => by
  refine TabOkW.add (TabOkW.add ((lY true).w _ _) func187 (by kernel_rfl) (by kernel_rfl) fun w hw cs pre r hg hq args ha => ?_) func175 (by kernel_rfl) (by kernel_rfl) fun w hw cs pre r hg hq args ha => ?_
  ·unfold gPl at hg;split at hg
   ·cases hg;obtain ⟨rfl,rfl,rfl,rfl,_⟩:=hq;rw [sV ha,← hPL];exact CT _ _ _ _ x (fun j hj => (h.x j hj).on hw (base:=0)) hn
   ·cases hg
  ·unfold aFB at hg;split at hg
   ·rename_i p b1 b2;cases hg;obtain ⟨rfl,rfl,hp,_⟩:=hq
    match args,ha with
    | [u,v,t],ha =>
     have e1 : u = iI p:=ha.1;have e2 : v = tC b1 0:=ha.2.1;have e3 : t = tC b2 0:=ha.2.2.1;subst e1; subst e2; subst e3;exact Cl (h.on hw) hN hn hp
    | [],ha => exact ha.elim
    | [_],ha => exact ha.2.elim
    | [_,_],ha => exact ha.2.2.elim
    | _ :: _ :: _ :: _ :: _,ha => exact ha.2.2.2.elim
   ·cases hg
 refine fK func174 (c:=dS) rfl (args:=[.agg (aA (eH b o n m)).toArray,xA bt bd]) (cs:=[.v (.fl (eH b o n m)),.v (.im (xA bt bd))]) ⟨rfl,rfl,trivial⟩ (Nat.le_of_ble_eq_true (by kernel_rfl)) fun a w' hA => ?_
 rw [Hw];refine wp_seq (aE aG (hT _) hG (aAU bt bd b o n m PL _) trivial hA fun a w' hA => ?_);refine wp_seq (aE aG (hT _) hG (aAT bt bd b o n m PL _) trivial hA fun a w' hA => ?_);refine wp_seq (aE aG (hT _) hG (aAS bt bd b o n m PL _) ⟨rfl,rfl,rfl,rfl,trivial⟩ hA fun a w' hA => ?_);refine wp_seq (wp_seq (aE aG (hT _) hG (aAR bt bd b o n m PL _) trivial hA fun a w' hA => ?_));refine wp_block ?_;refine rL aG (fun i => vT bt bd b o n m PL i (Bg (fun p => AT pt x p N) PL i)) PL (fun i hi => ?_) (.ex 0) (by simp) (vT bt bd b o n m PL PL (Bg (fun p => AT pt x p N) PL PL)) ?_ hA fun a w' hA => ?_
 ·exact ⟨_,_,_,_,hG,hT _,aAV bt bd b o n m PL i _ (Bg (fun p => AT pt x p N) PL i),kW hi,KQ (k:=1) (by omega) (by omega),KQ (by omega) (by omega),rfl,rfl,by omega,AD (k:=1) (by omega),trivial⟩
 ·exact ⟨_,_,_,_,hG,hT _,Sx bt bd b o n m PL PL _ _,pD (Nat.le_refl _),trivial⟩
 ·show (cB (cB (cB (cB dS)))).wp _ _ _ _;exact aE aG (hT _) hG (Hu bt bd b o n m PL PL _ _) trivial hA fun a w' hA => eV (l:=[.fl (bG (Bg (fun p => AT pt x p N) PL PL))]) (r:=.one (.fl (bG (Bg (fun p => AT pt x p N) PL PL)))) (by kernel_rfl) (by kernel_rfl) hA
theorem FX {P : Program} {id : Nat} {ops : Array Oper} {l : List Nat} (hl : List.range ops.size = l) {Q : Exit → Act → World → Prop} {a : Act} {w : World} (h : wpOps P ops Q l a w) : (Code.region id ops false).wp P Q a w:=wp_region (by rw [hl]; exact h)
def sZ : J2:=(F2.zero,F2.zero,F2.zero)
def nT (p : J2) : List At:=bG (zA p 1) ++ (bG (zA p 2) ++ (bG (zA p 3) ++ (bG (zA p 4) ++ (bG (zA p 5) ++ (bG (zA p 6) ++ (bG (zA p 7) ++ (bG (zA p 8))))))))
def Xh : List At:=bG sZ ++ (bG sZ ++ (bG sZ ++ (bG sZ ++ (bG sZ ++ (bG sZ ++ (bG sZ ++ (bG sZ)))))))
theorem TT (p : J2) : dG (nT p) = 192:=by kernel_rfl
theorem Da : dG Xh = 192:=by kernel_rfl
def nJ (p : J2) (k : Nat) : List At:=bG (zA p (k + 1))
theorem Ea (p : J2) : nT p = dN (nJ p) 0 8:=by
 show nT p = nJ p 0 ++ (nJ p 1 ++ (nJ p 2 ++ (nJ p 3 ++ (nJ p 4 ++ (nJ p 5 ++ (nJ p 6 ++ (nJ p 7 ++ [])))))));rw [List.append_nil];rfl
theorem Eu (p : J2) : aU prog (qG prog) (fun _ => ⟨fun s => gQ true,fun s => true,fun _ => none⟩) f173 200 [.v (.fl (bG p))] = some ([],.one (.fl (nT p))):=by kernel_rfl
def iX : Tab:=(gQ true).add 173 (g1 Ar fun p => ([],.one (.fl (nT p))))
theorem iA : TabOk prog iX:=(lY true).ad func173 (cM iM fun p hp args w ha => aD aG (fun _ s => lY _) (aK prog) func173 (Eu p) trivial ha)
def cN : Code:=(f160.body).getD .skip
def ES : Code:=Pg (Pg (cB (cA (cB (cB cN)))))
theorem Na : cN = .seq (cA cN) (.seq (.region 1 (lX (cA (cB cN))) false) (.seq (.seq (cA (cA (cB (cB cN)))) (.block 0 (.loop ES))) (.seq (cA (cB (cB (cB cN)))) (.seq (.region 8 (lX (cA (cB (cB (cB (cB cN)))))) false) .ret)))):=by kernel_rfl
def aCM (LP : List At) (N N' : Nat) (vn : Value) : List Fact:=[.slot 0 (.sl 0 0 N N'),.row 0 false LP,.slot 1 (.im vn),.slot 4 (.pt 4 0),.row 4 true (bG sZ)]
def Mz (LP Z : List At) (N N' : Nat) (vn : Value) : List Fact:=[.slot 0 (.sl 0 0 N N'),.row 0 false LP,.slot 1 (.im vn),.slot 4 (.pt 4 0),.row 4 true (bG sZ),.slot 11 (.sl 11 0 N N),.row 11 true Z,.slot 5 (.pt 5 0),.row 5 true [.c (.slice none 0 0)]]
def aCL (LP Z : List At) (N N' b : Nat) (vn : Value) : List Fact:=[.at 11 b,.slot 0 (.sl 0 0 N N'),.row 0 false LP,.slot 1 (.im vn),.slot 4 (.pt 4 0),.row 4 true (bG sZ),.row 11 true Z,.slot 5 (.pt 5 0),.row 5 true [.c (qK b 0 N N)]]
def xI (LP Z : List At) (N N' b : Nat) (vn : Value) (i : Nat) : List Fact:=[.at 11 b,.slot 0 (.sl 0 0 N N'),.row 0 false LP,.slot 1 (.im vn),.slot 4 (.pt 4 0),.row 4 true (bG sZ),.row 11 true Z,.slot 5 (.pt 5 0),.row 5 true [.c (qK b 0 N N)],.slot 12 (.sl 0 0 N N'),.slot 13 (.im (iI N)),.slot 14 (.im (iI i))]
def My (Z : List At) (N b bn on n m : Nat) : List Fact:=[.at 11 b,.slot 4 (.pt 4 0),.row 4 true (bG sZ),.row 11 true Z,.slot 5 (.pt 5 0),.row 5 true [.c (qK b 0 N N)],.slot 8 (.pt 8 0),.row 8 true (eH bn on n m)]
def tK (Z : List At) (N b b5 b8 bn on n m : Nat) : List Fact:=[.at 5 b5,.at 8 b8,.at 11 b,.slot 4 (.pt 4 0),.row 4 true (bG sZ),.row 11 true Z,.row 5 true [.c (qK b 0 N N)],.row 8 true (eH bn on n m),.slot 27 (.fl (eH bn on n m)),.slot 28 (.im (xA b5 b8))]
def Mx (num : Nat → Option Value) (_ : Nat) : Cfg:=⟨fun _ => iX,fun _ => true,num⟩
def sT : Cfg:=⟨fun _ => iX,fun _ => true,fun _ => none⟩
theorem aCT (LP : List At) (N N' : Nat) (vn : Value) : bQ prog (qG prog) f160.ntmps (Mx fun _ => none) 40 (cA cN) (lM 0 [.s LP N N',.v (.im vn)]) (aCM LP N N' vn) = some ([],.nrm,aCM LP N N' vn):=by kernel_rfl
def Zb (N : Nat) (Z : List At) : Ext:={ Xj (fun _ _ _ => False) with mks:=assoc [(11,(N,Z))] }
theorem aCS (LP Z : List At) (N N' : Nat) (vn : Value) : PW prog (qX prog (Zb N Z)) f160.ntmps sT ((lX (cA (cB cN))).extract 0 4) (aCM LP N N' vn) (Mz LP Z N N' vn) = some ([∃ e,∀ w : World,(Instr.makeSlice 205 (iI N) (iI N)).run prog w = .ok (.slice (some ⟨w.heap.size,0,none⟩) N N) (w.alloc (.cells (aA Z).toArray e))],Mz LP Z N N' vn):=by kernel_rfl
theorem aCR (LP Z : List At) (N N' b : Nat) (vn : Value) : PW prog (qG prog) f160.ntmps sT ((lX (cA (cB cN))).extract 4 5) (.slot 11 (.im (qK b 0 N N)) :: .at 11 b :: Mz LP Z N N' vn) (aCL LP Z N N' b vn) = some ([],aCL LP Z N N' b vn):=by kernel_rfl
theorem aCQ (LP Z : List At) (N N' b : Nat) (vn : Value) : bQ prog (qG prog) f160.ntmps (Mx fun _ => none) 40 (cA (cA (cB (cB cN)))) (aCL LP Z N N' b vn) (xI LP Z N N' b vn 0) = some ([],.nrm,xI LP Z N N' b vn 0):=by kernel_rfl
def aFY (N b i : Nat) (p : J2) (Z' : List At) : Ext:={ Xj (fun _ _ _ => False) with idx:=assoc [(17,i),(23,i)],ld:=assoc [(18,bG p)],st:=assoc [(23,Z')],gen:=assoc [(19,qK b 0 N N)],ky:=assoc [(19,11)] }
theorem aCU (LP Z Z' : List At) (N N' b : Nat) (vn : Value) (i : Nat) (p : J2) : bQ prog (qX prog (aFY N b i p Z')) f160.ntmps (Mx (assoc [(15,.bool true),(24,iI (i + 1))])) 40 ES (xI LP Z N N' b vn i) (xI LP Z' N N' b vn (i + 1)) = some ([aP .lss .i64 (Int.ofNat i) (Int.ofNat N) = some (.bool true),Int.ofNat i = Int.ofNat i,i < N,NE LP (0 + i * 24) 24 = some (bG p),cellAt [.c (qK b 0 N N)] 0 = some (qK b 0 N N),b = b,Int.ofNat i = Int.ofNat i,i < N,put Z (0 + i * 192) (nT p) = some Z',aP .add .i64 (Int.ofNat i) 1 = some (iI (i + 1))],.nrm,xI LP Z' N N' b vn (i + 1)):=by kernel_rfl
theorem Wd (LP Z : List At) (N N' b : Nat) (vn : Value) (i : Nat) : bQ prog (qG prog) f160.ntmps (Mx (assoc [(15,.bool false)])) 40 ES (xI LP Z N N' b vn i) (xI LP Z N N' b vn i) = some ([aP .lss .i64 (Int.ofNat i) (Int.ofNat N) = some (.bool false)],.ex 0,xI LP Z N N' b vn i):=by kernel_rfl
theorem aCP (LP Z : List At) (N N' b bn on n m i : Nat) : bQ prog (qG prog) f160.ntmps (Mx fun _ => none) 40 (cA (cB (cB (cB cN)))) (xI LP Z N N' b (qK bn on n m) i) (My Z N b bn on n m) = some ([],.nrm,My Z N b bn on n m):=by kernel_rfl
theorem aCO (Z : List At) (N b b5 b8 bn on n m : Nat) : PW prog (qG prog) f160.ntmps sT ((lX (cA (cB (cB (cB (cB cN)))))).extract 0 2) (.at 8 b8 :: .at 5 b5 :: My Z N b bn on n m) (tK Z N b b5 b8 bn on n m) = some ([],tK Z N b b5 b8 bn on n m):=by kernel_rfl
theorem aCN (Z : List At) (N b b5 b8 bn on n m : Nat) (r : J2) : PW prog (qG prog) f160.ntmps sT ((lX (cA (cB (cB (cB (cB cN)))))).extract 3 4) (.slot 29 (.fl (bG r)) :: tK Z N b b5 b8 bn on n m) [.slot 4 (.pt 4 0),.row 4 true (bG r)] = some ([],[.slot 4 (.pt 4 0),.row 4 true (bG r)]):=by kernel_rfl
theorem Db : sD (aA Xh) (.int .u64 0):=by unfold sD; kernel_rfl
theorem Wc {w : World} {b N i k : Nat} {pt : Nat → J2} (h : oldOf w b 0 (dN (fun j => nT (pt j)) 0 N)) (hi : i < N) (hk : k < 8) : oldOf w b (i * 192 + k * 24) (bG (zA (pt i) (k + 1))):=by
 refine ⟨h.1,?_⟩;have h1 : w.rangeAt b (0 + i * 192) (aA (nT (pt i))):=qV (f:=fun j => nT (pt j)) (c:=192) (fun j => TT (pt j)) hi h.2;rw [Ea,Nat.zero_add] at h1;exact qV (f:=nJ (pt i)) (c:=24) (fun j => rfl) hk h1
theorem Cn {w0 : World} {gb go N N' bn on n m : Nat} {x : Nat → Nat} {pt : Nat → J2} {LP : List At} (hLP : aA LP = aA (dN (fun j => bG (pt j)) 0 N)) (hP : oldOf w0 gb go LP) (hx : ∀ i,i < n → oldOf w0 bn (on + i * 4) [.q (x i)]) (hN : N ≤ n) (hN2 : N ≤ 65536) (hn : n < 4611686018427387904) : Calls prog 160 #[qK gb go N N',qK bn on n m] w0 (fun e w' => e = .returned (.agg (aA (bG (Bg (fun p => AT pt x p N) (nE x n / 4 + 1) (nE x n / 4 + 1)))).toArray) ∧ Below w0.heap.size w0 w'):=by
 have hG : bU prog (qG prog) w0.heap.size w0:=(aK _).w _ _;have hT : ∀ n d : Nat,TabOkW prog iX w0.heap.size w0:=fun _ _ => iA.w _ _
 have hXF : ∀ x : Ext,x.T2 = Fr0 → (∀ b o l,¬ x.old b o l) → bU prog (qX prog x) w0.heap.size w0:=fun x h2 h3 => vM (h2 ▸ mQ _) fun b o l h => (h3 b o l h).elim
 have hP' : oldOf w0 gb go (dN (fun j => bG (pt j)) 0 N):=⟨hP.1,by rw [← hLP]; exact hP.2⟩;clear hP hLP;refine fK func160 (c:=cN) rfl (args:=[qK gb go N N',qK bn on n m]) (cs:=[.s (dN (fun j => bG (pt j)) 0 N) N N',.v (.im (qK bn on n m))]) ⟨⟨gb,go,rfl,hP'.1,hP'.2⟩,rfl,trivial⟩ (Nat.le_of_ble_eq_true (by kernel_rfl)) fun a w' hA => ?_
 rw [Na];refine wp_seq (aE aG hT hG (aCT _ N N' _) trivial hA fun a w' hA => ?_);refine wp_seq (FX (l:=List.range' 0 ((lX (cA (cB cN))).extract 0 4).size ++ (List.range' 4 ((lX (cA (cB cN))).extract 4 5).size ++ [])) (by kernel_rfl) ?_);refine jG (c:=sT) (hT 0) (hXF (Zb N (dN (fun _ => Xh) 0 N)) rfl fun _ _ _ h => h) (aCS _ _ N N' _) ⟨?_,trivial⟩ (by kernel_rfl) hA fun a w' hA => ?_
 ·exact KY (t:=205) (e:=207) (z:=Xh) (v:=.int .u64 0) (n:=192) (by8:=1536) (by kernel_rfl) (by kernel_rfl) Da Db (by omega) (by omega) (by omega)
 obtain ⟨b,hA⟩:=hA.at (k:=11) (l:=dN (fun _ => Xh) 0 N) (by simp [Mz]);have hA:=hA.im (s:=11) (k:=11) (o:=0) (n:=N) (m:=N) (b:=b) (by simp [Mz]) (by simp);refine jG (c:=sT) (hT 0) hG (aCR _ _ N N' b _) trivial (by kernel_rfl) hA fun a w' hA => ?_
 refine wp_seq (wp_seq (aE aG hT hG (aCQ _ _ N N' b _) trivial hA fun a w' hA => ?_));refine wp_block ?_;refine rL aG (fun i => xI (dN (fun j => bG (pt j)) 0 N) (oB (fun j => nT (pt j)) Xh N i) N N' b (qK bn on n m) i) N (fun i hi => ?_) (.ex 0) (by simp) (xI (dN (fun j => bG (pt j)) 0 N) (dN (fun j => nT (pt j)) 0 N) N N' b (qK bn on n m) N) ?_ (by rw [Ka]; exact hA) fun a w' hA => ?_
 ·exact ⟨_,_,_,_,hXF (aFY N b i (pt i) _) rfl (fun _ _ _ h => h),hT,aCU _ _ (oB (fun j => nT (pt j)) Xh N (i + 1)) N N' b _ i (pt i),kW hi,rfl,hi,tM (f:=fun j => bG (pt j)) (c:=24) (fun j => rfl) hi (Nat.zero_add _),rfl,rfl,rfl,hi,JJ (f:=fun j => nT (pt j)) (c:=192) (fun j => TT (pt j)) Da hi (Nat.zero_add _),AD (k:=1) (by omega),trivial⟩
 ·rw [← Jz (fun j => nT (pt j)) Xh N];exact ⟨_,_,_,_,hG,hT,Wd _ _ N N' b _ N,pD (Nat.le_refl _),trivial⟩
 refine wp_seq (aE aG hT hG (aCP _ _ N N' b bn on n m N) trivial hA fun a w' hA => ?_);obtain ⟨b5,hA⟩:=hA.at (k:=5) (l:=[.c (qK b 0 N N)]) (by simp [My]);obtain ⟨b8,hA⟩:=hA.at (k:=8) (l:=eH bn on n m) (by simp [My]);refine wp_seq (FX (l:=List.range' 0 ((lX (cA (cB (cB (cB (cB cN)))))).extract 0 2).size ++ (2 :: (List.range' 3 ((lX (cA (cB (cB (cB (cB cN)))))).extract 3 4).size ++ []))) (by kernel_rfl) ?_);refine jG (c:=sT) (hT 0) hG (aCO _ N b b5 b8 bn on n m) trivial (by kernel_rfl) hA fun a w' hA => ?_
 have hM : ClMem2 w' b5 b8 b N bn on n m x pt:=by
  refine ⟨hA.old (k:=5) (by simp [tK]) (by simp [tK]),hA.old (k:=8) (by simp [tK]) (by simp [tK]),fun i hi => (hx i hi).on hA.below (base:=0),fun i hi k hk => ?_⟩;exact Wc (hA.old (k:=11) (by simp [tK]) (by simp [tK])) hi hk
 have h27:=hA.slotF (s:=27) (l:=eH bn on n m) (by simp [tK]);have h28:=hA.slot (s:=28) (v:=xA b5 b8) (by simp [tK]);obtain ⟨o,ho,hoo,hod,hog⟩ : ∃ o,(lX (cA (cB (cB (cB (cB cN))))))[2]? = some o ∧ (∃ ts,o.op = .call ⟨.value (.func 174),#[.tmp 27,.tmp 28],ts⟩) ∧ o.dst = some 29 ∧ o.guard = none:=⟨_,rfl,⟨_,rfl⟩,rfl,rfl⟩
 obtain ⟨ts,hoo⟩:=hoo;refine YC ho hog (NK hoo (vs:=[.agg (aA (eH bn on n m)).toArray,xA b5 b8]) (by simp [Act.eval,h27,h28]) (kM func174 (by kernel_rfl) (by kernel_rfl) · _) (Bf hM hN hn) fun w'' hb => ?_);rw [hod];have hA:=hA.put hb (d:=29) (Nat.le_of_ble_eq_true (by kernel_rfl)) (.fl (bG (Bg (fun p => AT pt x p N) (nE x n / 4 + 1) (nE x n / 4 + 1)))) (by
  have : (tK (dN (fun j => nT (pt j)) 0 N) N b b5 b8 bn on n m).all (fun φ => !(pT (some 29) none φ)) = true:=by kernel_rfl
  intro φ hφ;rw [List.all_eq_true] at this;simpa using this φ hφ)
 refine jG (c:=sT) (hT 0) hG (aCN _ N b b5 b8 bn on n m _) trivial (by kernel_rfl) hA fun a w' hA => ?_
 exact wp_ret (eV (l:=[.fl (bG (Bg (fun p => AT pt x p N) (nE x n / 4 + 1) (nE x n / 4 + 1)))]) (r:=.one (.fl (bG (Bg (fun p => AT pt x p N) (nE x n / 4 + 1) (nE x n / 4 + 1))))) (by kernel_rfl) (by kernel_rfl) hA)
end Go.Proofs.YtfnkbmlmgnadmaaGreat.Ex
