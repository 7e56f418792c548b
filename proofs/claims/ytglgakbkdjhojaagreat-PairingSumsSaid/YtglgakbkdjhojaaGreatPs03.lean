/- Ps03 -/
import Derived.KernelRfl
import Derived.Laws.Externs
import Derived.Test.YtglgakbkdjhojaaGreatPs02
import Derived.Test.YtglgakbkdjhojaaGreatProg
set_option maxRecDepth 100000
set_option linter.unusedVariables false
set_option linter.unusedSimpArgs false
noncomputable section
namespace Go.Proofs.YtglgakbkdjhojaaGreat.Ex
open Go.Proofs.Tryz
structure FD {R : Type} (K : CR R) (inv : R → R) : Prop where
 ne : K.one ≠ K.zero
 inv : ∀ x,x ≠ K.zero → K.mul x (inv x) = K.one
section
variable {R : Type} {K : CR R} {inv : R → R}
theorem FD.zd (h : FD K inv) {a b : R} (e : K.mul a b = K.zero) (ha : a ≠ K.zero) : b = K.zero:=by
 have:=congrArg (K.mul (inv a)) e
 rwa [← K.mul_assoc,K.mul_comm (inv a),h.inv a ha,K.one_mul,K.mul_zero] at this
theorem FD.mul_ne (h : FD K inv) {a b : R} (ha : a ≠ K.zero) (hb : b ≠ K.zero) : K.mul a b ≠ K.zero:=fun e => hb (h.zd e ha)
theorem FD.cancel (h : FD K inv) {a b c : R} (ha : a ≠ K.zero) (e : K.mul a b = K.mul a c) : b = c:=by
 have:=congrArg (K.mul (inv a)) e
 rwa [← K.mul_assoc,← K.mul_assoc,K.mul_comm (inv a),h.inv a ha,K.one_mul,K.one_mul] at this
theorem mE {a b : R} (h : K.add a (K.neg b) = K.zero) : a = b:=by
 have h2 : K.add (K.add a (K.neg b)) b = K.add K.zero b:=congrArg (fun x => K.add x b) h
 rwa [K.add_assoc,K.neg_add,K.add_zero,K.zero_add] at h2
theorem fO {a b : R} (h : a = b) : K.add a (K.neg b) = K.zero:=by rw [h,K.add_neg]
theorem gQ {A B L1 R1 c1 : R} (h1 : L1 = R1) (e : K.add A (K.neg B) = K.mul c1 (K.add L1 (K.neg R1))) : A = B:=by
 apply mE (K:=K);rw [e,fO h1,K.mul_zero]
theorem jP {A B L1 R1 c1 L2 R2 c2 : R} (h1 : L1 = R1) (h2 : L2 = R2) (e : K.add A (K.neg B) = K.add (K.mul c1 (K.add L1 (K.neg R1))) (K.mul c2 (K.add L2 (K.neg R2)))) : A = B:=by
 apply mE (K:=K);rw [e,fO h1,fO h2,K.mul_zero,K.mul_zero,K.add_zero]
theorem Ac {A B L1 R1 c1 L2 R2 c2 L3 R3 c3 : R} (h1 : L1 = R1) (h2 : L2 = R2) (h3 : L3 = R3) (e : K.add A (K.neg B) = K.add (K.add (K.mul c1 (K.add L1 (K.neg R1))) (K.mul c2 (K.add L2 (K.neg R2)))) (K.mul c3 (K.add L3 (K.neg R3)))) : A = B:=by
 apply mE (K:=K);rw [e,fO h1,fO h2,fO h3,K.mul_zero,K.mul_zero,K.mul_zero,K.add_zero,K.add_zero]
end
section
variable {R : Type} (K : CR R)
def tl (f : Nat → R) : Nat → R:=fun n => f (n + 1)
def sM : Nat → (Nat → R) → (Nat → R) → R
 | 0,f,g => K.mul (f 0) (g 0)
 | n + 1,f,g => K.add (K.mul (f 0) (g (n + 1))) (sM n (tl f) g)
def RD (f g : Nat → R) : Nat → R:=fun n => K.add (f n) (g n)
def fsc (c : R) (f : Nat → R) : Nat → R:=fun n => K.mul c (f n)
def CH (f g : Nat → R) : Nat → R:=fun n => sM K n f g
def aYC (f : Nat → R) : Nat → R:=fun n => K.neg (f n)
def fze : Nat → R:=fun _ => K.zero
def fco (c : R) : Nat → R | 0 => c | _ + 1 => K.zero
theorem NA : ∀ (n : Nat) (f g h : Nat → R),sM K n f (RD K g h) = K.add (sM K n f g) (sM K n f h)
 | 0,f,g,h => K.mul_add _ _ _
 | n + 1,f,g,h => by
  show K.add (K.mul (f 0) (K.add _ _)) (sM K n (tl f) (RD K g h)) = K.add (K.add _ _) (K.add _ _);rw [NA n,K.mul_add,K.add_assoc,K.add_assoc,K.add_left_comm (K.mul (f 0) (h (n + 1)))]
theorem NB : ∀ (n : Nat) (f g h : Nat → R),sM K n (RD K f g) h = K.add (sM K n f h) (sM K n g h)
 | 0,f,g,h => K.add_mul _ _ _
 | n + 1,f,g,h => by
  show K.add (K.mul (K.add _ _) (h (n + 1))) (sM K n (RD K (tl f) (tl g)) h) = K.add (K.add _ _) (K.add _ _);rw [NB n,K.add_mul,K.add_assoc,K.add_assoc,K.add_left_comm (K.mul (g 0) (h (n + 1)))]
theorem aDB : ∀ (n : Nat) (c : R) (f g : Nat → R),sM K n (fsc K c f) g = K.mul c (sM K n f g)
 | 0,c,f,g => K.mul_assoc _ _ _
 | n + 1,c,f,g => by
  show K.add (K.mul (K.mul c (f 0)) _) (sM K n (fsc K c (tl f)) g) = K.mul c (K.add _ _);rw [aDB n,K.mul_add,K.mul_assoc]
theorem RQ : ∀ (n : Nat) (g : Nat → R),sM K n (fze K) g = K.zero
 | 0,g => K.zero_mul _
 | n + 1,g => by
  show K.add (K.mul K.zero _) (sM K n (fze K) g) = _;rw [RQ n,K.zero_mul,K.add_zero]
theorem Gr (c : R) (g : Nat → R) : ∀ n,sM K n (fco K c) g = K.mul c (g n)
 | 0 => rfl
 | n + 1 => by
  show K.add (K.mul c _) (sM K n (fze K) g) = _;rw [RQ,K.add_zero]
theorem MZ : ∀ (n : Nat) (f g h : Nat → R),sM K n (CH K f g) h = sM K n f (CH K g h)
 | 0,f,g,h => K.mul_assoc _ _ _
 | n + 1,f,g,h => by
  have e : tl (CH K f g) = RD K (fsc K (f 0) (tl g)) (CH K (tl f) g):=rfl;show K.add (K.mul (K.mul (f 0) (g 0)) (h (n + 1))) (sM K n (tl (CH K f g)) h) = K.add (K.mul (f 0) (K.add (K.mul (g 0) (h (n + 1))) (sM K n (tl g) h))) (sM K n (tl f) (CH K g h));rw [e,NB,aDB,MZ n,K.mul_add,K.mul_assoc,K.add_assoc]
theorem xV : ∀ (n : Nat) (f g : Nat → R),sM K n f g = sM K n g f
 | 0,f,g => K.mul_comm _ _
 | 1,f,g => by
  show K.add (K.mul (f 0) (g 1)) (K.mul (f 1) (g 0)) = K.add (K.mul (g 0) (f 1)) (K.mul (g 1) (f 0));rw [K.add_comm,K.mul_comm (f 1),K.mul_comm (f 0)]
 | n + 2,f,g => by
  show K.add (K.mul (f 0) (g (n + 2))) (sM K (n + 1) (tl f) g) = K.add (K.mul (g 0) (f (n + 2))) (sM K (n + 1) (tl g) f);rw [xV (n + 1) (tl f) g,xV (n + 1) (tl g) f];show K.add (K.mul (f 0) (g (n + 2))) (K.add (K.mul (g 0) (f (n + 2))) (sM K n (tl g) (tl f))) = K.add (K.mul (g 0) (f (n + 2))) (K.add (K.mul (f 0) (g (n + 2))) (sM K n (tl f) (tl g)));rw [K.add_left_comm,xV n (tl g) (tl f)]
theorem RR : ∀ (a b : Nat) (f g : Nat → R),(∀ i,a ≤ i → f i = K.zero) → (∀ i,b ≤ i → g i = K.zero) → ∀ n,a + b ≤ n + 1 → sM K n f g = K.zero
 | 0,b,f,g,hf,hg,n,h => by
  have : f = fze K:=funext fun i => hf i (Nat.zero_le _)
  rw [this,RQ]
 | a + 1,b,f,g,hf,hg,0,h => by
  show K.mul (f 0) (g 0) = _;rw [hg 0 (by omega),K.mul_zero]
 | a + 1,b,f,g,hf,hg,n + 1,h => by
  show K.add (K.mul (f 0) (g (n + 1))) (sM K n (tl f) g) = _;rw [hg (n + 1) (by omega),K.mul_zero,K.zero_add];exact RR a b (tl f) g (fun i hi => hf (i + 1) (by omega)) hg n (by omega)
def Pol : Type:={f : Nat → R // ∃ n,∀ i,n ≤ i → f i = K.zero}
variable {K}
theorem Pol.ext {f g : Pol K} (h : ∀ n,f.1 n = g.1 n) : f = g:=Subtype.ext (funext h)
def aV : CR (Pol K) where
 add f g:=⟨RD K f.1 g.1,by
  obtain ⟨a,ha⟩:=f.2; obtain ⟨b,hb⟩:=g.2;exact ⟨a + b,fun i hi => by show K.add (f.1 i) (g.1 i) = _; rw [ha i (by omega),hb i (by omega),K.add_zero]⟩⟩
 mul f g:=⟨CH K f.1 g.1,by
  obtain ⟨a,ha⟩:=f.2; obtain ⟨b,hb⟩:=g.2;exact ⟨a + b,fun i hi => RR K a b f.1 g.1 ha hb i (by omega)⟩⟩
 neg f:=⟨aYC K f.1,by
  obtain ⟨a,ha⟩:=f.2;exact ⟨a,fun i hi => by show K.neg (f.1 i) = _; rw [ha i hi,bI]⟩⟩
 zero:=⟨fze K,0,fun _ _ => rfl⟩
 one:=⟨fco K K.one,1,fun i hi => by cases i with | zero => omega | succ i => rfl⟩
 add_assoc a b c:=Pol.ext fun n => K.add_assoc _ _ _
 add_comm a b:=Pol.ext fun n => K.add_comm _ _
 zero_add a:=Pol.ext fun n => K.zero_add _
 neg_add a:=Pol.ext fun n => K.neg_add _
 mul_assoc a b c:=Pol.ext fun n => MZ K n _ _ _
 mul_comm a b:=Pol.ext fun n => xV K n _ _
 one_mul a:=Pol.ext fun n => by show sM K n (fco K K.one) a.1 = _; rw [Gr,K.one_mul]
 mul_add a b c:=Pol.ext fun n => NA K n _ _ _
def kC (c : R) : Pol K:=⟨fco K c,1,fun i hi => by cases i with | zero => omega | succ i => rfl⟩
def pX : Pol K:=⟨fun n => match n with | 1 => K.one | _ => K.zero,2,fun i hi => by match i,hi with | i + 2,_ => rfl⟩
theorem Js (a b : R) : (kC (K.add a b) : Pol K) = aV.add (kC a) (kC b):=Pol.ext fun n => by
 cases n with
 | zero => rfl
 | succ n => exact (K.zero_add _).symm
theorem aGV (a : R) : (kC (K.neg a) : Pol K) = aV.neg (kC a):=Pol.ext fun n => by
 cases n with
 | zero => rfl
 | succ n => exact (bI K).symm
theorem CS (a b : R) : (kC (K.mul a b) : Pol K) = aV.mul (kC a) (kC b):=Pol.ext fun n => by
 show _ = sM K n (fco K a) (fco K b);rw [Gr];cases n with
 | zero => rfl
 | succ n => exact (K.mul_zero _).symm
def dg (f : Pol K) (n : Nat) : Prop:=f.1 n ≠ K.zero ∧ ∀ i,n < i → f.1 i = K.zero
theorem aDs {f : Pol K} {n : Nat} (h : dg f n) : f ≠ aV.zero:=fun e => h.1 (by rw [e]; rfl)
theorem aDr {f : Pol K} {n m : Nat} (h : dg f n) (g : dg f m) : n = m:=by
 rcases Nat.lt_trichotomy n m with q | q | q
 ·exact absurd (h.2 m q) g.1
 ·exact q
 ·exact absurd (g.2 n q) h.1
theorem IF (f : Pol K) (h : f ≠ aV.zero) : ∃ n,dg f n:=by
 obtain ⟨b,hb⟩:=f.2;have : ∀ b,(∀ i,b ≤ i → f.1 i = K.zero) → ∃ n,dg f n:=by
  intro b
  induction b with
  | zero => exact fun hb => absurd (Pol.ext fun n => hb n (Nat.zero_le _)) h
  | succ b ih =>
   intro hb
   by_cases h0 : f.1 b = K.zero
   ·exact ih fun i hi => by
     rcases Nat.lt_or_ge b i with q | q
     ·exact hb i q
     ·rw [show i = b by omega,h0]
   ·exact ⟨b,h0,hb⟩
 exact this b hb
variable {inv : R → R}
theorem Nl : ∀ (a b : Nat) (f g : Nat → R),(∀ i,a < i → f i = K.zero) → (∀ i,b < i → g i = K.zero) → sM K (a + b) f g = K.mul (f a) (g b)
 | 0,b,f,g,hf,hg => by
  have : f = fco K (f 0):=funext fun i => by cases i with | zero => rfl | succ i => exact hf _ (by omega)
  rw [this,Gr,Nat.zero_add]; rfl
 | a + 1,b,f,g,hf,hg => by
  rw [show a + 1 + b = (a + b) + 1 by omega];show K.add (K.mul (f 0) (g (a + b + 1))) (sM K (a + b) (tl f) g) = _;rw [hg (a + b + 1) (by omega),K.mul_zero,K.zero_add];exact Nl a b (tl f) g (fun i hi => hf (i + 1) (by omega)) hg
theorem iK (F : FD K inv) {f g : Pol K} {n m : Nat} (hf : dg f n) (hg : dg g m) : dg (aV.mul f g) (n + m):=by
 refine ⟨?_,fun i hi => RR K (n + 1) (m + 1) f.1 g.1 (fun j hj => hf.2 j hj) (fun j hj => hg.2 j hj) i (by omega)⟩
 ·show sM K (n + m) f.1 g.1 ≠ _;rw [Nl n m f.1 g.1 hf.2 hg.2];exact F.mul_ne hf.1 hg.1
theorem sL {f g : Pol K} {n : Nat} (hf : dg f n) (hg : ∀ i,n ≤ i → g.1 i = K.zero) : dg (aV.add f g) n:=by
 refine ⟨?_,fun i hi => ?_⟩
 ·show K.add (f.1 n) (g.1 n) ≠ _;rw [hg n (Nat.le_refl _),K.add_zero]; exact hf.1
 ·show K.add (f.1 i) (g.1 i) = _;rw [hf.2 i hi,hg i (by omega),K.add_zero]
theorem aOS {a : R} (h : a ≠ K.zero) : K.neg a ≠ K.zero:=fun e => h (by rw [← K.neg_neg a,e,bI])
theorem RM {f : Pol K} {n : Nat} (hf : dg f n) : dg (aV.neg f) n :=
 ⟨aOS hf.1,fun i hi => by show K.neg (f.1 i) = _; rw [hf.2 i hi,bI]⟩
theorem IE (F : FD K inv) (c : R) : dg (aV.sub (pX : Pol K) (kC c)) 1:=by
 refine ⟨?_,fun i hi => ?_⟩
 ·show K.add K.one (K.neg K.zero) ≠ _;rw [bI,K.add_zero]; exact F.ne
 ·match i,hi with
  | i + 2,_ => show K.add K.zero (K.neg K.zero) = _; rw [bI,K.add_zero]
def qP (c : R) : Pol K:=aV.add (aV.mul pX (aV.mul pX pX)) (kC c)
theorem aQB (F : FD K inv) : dg (pX : Pol K) 1:=⟨F.ne,fun i hi => by match i,hi with | i + 2,_ => rfl⟩
theorem aLg (F : FD K inv) (c : R) : dg (qP c : Pol K) 3 :=
 sL (iK F (aQB F) (iK F (aQB F) (aQB F))) fun i hi => by match i,hi with | i + 1,_ => rfl
theorem MG (F : FD K inv) {c k : R} {h : Pol K} (e : aV.mul (aV.sub (pX : Pol K) (kC c)) h = kC k) : k = K.zero:=by
 by_cases h0 : h = aV.zero
 ·rw [h0,aV.mul_zero] at e;exact (congrArg (fun p : Pol K => p.1 0) e).symm
 ·obtain ⟨n,hn⟩:=IF h h0;have:=iK F (IE F c) hn;rw [e] at this;exact absurd (by rw [Nat.add_comm]; rfl) this.1
end
section
variable {A : Type} {K : CR A}
theorem aDA {M N L1 R1 c1 L2 R2 c2 L3 R3 c3 L4 R4 c4 : A} (h1 : L1 = R1) (h2 : L2 = R2) (h3 : L3 = R3) (h4 : L4 = R4) (e : K.add M (K.neg N) = K.add (K.add (K.add (K.mul c1 (K.add L1 (K.neg R1))) (K.mul c2 (K.add L2 (K.neg R2)))) (K.mul c3 (K.add L3 (K.neg R3)))) (K.mul c4 (K.add L4 (K.neg R4)))) : M = N:=by
 apply mE (K:=K);rw [e,fO h1,fO h2,fO h3,fO h4,K.mul_zero,K.mul_zero,K.mul_zero,K.mul_zero,K.add_zero,K.add_zero,K.add_zero]
def op (K : CR A) (X Y x y : A) (S : A → Prop) : A → Prop:=fun z => ∃ s t,S s ∧ S t ∧ z = K.add (K.mul (K.sub X x) s) (K.mul (K.sub Y y) t)
structure Idl (K : CR A) (S : A → Prop) : Prop where
 add : ∀ a b,S a → S b → S (K.add a b)
 mul : ∀ a c,S a → S (K.mul c a)
theorem Idl.neg {S : A → Prop} (h : Idl K S) {a : A} (ha : S a) : S (K.neg a):=by
 have:=h.mul a (K.neg K.one) ha
 rwa [K.neg_mul,K.one_mul] at this
theorem Idl.sub {S : A → Prop} (h : Idl K S) {a b : A} (ha : S a) (hb : S b) : S (K.sub a b):=h.add _ _ ha (h.neg hb)
def Eqv (K : CR A) (S T : A → Prop) : Prop:=∃ a b,a ≠ K.zero ∧ b ≠ K.zero ∧ (∀ s,S s → ∃ t,T t ∧ K.mul a s = K.mul b t) ∧ (∀ t,T t → ∃ s,S s ∧ K.mul a s = K.mul b t)
def Dom (K : CR A) : Prop:=K.one ≠ K.zero ∧ ∀ a b,a ≠ K.zero → b ≠ K.zero → K.mul a b ≠ K.zero
theorem Eqv.refl (D : Dom K) (S : A → Prop) : Eqv K S S:=⟨K.one,K.one,D.1,D.1,fun s h => ⟨s,h,rfl⟩,fun s h => ⟨s,h,rfl⟩⟩
theorem Eqv.symm {S T : A → Prop} (h : Eqv K S T) : Eqv K T S:=by
 obtain ⟨a,b,ha,hb,h1,h2⟩:=h;exact ⟨b,a,hb,ha,fun t ht => by obtain ⟨s,hs,e⟩:=h2 t ht; exact ⟨s,hs,e.symm⟩,fun s hs => by obtain ⟨t,ht,e⟩:=h1 s hs; exact ⟨t,ht,e.symm⟩⟩
theorem Eqv.trans (D : Dom K) {S T U : A → Prop} (h : Eqv K S T) (g : Eqv K T U) : Eqv K S U:=by
 obtain ⟨a,b,ha,hb,h1,h2⟩:=h;obtain ⟨c,d,hc,hd,g1,g2⟩:=g;have key : ∀ s t u,K.mul a s = K.mul b t → K.mul c t = K.mul d u → K.mul (K.mul c a) s = K.mul (K.mul b d) u:=fun s t u e f => by
  rw [K.mul_assoc,e,K.mul_left_comm,f,K.mul_assoc]
 refine ⟨K.mul c a,K.mul b d,D.2 _ _ hc ha,D.2 _ _ hb hd,fun s hs => ?_,fun u hu => ?_⟩
 ·obtain ⟨t,ht,e⟩:=h1 s hs;obtain ⟨u,hu,f⟩:=g1 t ht;exact ⟨u,hu,key s t u e f⟩
 ·obtain ⟨t,ht,f⟩:=g2 u hu;obtain ⟨s,hs,e⟩:=h2 t ht;exact ⟨s,hs,key s t u e f⟩
variable {X Y : A}
theorem xD {x y al be s s2 t t2 : A} (e : K.mul al s = K.mul be t) (f : K.mul al s2 = K.mul be t2) : K.mul al (K.add (K.mul (K.sub X x) s) (K.mul (K.sub Y y) s2)) = K.mul be (K.add (K.mul (K.sub X x) t) (K.mul (K.sub Y y) t2)) :=
 jP (K:=K) (c1:=(K.sub X x)) (c2:=(K.sub Y y)) e f (aE K (aQ K [al,X,x,s,Y,y,s2,be,t,t2]) (.add (.mul (.v 0) (.add (.mul (.add (.v 1) (.neg (.v 2))) (.v 3)) (.mul (.add (.v 4) (.neg (.v 5))) (.v 6)))) (.neg (.mul (.v 7) (.add (.mul (.add (.v 1) (.neg (.v 2))) (.v 8)) (.mul (.add (.v 4) (.neg (.v 5))) (.v 9)))))) (.add (.mul (.add (.v 1) (.neg (.v 2))) (.add (.mul (.v 0) (.v 3)) (.neg (.mul (.v 7) (.v 8))))) (.mul (.add (.v 4) (.neg (.v 5))) (.add (.mul (.v 0) (.v 6)) (.neg (.mul (.v 7) (.v 9)))))) (by kernel_rfl))
theorem Eqv.op {S T : A → Prop} (x y : A) (h : Eqv K S T) : Eqv K (op K X Y x y S) (op K X Y x y T):=by
 obtain ⟨a,b,ha,hb,h1,h2⟩:=h;refine ⟨a,b,ha,hb,?_,?_⟩
 ·rintro z ⟨s,s2,hs,hs2,rfl⟩
  obtain ⟨t,ht,e⟩:=h1 s hs;obtain ⟨t2,ht2,f⟩:=h1 s2 hs2;exact ⟨_,⟨t,t2,ht,ht2,rfl⟩,xD e f⟩
 ·rintro z ⟨t,t2,ht,ht2,rfl⟩
  obtain ⟨s,hs,e⟩:=h2 t ht;obtain ⟨s2,hs2,f⟩:=h2 t2 ht2;exact ⟨_,⟨s,s2,hs,hs2,rfl⟩,xD e f⟩
theorem XV {S : A → Prop} (x y x' y' : A) {z : A} (h : op K X Y x y (op K X Y x' y' S) z) : op K X Y x' y' (op K X Y x y S) z:=by
 obtain ⟨_,_,⟨a,bb,ha,hb,rfl⟩,⟨c,d,hc,hd,rfl⟩,rfl⟩:=h;exact ⟨_,_,⟨a,c,ha,hc,rfl⟩,⟨bb,d,hb,hd,rfl⟩,aE K (aQ K [X,x,x',a,Y,y',bb,y,c,d]) (.add (.mul (.add (.v 0) (.neg (.v 1))) (.add (.mul (.add (.v 0) (.neg (.v 2))) (.v 3)) (.mul (.add (.v 4) (.neg (.v 5))) (.v 6)))) (.mul (.add (.v 4) (.neg (.v 7))) (.add (.mul (.add (.v 0) (.neg (.v 2))) (.v 8)) (.mul (.add (.v 4) (.neg (.v 5))) (.v 9))))) (.add (.mul (.add (.v 0) (.neg (.v 2))) (.add (.mul (.add (.v 0) (.neg (.v 1))) (.v 3)) (.mul (.add (.v 4) (.neg (.v 7))) (.v 8)))) (.mul (.add (.v 4) (.neg (.v 5))) (.add (.mul (.add (.v 0) (.neg (.v 1))) (.v 6)) (.mul (.add (.v 4) (.neg (.v 7))) (.v 9))))) (by kernel_rfl)⟩
theorem aHa {S : A → Prop} (x y x' y' : A) : op K X Y x y (op K X Y x' y' S) = op K X Y x' y' (op K X Y x y S) :=
 funext fun z => propext ⟨XV x y x' y',XV x' y' x y⟩
theorem aAH {S : A → Prop} (h : Idl K S) (x y : A) : Idl K (op K X Y x y S) where
 add:=by
  rintro _ _ ⟨a,b,ha,hb,rfl⟩ ⟨c,d,hc,hd,rfl⟩
  exact ⟨_,_,h.add a c ha hc,h.add b d hb hd,aE K (aQ K [X,x,a,Y,y,b,c,d]) (.add (.add (.mul (.add (.v 0) (.neg (.v 1))) (.v 2)) (.mul (.add (.v 3) (.neg (.v 4))) (.v 5))) (.add (.mul (.add (.v 0) (.neg (.v 1))) (.v 6)) (.mul (.add (.v 3) (.neg (.v 4))) (.v 7)))) (.add (.mul (.add (.v 0) (.neg (.v 1))) (.add (.v 2) (.v 6))) (.mul (.add (.v 3) (.neg (.v 4))) (.add (.v 5) (.v 7)))) (by kernel_rfl)⟩
 mul:=by
  rintro _ c ⟨a,b,ha,hb,rfl⟩
  exact ⟨_,_,h.mul a c ha,h.mul b c hb,aE K (aQ K [c,X,x,a,Y,y,b]) (.mul (.v 0) (.add (.mul (.add (.v 1) (.neg (.v 2))) (.v 3)) (.mul (.add (.v 4) (.neg (.v 5))) (.v 6)))) (.add (.mul (.add (.v 1) (.neg (.v 2))) (.mul (.v 0) (.v 3))) (.mul (.add (.v 4) (.neg (.v 5))) (.mul (.v 0) (.v 6)))) (by kernel_rfl)⟩
theorem aNU {b x y k : A} (hY : K.mul Y Y = K.add (K.mul X (K.mul X X)) b) (hy : K.mul y y = K.add (K.mul x (K.mul x x)) b) (hk : K.mul k (K.add y y) = K.one) (D : Dom K) (hX : K.sub X x ≠ K.zero) {S : A → Prop} (h : Idl K S) : Eqv K (op K X Y x y (op K X Y x (K.neg y) S)) S:=by
 refine ⟨K.one,K.sub X x,D.1,hX,?_,?_⟩
 ·rintro _ ⟨_,_,⟨a,bb,ha,hb,rfl⟩,⟨c,d,hc,hd,rfl⟩,rfl⟩
  refine ⟨(K.add (K.add (K.add (K.mul (K.sub X x) a) (K.mul (K.sub Y (K.neg y)) bb)) (K.mul (K.sub Y y) c)) (K.mul (K.add (K.add (K.mul X X) (K.mul x X)) (K.mul x x)) d)),h.add _ _ (h.add _ _ (h.add _ _ (h.mul _ _ ha) (h.mul _ _ hb)) (h.mul _ _ hc)) (h.mul _ _ hd),?_⟩;rw [K.one_mul];exact jP (K:=K) (c1:=d) (c2:=(K.neg d)) hY hy (aE K (aQ K [X,x,a,Y,y,bb,c,d,b]) (.add (.add (.mul (.add (.v 0) (.neg (.v 1))) (.add (.mul (.add (.v 0) (.neg (.v 1))) (.v 2)) (.mul (.add (.v 3) (.neg (.neg (.v 4)))) (.v 5)))) (.mul (.add (.v 3) (.neg (.v 4))) (.add (.mul (.add (.v 0) (.neg (.v 1))) (.v 6)) (.mul (.add (.v 3) (.neg (.neg (.v 4)))) (.v 7))))) (.neg (.mul (.add (.v 0) (.neg (.v 1))) (.add (.add (.add (.mul (.add (.v 0) (.neg (.v 1))) (.v 2)) (.mul (.add (.v 3) (.neg (.neg (.v 4)))) (.v 5))) (.mul (.add (.v 3) (.neg (.v 4))) (.v 6))) (.mul (.add (.add (.mul (.v 0) (.v 0)) (.mul (.v 1) (.v 0))) (.mul (.v 1) (.v 1))) (.v 7)))))) (.add (.mul (.v 7) (.add (.mul (.v 3) (.v 3)) (.neg (.add (.mul (.v 0) (.mul (.v 0) (.v 0))) (.v 8))))) (.mul (.neg (.v 7)) (.add (.mul (.v 4) (.v 4)) (.neg (.add (.mul (.v 1) (.mul (.v 1) (.v 1))) (.v 8)))))) (by kernel_rfl))
 ·intro t ht;refine ⟨_,⟨_,_,⟨_,_,h.mul t K.zero ht,h.mul t k ht,rfl⟩,⟨_,_,h.mul t (K.neg k) ht,h.mul t K.zero ht,rfl⟩,rfl⟩,?_⟩;rw [K.one_mul];exact gQ (K:=K) (c1:=(K.mul (K.sub X x) t)) hk (aE K (aQ K [X,x,t,Y,y,k]) (.add (.add (.mul (.add (.v 0) (.neg (.v 1))) (.add (.mul (.add (.v 0) (.neg (.v 1))) (.mul .zero (.v 2))) (.mul (.add (.v 3) (.neg (.neg (.v 4)))) (.mul (.v 5) (.v 2))))) (.mul (.add (.v 3) (.neg (.v 4))) (.add (.mul (.add (.v 0) (.neg (.v 1))) (.mul (.neg (.v 5)) (.v 2))) (.mul (.add (.v 3) (.neg (.neg (.v 4)))) (.mul .zero (.v 2)))))) (.neg (.mul (.add (.v 0) (.neg (.v 1))) (.v 2)))) (.mul (.mul (.add (.v 0) (.neg (.v 1))) (.v 2)) (.add (.mul (.v 5) (.add (.v 4) (.v 4))) (.neg .one))) (by kernel_rfl))
theorem MF {b x1 y1 x2 l : A} (hY : K.mul Y Y = K.add (K.mul X (K.mul X X)) b) (H2 : (K.mul l (K.add y1 (K.add y1 (K.mul l (K.sub x2 x1))))) = (K.add (K.add (K.mul x1 x1) (K.mul x1 x2)) (K.mul x2 x2))) (H3 : (K.mul y1 y1) = (K.add (K.mul x1 (K.mul x1 x1)) b)) : (K.mul (K.sub X x1) (K.mul (K.sub X x2) (K.sub X (K.sub (K.sub (K.mul l l) x1) x2)))) = (K.mul (K.sub (K.sub Y y1) (K.mul l (K.sub X x1))) (K.add (K.sub Y (K.sub (K.mul l (K.sub x1 (K.sub (K.sub (K.mul l l) x1) x2))) y1)) (K.mul l (K.sub X (K.sub (K.sub (K.mul l l) x1) x2))))) :=
 Ac (K:=K) (c1:=(K.neg K.one)) (c2:=K.one) (c3:=(K.sub X x1)) hY H3 H2 (aE K (aQ K [X,x1,x2,l,Y,y1,b]) (.add (.mul (.add (.v 0) (.neg (.v 1))) (.mul (.add (.v 0) (.neg (.v 2))) (.add (.v 0) (.neg (.add (.add (.mul (.v 3) (.v 3)) (.neg (.v 1))) (.neg (.v 2))))))) (.neg (.mul (.add (.add (.v 4) (.neg (.v 5))) (.neg (.mul (.v 3) (.add (.v 0) (.neg (.v 1)))))) (.add (.add (.v 4) (.neg (.add (.mul (.v 3) (.add (.v 1) (.neg (.add (.add (.mul (.v 3) (.v 3)) (.neg (.v 1))) (.neg (.v 2)))))) (.neg (.v 5))))) (.mul (.v 3) (.add (.v 0) (.neg (.add (.add (.mul (.v 3) (.v 3)) (.neg (.v 1))) (.neg (.v 2)))))))))) (.add (.add (.mul (.neg .one) (.add (.mul (.v 4) (.v 4)) (.neg (.add (.mul (.v 0) (.mul (.v 0) (.v 0))) (.v 6))))) (.mul .one (.add (.mul (.v 5) (.v 5)) (.neg (.add (.mul (.v 1) (.mul (.v 1) (.v 1))) (.v 6)))))) (.mul (.add (.v 0) (.neg (.v 1))) (.add (.mul (.v 3) (.add (.v 5) (.add (.v 5) (.mul (.v 3) (.add (.v 2) (.neg (.v 1))))))) (.neg (.add (.add (.mul (.v 1) (.v 1)) (.mul (.v 1) (.v 2))) (.mul (.v 2) (.v 2))))))) (by kernel_rfl))
theorem aNT {b x1 y1 x2 l : A} (hY : K.mul Y Y = K.add (K.mul X (K.mul X X)) b) (H2 : (K.mul l (K.add y1 (K.add y1 (K.mul l (K.sub x2 x1))))) = (K.add (K.add (K.mul x1 x1) (K.mul x1 x2)) (K.mul x2 x2))) (H3 : (K.mul y1 y1) = (K.add (K.mul x1 (K.mul x1 x1)) b)) (hk : (∃ k,K.mul k (K.add y1 (K.add y1 (K.mul l (K.sub x2 x1)))) = K.one) ∨ (∃ k,K.mul k (K.sub x2 x1) = K.one)) (hX : K.sub X (K.sub (K.sub (K.mul l l) x1) x2) ≠ K.zero) (hl : (K.sub (K.sub Y y1) (K.mul l (K.sub X x1))) ≠ K.zero) {S : A → Prop} (h : Idl K S) : Eqv K (op K X Y x1 y1 (op K X Y x2 (K.add y1 (K.mul l (K.sub x2 x1))) S)) (op K X Y (K.sub (K.sub (K.mul l l) x1) x2) (K.sub (K.mul l (K.sub x1 (K.sub (K.sub (K.mul l l) x1) x2))) y1) S):=by
 have HC:=MF (X:=X) (Y:=Y) hY H2 H3;refine ⟨K.sub X (K.sub (K.sub (K.mul l l) x1) x2),(K.sub (K.sub Y y1) (K.mul l (K.sub X x1))),hX,hl,?_,?_⟩
 ·rintro _ ⟨_,_,⟨a,bb,ha,hb,rfl⟩,⟨c,d,hc,hd,rfl⟩,rfl⟩
  exact ⟨_,⟨(K.add (K.add (K.add (K.mul l a) (K.mul (K.add (K.sub X x1) (K.mul l l)) bb)) (K.mul (K.add (K.sub X x2) (K.mul l l)) c)) (K.mul (K.add (K.add (K.add (K.sub (K.sub Y y1) (K.mul l (K.sub X x1))) (K.mul l (K.sub X x1))) (K.mul l (K.sub X x2))) (K.mul l (K.mul l l))) d)),(K.add (K.add (K.add a (K.mul l bb)) (K.mul l c)) (K.mul (K.mul l l) d)),h.add _ _ (h.add _ _ (h.add _ _ (h.mul _ _ ha) (h.mul _ _ hb)) (h.mul _ _ hc)) (h.mul _ _ hd),h.add _ _ (h.add _ _ (h.add _ _ ha (h.mul _ _ hb)) (h.mul _ _ hc)) (h.mul _ _ hd),rfl⟩,gQ (K:=K) (c1:=(K.add (K.add (K.add a (K.mul l bb)) (K.mul l c)) (K.mul (K.mul l l) d))) HC (aE K (aQ K [X,l,x1,x2,a,Y,y1,bb,c,d]) (.add (.mul (.add (.v 0) (.neg (.add (.add (.mul (.v 1) (.v 1)) (.neg (.v 2))) (.neg (.v 3))))) (.add (.mul (.add (.v 0) (.neg (.v 2))) (.add (.mul (.add (.v 0) (.neg (.v 3))) (.v 4)) (.mul (.add (.v 5) (.neg (.add (.v 6) (.mul (.v 1) (.add (.v 3) (.neg (.v 2))))))) (.v 7)))) (.mul (.add (.v 5) (.neg (.v 6))) (.add (.mul (.add (.v 0) (.neg (.v 3))) (.v 8)) (.mul (.add (.v 5) (.neg (.add (.v 6) (.mul (.v 1) (.add (.v 3) (.neg (.v 2))))))) (.v 9)))))) (.neg (.mul (.add (.add (.v 5) (.neg (.v 6))) (.neg (.mul (.v 1) (.add (.v 0) (.neg (.v 2)))))) (.add (.mul (.add (.v 0) (.neg (.add (.add (.mul (.v 1) (.v 1)) (.neg (.v 2))) (.neg (.v 3))))) (.add (.add (.add (.mul (.v 1) (.v 4)) (.mul (.add (.add (.v 0) (.neg (.v 2))) (.mul (.v 1) (.v 1))) (.v 7))) (.mul (.add (.add (.v 0) (.neg (.v 3))) (.mul (.v 1) (.v 1))) (.v 8))) (.mul (.add (.add (.add (.add (.add (.v 5) (.neg (.v 6))) (.neg (.mul (.v 1) (.add (.v 0) (.neg (.v 2)))))) (.mul (.v 1) (.add (.v 0) (.neg (.v 2))))) (.mul (.v 1) (.add (.v 0) (.neg (.v 3))))) (.mul (.v 1) (.mul (.v 1) (.v 1)))) (.v 9)))) (.mul (.add (.v 5) (.neg (.add (.mul (.v 1) (.add (.v 2) (.neg (.add (.add (.mul (.v 1) (.v 1)) (.neg (.v 2))) (.neg (.v 3)))))) (.neg (.v 6))))) (.add (.add (.add (.v 4) (.mul (.v 1) (.v 7))) (.mul (.v 1) (.v 8))) (.mul (.mul (.v 1) (.v 1)) (.v 9)))))))) (.mul (.add (.add (.add (.v 4) (.mul (.v 1) (.v 7))) (.mul (.v 1) (.v 8))) (.mul (.mul (.v 1) (.v 1)) (.v 9))) (.add (.mul (.add (.v 0) (.neg (.v 2))) (.mul (.add (.v 0) (.neg (.v 3))) (.add (.v 0) (.neg (.add (.add (.mul (.v 1) (.v 1)) (.neg (.v 2))) (.neg (.v 3))))))) (.neg (.mul (.add (.add (.v 5) (.neg (.v 6))) (.neg (.mul (.v 1) (.add (.v 0) (.neg (.v 2)))))) (.add (.add (.v 5) (.neg (.add (.mul (.v 1) (.add (.v 2) (.neg (.add (.add (.mul (.v 1) (.v 1)) (.neg (.v 2))) (.neg (.v 3)))))) (.neg (.v 6))))) (.mul (.v 1) (.add (.v 0) (.neg (.add (.add (.mul (.v 1) (.v 1)) (.neg (.v 2))) (.neg (.v 3))))))))))) (by kernel_rfl))⟩
 ·rintro _ ⟨u,w,hu,hw,rfl⟩
  have hg : S (K.sub u (K.mul l w)):=h.sub hu (h.mul _ _ hw);have e0 : K.mul (K.sub (K.sub Y y1) (K.mul l (K.sub X x1))) (K.add (K.mul (K.sub X (K.sub (K.sub (K.mul l l) x1) x2)) u) (K.mul (K.sub Y (K.sub (K.mul l (K.sub x1 (K.sub (K.sub (K.mul l l) x1) x2))) y1)) w)) = K.mul (K.sub X (K.sub (K.sub (K.mul l l) x1) x2)) (K.add (K.mul (K.sub (K.sub Y y1) (K.mul l (K.sub X x1))) (K.sub u (K.mul l w))) (K.mul (K.sub X x1) (K.mul (K.sub X x2) w))) :=
   gQ (K:=K) (c1:=(K.neg w)) HC (aE K (aQ K [Y,y1,l,X,x1,x2,u,w]) (.add (.mul (.add (.add (.v 0) (.neg (.v 1))) (.neg (.mul (.v 2) (.add (.v 3) (.neg (.v 4)))))) (.add (.mul (.add (.v 3) (.neg (.add (.add (.mul (.v 2) (.v 2)) (.neg (.v 4))) (.neg (.v 5))))) (.v 6)) (.mul (.add (.v 0) (.neg (.add (.mul (.v 2) (.add (.v 4) (.neg (.add (.add (.mul (.v 2) (.v 2)) (.neg (.v 4))) (.neg (.v 5)))))) (.neg (.v 1))))) (.v 7)))) (.neg (.mul (.add (.v 3) (.neg (.add (.add (.mul (.v 2) (.v 2)) (.neg (.v 4))) (.neg (.v 5))))) (.add (.mul (.add (.add (.v 0) (.neg (.v 1))) (.neg (.mul (.v 2) (.add (.v 3) (.neg (.v 4)))))) (.add (.v 6) (.neg (.mul (.v 2) (.v 7))))) (.mul (.add (.v 3) (.neg (.v 4))) (.mul (.add (.v 3) (.neg (.v 5))) (.v 7))))))) (.mul (.neg (.v 7)) (.add (.mul (.add (.v 3) (.neg (.v 4))) (.mul (.add (.v 3) (.neg (.v 5))) (.add (.v 3) (.neg (.add (.add (.mul (.v 2) (.v 2)) (.neg (.v 4))) (.neg (.v 5))))))) (.neg (.mul (.add (.add (.v 0) (.neg (.v 1))) (.neg (.mul (.v 2) (.add (.v 3) (.neg (.v 4)))))) (.add (.add (.v 0) (.neg (.add (.mul (.v 2) (.add (.v 4) (.neg (.add (.add (.mul (.v 2) (.v 2)) (.neg (.v 4))) (.neg (.v 5)))))) (.neg (.v 1))))) (.mul (.v 2) (.add (.v 3) (.neg (.add (.add (.mul (.v 2) (.v 2)) (.neg (.v 4))) (.neg (.v 5))))))))))) (by kernel_rfl))
  generalize hge : (K.sub u (K.mul l w)) = g at hg e0;rw [e0]
  rcases hk with ⟨k,hk⟩ | ⟨k,hk⟩
  ·refine ⟨_,⟨_,_,⟨_,_,h.add _ _ (h.mul g (K.mul k (K.add (K.add X x1) x2)) hg) hw,h.mul g K.zero hg,rfl⟩,⟨_,_,h.mul g K.zero hg,h.mul g (K.neg k) hg,rfl⟩,rfl⟩,congrArg (K.mul _) ?_⟩;exact aDA (K:=K) (c1:=(K.mul (K.sub (K.sub Y y1) (K.mul l (K.sub X x1))) g)) (c2:=(K.neg (K.mul k g))) (c3:=(K.mul k g)) (c4:=(K.mul (K.mul k g) (K.sub X x1))) hk hY H3 H2 (aE K (aQ K [X,x1,x2,k,g,w,Y,y1,l,b]) (.add (.add (.mul (.add (.v 0) (.neg (.v 1))) (.add (.mul (.add (.v 0) (.neg (.v 2))) (.add (.mul (.mul (.v 3) (.add (.add (.v 0) (.v 1)) (.v 2))) (.v 4)) (.v 5))) (.mul (.add (.v 6) (.neg (.add (.v 7) (.mul (.v 8) (.add (.v 2) (.neg (.v 1))))))) (.mul .zero (.v 4))))) (.mul (.add (.v 6) (.neg (.v 7))) (.add (.mul (.add (.v 0) (.neg (.v 2))) (.mul .zero (.v 4))) (.mul (.add (.v 6) (.neg (.add (.v 7) (.mul (.v 8) (.add (.v 2) (.neg (.v 1))))))) (.mul (.neg (.v 3)) (.v 4)))))) (.neg (.add (.mul (.add (.add (.v 6) (.neg (.v 7))) (.neg (.mul (.v 8) (.add (.v 0) (.neg (.v 1)))))) (.v 4)) (.mul (.add (.v 0) (.neg (.v 1))) (.mul (.add (.v 0) (.neg (.v 2))) (.v 5)))))) (.add (.add (.add (.mul (.mul (.add (.add (.v 6) (.neg (.v 7))) (.neg (.mul (.v 8) (.add (.v 0) (.neg (.v 1)))))) (.v 4)) (.add (.mul (.v 3) (.add (.v 7) (.add (.v 7) (.mul (.v 8) (.add (.v 2) (.neg (.v 1))))))) (.neg .one))) (.mul (.neg (.mul (.v 3) (.v 4))) (.add (.mul (.v 6) (.v 6)) (.neg (.add (.mul (.v 0) (.mul (.v 0) (.v 0))) (.v 9)))))) (.mul (.mul (.v 3) (.v 4)) (.add (.mul (.v 7) (.v 7)) (.neg (.add (.mul (.v 1) (.mul (.v 1) (.v 1))) (.v 9)))))) (.mul (.mul (.mul (.v 3) (.v 4)) (.add (.v 0) (.neg (.v 1)))) (.add (.mul (.v 8) (.add (.v 7) (.add (.v 7) (.mul (.v 8) (.add (.v 2) (.neg (.v 1))))))) (.neg (.add (.add (.mul (.v 1) (.v 1)) (.mul (.v 1) (.v 2))) (.mul (.v 2) (.v 2))))))) (by kernel_rfl))
  ·refine ⟨_,⟨_,_,⟨_,_,hw,h.mul g k hg,rfl⟩,⟨_,_,h.mul g (K.neg k) hg,h.mul g K.zero hg,rfl⟩,rfl⟩,congrArg (K.mul _) ?_⟩;exact gQ (K:=K) (c1:=(K.mul (K.sub (K.sub Y y1) (K.mul l (K.sub X x1))) g)) hk (aE K (aQ K [X,x1,x2,w,Y,y1,l,k,g]) (.add (.add (.mul (.add (.v 0) (.neg (.v 1))) (.add (.mul (.add (.v 0) (.neg (.v 2))) (.v 3)) (.mul (.add (.v 4) (.neg (.add (.v 5) (.mul (.v 6) (.add (.v 2) (.neg (.v 1))))))) (.mul (.v 7) (.v 8))))) (.mul (.add (.v 4) (.neg (.v 5))) (.add (.mul (.add (.v 0) (.neg (.v 2))) (.mul (.neg (.v 7)) (.v 8))) (.mul (.add (.v 4) (.neg (.add (.v 5) (.mul (.v 6) (.add (.v 2) (.neg (.v 1))))))) (.mul .zero (.v 8)))))) (.neg (.add (.mul (.add (.add (.v 4) (.neg (.v 5))) (.neg (.mul (.v 6) (.add (.v 0) (.neg (.v 1)))))) (.v 8)) (.mul (.add (.v 0) (.neg (.v 1))) (.mul (.add (.v 0) (.neg (.v 2))) (.v 3)))))) (.mul (.mul (.add (.add (.v 4) (.neg (.v 5))) (.neg (.mul (.v 6) (.add (.v 0) (.neg (.v 1)))))) (.v 8)) (.add (.mul (.v 7) (.add (.v 2) (.neg (.v 1)))) (.neg .one))) (by kernel_rfl))
end
open Classical
section
variable {R : Type} {K : CR R} {inv : R → R}
def bY (K : CR R) (b : R) : CR (Pol K × Pol K):=(aV (K:=K)).sq (qP b)
def cX : Pol K × Pol K:=(pX,aV.zero)
def cY : Pol K × Pol K:=(aV.zero,aV.one)
def cc (k : R) : Pol K × Pol K:=(kC k,aV.zero)
variable (b : R)
theorem iM (x y : R) : (cc (K.add x y) : Pol K × Pol K) = (bY K b).add (cc x) (cc y):=Prod.ext (Js x y) (aV.zero_add _).symm
theorem Gt (x : R) : (cc (K.neg x) : Pol K × Pol K) = (bY K b).neg (cc x):=Prod.ext (aGV x) (bI aV).symm
theorem oF (x y : R) : (cc (K.sub x y) : Pol K × Pol K) = (bY K b).sub (cc x) (cc y):=by
 show cc (K.add _ _) = (bY K b).add _ _;rw [iM b,Gt b]
theorem fT (x y : R) : (cc (K.mul x y) : Pol K × Pol K) = (bY K b).mul (cc x) (cc y):=by
 refine Prod.ext ?_ ?_
 ·show kC (K.mul x y) = aV.add (aV.mul (kC x) (kC y)) (aV.mul (qP b) (aV.mul aV.zero aV.zero));rw [aV.mul_zero,aV.mul_zero,aV.add_zero,CS]
 ·show aV.zero = aV.add (aV.mul (kC x) aV.zero) (aV.mul aV.zero (kC y));rw [aV.mul_zero,aV.zero_mul,aV.add_zero]
theorem SB : (cc K.one : Pol K × Pol K) = (bY K b).one:=rfl
theorem aJb : (bY K b).mul cY cY = (bY K b).add ((bY K b).mul cX ((bY K b).mul cX cX)) (cc b):=by
 refine Prod.ext ?_ ?_
 ·show aV.add (aV.mul aV.zero aV.zero) (aV.mul (qP b) (aV.mul aV.one aV.one)) = aV.add (aV.add (aV.mul pX (aV.add (aV.mul pX pX) (aV.mul (qP b) (aV.mul aV.zero aV.zero)))) (aV.mul (qP b) (aV.mul aV.zero (aV.add (aV.mul pX aV.zero) (aV.mul aV.zero pX))))) (kC b);simp only [aV.mul_zero,aV.zero_mul,aV.add_zero,aV.zero_add,aV.mul_one];rfl
 ·show aV.add (aV.mul aV.zero aV.one) (aV.mul aV.one aV.zero) = aV.add (aV.add (aV.mul pX (aV.add (aV.mul pX aV.zero) (aV.mul aV.zero pX))) (aV.mul aV.zero (aV.add (aV.mul pX pX) (aV.mul (qP b) (aV.mul aV.zero aV.zero))))) aV.zero;simp only [aV.mul_zero,aV.zero_mul,aV.add_zero,aV.zero_add,aV.mul_one]
def nrm (f : Pol K × Pol K) : Pol K:=aV.sub (aV.mul f.1 f.1) (aV.mul (qP b) (aV.mul f.2 f.2))
theorem PX (f g : Pol K × Pol K) : nrm b ((bY K b).mul f g) = aV.mul (nrm b f) (nrm b g) :=
 aE aV (aQ aV [f.1,g.1,qP b,f.2,g.2]) (.add (.mul (.add (.mul (.v 0) (.v 1)) (.mul (.v 2) (.mul (.v 3) (.v 4)))) (.add (.mul (.v 0) (.v 1)) (.mul (.v 2) (.mul (.v 3) (.v 4))))) (.neg (.mul (.v 2) (.mul (.add (.mul (.v 0) (.v 4)) (.mul (.v 3) (.v 1))) (.add (.mul (.v 0) (.v 4)) (.mul (.v 3) (.v 1))))))) (.mul (.add (.mul (.v 0) (.v 0)) (.neg (.mul (.v 2) (.mul (.v 3) (.v 3))))) (.add (.mul (.v 1) (.v 1)) (.neg (.mul (.v 2) (.mul (.v 4) (.v 4)))))) (by kernel_rfl)
theorem PY (F : FD K inv) (f : Pol K × Pol K) (h : f ≠ (bY K b).zero) : ∃ d,dg (nrm b f) d ∧ d ≠ 1:=by
 have hq : dg (qP b : Pol K) 3:=aLg F b
 by_cases h2 : f.2 = aV.zero
 ·have h1 : f.1 ≠ aV.zero:=fun e => h (Prod.ext e h2)
  obtain ⟨n,hn⟩:=IF _ h1;refine ⟨n + n,?_,by omega⟩;unfold nrm;rw [h2,aV.mul_zero,aV.mul_zero];show dg (aV.add _ (aV.neg aV.zero)) _;rw [bI,aV.add_zero];exact iK F hn hn
 ·obtain ⟨m,hm⟩:=IF _ h2;have hr:=iK F hq (iK F hm hm)
  by_cases h1 : f.1 = aV.zero
  ·refine ⟨3 + (m + m),?_,by omega⟩;unfold nrm;rw [h1,aV.mul_zero];show dg (aV.add _ _) _;rw [aV.zero_add];exact RM hr
  ·obtain ⟨n,hn⟩:=IF _ h1;have hl:=iK F hn hn;have hr':=RM hr
   rcases Nat.lt_or_ge (n + n) (3 + (m + m)) with q | q
   ·refine ⟨3 + (m + m),?_,by omega⟩;show dg (aV.add _ _) _;rw [aV.add_comm];exact sL hr' fun i hi => hl.2 i (by omega)
   ·refine ⟨n + n,?_,by omega⟩;exact sL hl fun i hi => hr'.2 i (by omega)
theorem jH (F : FD K inv) : Dom (bY K b):=by
 refine ⟨fun e => F.ne (congrArg (fun z : Pol K × Pol K => z.1.1 0) e),fun f g hf hg e => ?_⟩;obtain ⟨n,hn,_⟩:=PY b F f hf;obtain ⟨m,hm,_⟩:=PY b F g hg;have h:=aDs (iK F hn hm);rw [← PX,e] at h;refine h ?_;show aV.sub (aV.mul aV.zero aV.zero) (aV.mul (qP b) (aV.mul aV.zero aV.zero)) = _;rw [aV.mul_zero,aV.mul_zero];exact aV.add_neg _
theorem nB {A : Type} {C : CR A} (D : Dom C) {a s t : A} (ha : a ≠ C.zero) (e : C.mul a s = C.mul a t) : s = t:=by
 apply mE (K:=C)
 by_cases h : C.add s (C.neg t) = C.zero
 ·exact h
 ·exact absurd (by rw [C.mul_add,C.mul_neg,e,C.add_neg]) (D.2 _ _ ha h)
def TX {A : Type} : A → Prop:=fun _ => True
theorem kI {A : Type} (C : CR A) : Idl C TX:=⟨fun _ _ _ _ => trivial,fun _ _ _ => trivial⟩
theorem Ab (f : Pol K × Pol K) : (bY K b).mul f (f.1,aV.neg f.2) = (nrm b f,aV.zero):=by
 refine Prod.ext ?_ ?_
 ·exact aE aV (aQ aV [f.1,qP b,f.2]) (.add (.mul (.v 0) (.v 0)) (.mul (.v 1) (.mul (.v 2) (.neg (.v 2))))) (.add (.mul (.v 0) (.v 0)) (.neg (.mul (.v 1) (.mul (.v 2) (.v 2))))) (by kernel_rfl)
 ·exact aE aV (aQ aV [f.1,f.2]) (.add (.mul (.v 0) (.neg (.v 1))) (.mul (.v 1) (.v 0))) .zero (by kernel_rfl)
theorem Zr {x y : R} (h : K.mul y y = K.add (K.mul x (K.mul x x)) b) : (qP b : Pol K) = aV.add (aV.mul (kC y) (kC y)) (aV.mul (aV.sub pX (kC x)) (aV.add (aV.mul pX pX) (aV.add (aV.mul (kC x) pX) (aV.mul (kC x) (kC x))))):=by
 have e : aV.mul (kC y) (kC y) = aV.add (aV.mul (kC x) (aV.mul (kC x) (kC x))) (kC b : Pol K):=by
  rw [← CS,← CS,← CS,← Js,h]
 rw [e];exact aE aV (aQ aV [pX,kC b,kC x]) (.add (.mul (.v 0) (.mul (.v 0) (.v 0))) (.v 1)) (.add (.add (.mul (.v 2) (.mul (.v 2) (.v 2))) (.v 1)) (.mul (.add (.v 0) (.neg (.v 2))) (.add (.mul (.v 0) (.v 0)) (.add (.mul (.v 2) (.v 0)) (.mul (.v 2) (.v 2)))))) (by kernel_rfl)
theorem aTX (F : FD K inv) {x y : R} (h : K.mul y y = K.add (K.mul x (K.mul x x)) b) : ¬ Eqv (bY K b) (op (bY K b) cX cY (cc x) (cc y) TX) TX:=by
 rintro ⟨a,e,ha,he,h1,h2⟩
 have D:=jH (K:=K) b F;obtain ⟨f,hf,e1⟩:=h2 (bY K b).one trivial;rw [(bY K b).mul_one] at e1;have hm : ∀ g,op (bY K b) cX cY (cc x) (cc y) TX g → ∃ t,g = (bY K b).mul f t:=fun g hg => by
  obtain ⟨t,_,e2⟩:=h1 g hg;rw [← e1,(bY K b).mul_assoc] at e2;exact ⟨t,nB D ha e2⟩
 have sz : ∀ z : Pol K × Pol K,(bY K b).sub z (bY K b).zero = z:=fun z => by
  show (bY K b).add z ((bY K b).neg _) = z;rw [bI,(bY K b).add_zero]
 obtain ⟨t,ht⟩:=hm ((bY K b).sub cX (cc x)) ⟨(bY K b).one,(bY K b).zero,trivial,trivial,by rw [(bY K b).mul_one,(bY K b).mul_zero,(bY K b).add_zero]⟩;obtain ⟨t',ht'⟩:=hm ((bY K b).sub cY (cc y)) ⟨(bY K b).zero,(bY K b).one,trivial,trivial,by rw [(bY K b).mul_one,(bY K b).mul_zero,(bY K b).zero_add]⟩;have hX : (bY K b).sub cX (cc x) = (aV.sub pX (kC x),aV.zero):=Prod.ext rfl (by show aV.add aV.zero (aV.neg aV.zero) = _; rw [bI,aV.add_zero]);have hXn : (bY K b).sub cX (cc x) ≠ (bY K b).zero:=fun q => aDs (IE (K:=K) F x) (congrArg Prod.fst q)
 have hf0 : f ≠ (bY K b).zero:=fun q => hXn (by rw [ht,q,(bY K b).zero_mul])
 have ht0 : t ≠ (bY K b).zero:=fun q => hXn (by rw [ht,q,(bY K b).mul_zero])
 obtain ⟨n,hn,n1⟩:=PY b F f hf0;obtain ⟨m,hm',m1⟩:=PY b F t ht0;have hnm : n + m = 2:=by
  have e3:=iK F hn hm';rw [← PX,← ht,hX] at e3;have e4 : nrm b (aV.sub pX (kC x),aV.zero) = aV.mul (aV.sub pX (kC x)) (aV.sub (pX : Pol K) (kC x)):=by
   show aV.add (aV.mul _ _) (aV.neg (aV.mul _ (aV.mul aV.zero aV.zero))) = _;rw [aV.mul_zero,aV.mul_zero,bI,aV.add_zero]
  rw [e4] at e3;exact aDr e3 (iK F (IE F x) (IE F x))
 have hc : ∀ p : Pol K,dg p 0 → p = kC (p.1 0):=fun p hp => Pol.ext fun i => by
  cases i with
  | zero => rfl
  | succ i => exact hp.2 _ (by omega)
 have h02 : n = 0 ∨ m = 0:=by omega
 rcases h02 with q0 | q0
 ·subst q0;obtain ⟨s,r,_,_,e5⟩:=(aAH (kI (bY K b)) (cc x) (cc y)).mul f (f.1,aV.neg f.2) hf;rw [(bY K b).mul_comm,Ab,hX] at e5;have c1 : nrm b f = aV.add (aV.add (aV.mul (aV.sub pX (kC x)) s.1) (aV.mul (qP b) (aV.mul aV.zero s.2))) (aV.add (aV.mul (aV.add aV.zero (aV.neg (kC y))) r.1) (aV.mul (qP b) (aV.mul (aV.add aV.one (aV.neg aV.zero)) r.2))):=congrArg Prod.fst e5;have c2 : aV.zero = aV.add (aV.add (aV.mul (aV.sub pX (kC x)) s.2) (aV.mul aV.zero s.1)) (aV.add (aV.mul (aV.add aV.zero (aV.neg (kC y))) r.2) (aV.mul (aV.add aV.one (aV.neg aV.zero)) r.1)):=congrArg Prod.snd e5;have hs:=Zr b h;refine hn.1 (MG F (c:=x) (h:=(aV.add s.1 (aV.add (aV.mul (aV.add (aV.mul pX pX) (aV.add (aV.mul (kC x) pX) (aV.mul (kC x) (kC x)))) r.2) (aV.mul (kC y) s.2)))) ?_);rw [← hc _ hn,c1];refine Eq.symm ?_;exact jP (K:=aV) (c1:=(kC y)) (c2:=r.2) c2 hs (aE aV (aQ aV [pX,kC x,s.1,qP b,s.2,kC y,r.1,r.2]) (.add (.add (.add (.mul (.add (.v 0) (.neg (.v 1))) (.v 2)) (.mul (.v 3) (.mul .zero (.v 4)))) (.add (.mul (.add .zero (.neg (.v 5))) (.v 6)) (.mul (.v 3) (.mul (.add .one (.neg .zero)) (.v 7))))) (.neg (.mul (.add (.v 0) (.neg (.v 1))) (.add (.v 2) (.add (.mul (.add (.mul (.v 0) (.v 0)) (.add (.mul (.v 1) (.v 0)) (.mul (.v 1) (.v 1)))) (.v 7)) (.mul (.v 5) (.v 4))))))) (.add (.mul (.v 5) (.add .zero (.neg (.add (.add (.mul (.add (.v 0) (.neg (.v 1))) (.v 4)) (.mul .zero (.v 2))) (.add (.mul (.add .zero (.neg (.v 5))) (.v 7)) (.mul (.add .one (.neg .zero)) (.v 6))))))) (.mul (.v 7) (.add (.v 3) (.neg (.add (.mul (.v 5) (.v 5)) (.mul (.add (.v 0) (.neg (.v 1))) (.add (.mul (.v 0) (.v 0)) (.add (.mul (.v 1) (.v 0)) (.mul (.v 1) (.v 1)))))))))) (by kernel_rfl))
 ·subst q0;have e6 : (bY K b).mul ((bY K b).sub cX (cc x)) ((bY K b).mul t' (t.1,aV.neg t.2)) = (bY K b).mul ((bY K b).sub cY (cc y)) (nrm b t,aV.zero):=by
   rw [← Ab,ht,ht'];generalize ((t.1,aV.neg t.2) : Pol K × Pol K) = w;exact aE (bY K b) (aQ (bY K b) [f,t,t',w]) (.mul (.mul (.v 0) (.v 1)) (.mul (.v 2) (.v 3))) (.mul (.mul (.v 0) (.v 2)) (.mul (.v 1) (.v 3))) (by kernel_rfl)
  rw [hX] at e6;generalize (bY K b).mul t' (t.1,aV.neg t.2) = w at e6;have c2 : aV.add (aV.mul (aV.sub pX (kC x)) w.2) (aV.mul aV.zero w.1) = aV.add (aV.mul (aV.add aV.zero (aV.neg (kC y))) aV.zero) (aV.mul (aV.add aV.one (aV.neg aV.zero)) (nrm b t)):=congrArg Prod.snd e6;rw [aV.zero_mul,aV.add_zero,aV.mul_zero,aV.zero_add,bI,aV.add_zero,aV.one_mul,hc _ hm'] at c2;exact hm'.1 (MG F c2)
end
structure EC {R : Type} (K : CR R) (inv : R → R) (b : R) : Prop where
 F : FD K inv
 two : K.add K.one K.one ≠ K.zero
 odd : ∀ x,K.add (K.mul x (K.mul x x)) b ≠ K.zero
section
variable {R : Type} (K : CR R) (inv : R → R) (b : R)
abbrev Pt (R : Type):=Option (R × R)
def On : Pt R → Prop
 | none => True
 | some p => K.mul p.2 p.2 = K.add (K.mul p.1 (K.mul p.1 p.1)) b
def KY : Pt R → Pt R
 | none => none
 | some p => some (p.1,K.neg p.2)
def dD (x1 y1 x2 y2 : R) : R :=
 if x1 = x2 then K.mul (K.add (K.add (K.mul x1 x1) (K.mul x1 x1)) (K.mul x1 x1)) (inv (K.add y1 y2)) else K.mul (K.sub y2 y1) (inv (K.sub x2 x1))
def sx (l x1 x2 : R) : R:=K.sub (K.sub (K.mul l l) x1) x2
def sy (l x1 y1 x2 : R) : R:=K.sub (K.mul l (K.sub x1 (sx K l x1 x2))) y1
def hJ : Pt R → Pt R → Pt R
 | none,q => q
 | some p,none => some p
 | some p,some q =>
  if p.1 = q.1 ∧ K.add p.2 q.2 = K.zero then none
  else some (sx K (dD K inv p.1 p.2 q.1 q.2) p.1 q.1,sy K (dD K inv p.1 p.2 q.1 q.2) p.1 p.2 q.1)
variable {K} {inv} {b}
theorem kB {p q : R × R} (h : p.1 = q.1 ∧ K.add p.2 q.2 = K.zero) : hJ K inv (some p) (some q) = none:=if_pos h
theorem jC {p q : R × R} (h : ¬ (p.1 = q.1 ∧ K.add p.2 q.2 = K.zero)) : hJ K inv (some p) (some q) = some (sx K (dD K inv p.1 p.2 q.1 q.2) p.1 q.1,sy K (dD K inv p.1 p.2 q.1 q.2) p.1 p.2 q.1):=if_neg h
theorem iO {x y : R} (h : K.sub x y = K.zero) : x = y:=mE h
theorem OF {x y : R} (h : x ≠ y) : K.sub x y ≠ K.zero:=fun e => h (iO e)
theorem EC.dbl_ne (E : EC K inv b) {y : R} (h : y ≠ K.zero) : K.add y y ≠ K.zero:=fun e => by
 refine E.F.mul_ne E.two h ?_;rw [K.add_mul,K.one_mul,e]
theorem EC.y_ne (E : EC K inv b) {x y : R} (h : K.mul y y = K.add (K.mul x (K.mul x x)) b) : y ≠ K.zero:=fun e => by
 rw [e,K.mul_zero] at h;exact E.odd x h.symm
structure Slope (K : CR R) (x1 y1 x2 y2 l : R) : Prop where
 h1 : y2 = K.add y1 (K.mul l (K.sub x2 x1))
 h2 : K.mul l (K.add y1 y2) = K.add (K.add (K.mul x1 x1) (K.mul x1 x2)) (K.mul x2 x2)
 hk : (∃ k,K.mul k (K.add y1 y2) = K.one) ∨ (∃ k,K.mul k (K.sub x2 x1) = K.one)
theorem wK (E : EC K inv b) {x1 y1 x2 y2 : R} (hp : K.mul y1 y1 = K.add (K.mul x1 (K.mul x1 x1)) b) (hq : K.mul y2 y2 = K.add (K.mul x2 (K.mul x2 x2)) b) (hn : ¬ (x1 = x2 ∧ K.add y1 y2 = K.zero)) : Slope K x1 y1 x2 y2 (dD K inv x1 y1 x2 y2):=by
 unfold dD
 by_cases hx : x1 = x2
 ·subst hx;rw [if_pos rfl];have hy : K.add y1 y2 ≠ K.zero:=fun e => hn ⟨rfl,e⟩
  have hi:=E.F.inv _ hy;have e : y1 = y2:=by
   refine iO (K:=K) (E.F.zd (a:=K.add y1 y2) ?_ hy);have e0 : K.mul (K.add y1 y2) (K.sub y1 y2) = K.sub (K.mul y1 y1) (K.mul y2 y2):=aE K (aQ K [y1,y2]) (.mul (.add (.v 0) (.v 1)) (.add (.v 0) (.neg (.v 1)))) (.add (.mul (.v 0) (.v 0)) (.neg (.mul (.v 1) (.v 1)))) (by kernel_rfl);rw [e0,hp,hq];exact K.add_neg _
  subst e;generalize inv (K.add y1 y1) = k at hi;refine ⟨aE K (aQ K [y1,x1,k]) (.v 0) (.add (.v 0) (.mul (.mul (.add (.add (.mul (.v 1) (.v 1)) (.mul (.v 1) (.v 1))) (.mul (.v 1) (.v 1))) (.v 2)) (.add (.v 1) (.neg (.v 1))))) (by kernel_rfl),gQ (K:=K) (c1:=(K.add (K.add (K.mul x1 x1) (K.mul x1 x1)) (K.mul x1 x1))) hi (aE K (aQ K [x1,k,y1]) (.add (.mul (.mul (.add (.add (.mul (.v 0) (.v 0)) (.mul (.v 0) (.v 0))) (.mul (.v 0) (.v 0))) (.v 1)) (.add (.v 2) (.v 2))) (.neg (.add (.add (.mul (.v 0) (.v 0)) (.mul (.v 0) (.v 0))) (.mul (.v 0) (.v 0))))) (.mul (.add (.add (.mul (.v 0) (.v 0)) (.mul (.v 0) (.v 0))) (.mul (.v 0) (.v 0))) (.add (.mul (.add (.v 2) (.v 2)) (.v 1)) (.neg .one))) (by kernel_rfl)),Or.inl ⟨k,by rw [K.mul_comm,hi]⟩⟩
 ·rw [if_neg hx];have hd : K.sub x2 x1 ≠ K.zero:=OF fun e => hx e.symm
  have hi:=E.F.inv _ hd;generalize inv (K.sub x2 x1) = k at hi;refine ⟨gQ (K:=K) (c1:=(K.neg (K.sub y2 y1))) hi (aE K (aQ K [y2,y1,k,x2,x1]) (.add (.v 0) (.neg (.add (.v 1) (.mul (.mul (.add (.v 0) (.neg (.v 1))) (.v 2)) (.add (.v 3) (.neg (.v 4))))))) (.mul (.neg (.add (.v 0) (.neg (.v 1)))) (.add (.mul (.add (.v 3) (.neg (.v 4))) (.v 2)) (.neg .one))) (by kernel_rfl)),?_,Or.inr ⟨k,by rw [K.mul_comm,hi]⟩⟩;refine E.F.cancel hd ?_;exact Ac (K:=K) (c1:=(K.mul (K.sub y2 y1) (K.add y1 y2))) (c2:=(K.neg K.one)) (c3:=K.one) hi hp hq (aE K (aQ K [x2,x1,y2,y1,k,b]) (.add (.mul (.add (.v 0) (.neg (.v 1))) (.mul (.mul (.add (.v 2) (.neg (.v 3))) (.v 4)) (.add (.v 3) (.v 2)))) (.neg (.mul (.add (.v 0) (.neg (.v 1))) (.add (.add (.mul (.v 1) (.v 1)) (.mul (.v 1) (.v 0))) (.mul (.v 0) (.v 0)))))) (.add (.add (.mul (.mul (.add (.v 2) (.neg (.v 3))) (.add (.v 3) (.v 2))) (.add (.mul (.add (.v 0) (.neg (.v 1))) (.v 4)) (.neg .one))) (.mul (.neg .one) (.add (.mul (.v 3) (.v 3)) (.neg (.add (.mul (.v 1) (.mul (.v 1) (.v 1))) (.v 5)))))) (.mul .one (.add (.mul (.v 2) (.v 2)) (.neg (.add (.mul (.v 0) (.mul (.v 0) (.v 0))) (.v 5)))))) (by kernel_rfl))
theorem On.sum {x1 y1 x2 y2 l : R} (hp : K.mul y1 y1 = K.add (K.mul x1 (K.mul x1 x1)) b) (h : Slope K x1 y1 x2 y2 l) : On K b (some (sx K l x1 x2,sy K l x1 y1 x2)):=by
 obtain ⟨h1,h2,_⟩:=h;subst h1;show K.mul (K.sub (K.mul l (K.sub x1 (K.sub (K.sub (K.mul l l) x1) x2))) y1) (K.sub (K.mul l (K.sub x1 (K.sub (K.sub (K.mul l l) x1) x2))) y1) = K.add (K.mul (K.sub (K.sub (K.mul l l) x1) x2) (K.mul (K.sub (K.sub (K.mul l l) x1) x2) (K.sub (K.sub (K.mul l l) x1) x2))) b;exact jP (K:=K) (c1:=K.one) (c2:=(K.sub (K.sub (K.sub (K.mul l l) x1) x2) x1)) hp h2 (aE K (aQ K [l,x1,x2,y1,b]) (.add (.mul (.add (.mul (.v 0) (.add (.v 1) (.neg (.add (.add (.mul (.v 0) (.v 0)) (.neg (.v 1))) (.neg (.v 2)))))) (.neg (.v 3))) (.add (.mul (.v 0) (.add (.v 1) (.neg (.add (.add (.mul (.v 0) (.v 0)) (.neg (.v 1))) (.neg (.v 2)))))) (.neg (.v 3)))) (.neg (.add (.mul (.add (.add (.mul (.v 0) (.v 0)) (.neg (.v 1))) (.neg (.v 2))) (.mul (.add (.add (.mul (.v 0) (.v 0)) (.neg (.v 1))) (.neg (.v 2))) (.add (.add (.mul (.v 0) (.v 0)) (.neg (.v 1))) (.neg (.v 2))))) (.v 4)))) (.add (.mul .one (.add (.mul (.v 3) (.v 3)) (.neg (.add (.mul (.v 1) (.mul (.v 1) (.v 1))) (.v 4))))) (.mul (.add (.add (.add (.mul (.v 0) (.v 0)) (.neg (.v 1))) (.neg (.v 2))) (.neg (.v 1))) (.add (.mul (.v 0) (.add (.v 3) (.add (.v 3) (.mul (.v 0) (.add (.v 2) (.neg (.v 1))))))) (.neg (.add (.add (.mul (.v 1) (.v 1)) (.mul (.v 1) (.v 2))) (.mul (.v 2) (.v 2))))))) (by kernel_rfl))
theorem On.neg : ∀ {p : Pt R},On K b p → On K b (KY K p)
 | none,_ => trivial
 | some p,h => by
  show K.mul (K.neg p.2) (K.neg p.2) = _;rw [K.neg_mul,K.mul_neg,K.neg_neg];exact h
theorem On.add (E : EC K inv b) : ∀ {p q : Pt R},On K b p → On K b q → On K b (hJ K inv p q)
 | none,_,_,h => h
 | some _,none,h,_ => h
 | some p,some q,hp,hq => by
  by_cases hn : p.1 = q.1 ∧ K.add p.2 q.2 = K.zero
  ·rw [kB hn]; trivial
  ·rw [jC hn];exact On.sum hp (wK E hp hq hn)
def opP (K : CR R) (b : R) (p : Pt R) (S : Pol K × Pol K → Prop) : Pol K × Pol K → Prop :=
 match p with
 | none => S
 | some p => op (bY K b) cX cY (cc p.1) (cc p.2) S
theorem XW (p q : Pt R) (S : Pol K × Pol K → Prop) : opP K b p (opP K b q S) = opP K b q (opP K b p S):=by
 cases p with
 | none => rfl
 | some p => cases q with
  | none => rfl
  | some q => exact aHa _ _ _ _
theorem Jx {S : Pol K × Pol K → Prop} (h : Idl (bY K b) S) (p : Pt R) : Idl (bY K b) (opP K b p S):=by
 cases p with
 | none => exact h
 | some p => exact aAH h _ _
theorem Jy {S T : Pol K × Pol K → Prop} (h : Eqv (bY K b) S T) (p : Pt R) : Eqv (bY K b) (opP K b p S) (opP K b p T):=by
 cases p with
 | none => exact h
 | some p => exact h.op _ _
theorem aJu (F : FD K inv) (c : R) : (bY K b).sub cX (cc c) ≠ (bY K b).zero:=fun q => aDs (IE (K:=K) F c) (congrArg Prod.fst q)
theorem aDi (F : FD K inv) (x1 y1 l : R) : (bY K b).sub ((bY K b).sub cY (cc y1)) ((bY K b).mul (cc l) ((bY K b).sub cX (cc x1))) ≠ (bY K b).zero:=fun q => by
 have e : K.add (K.add K.one (K.neg K.zero)) (K.neg (K.add (K.mul l (K.add K.zero (K.neg K.zero))) (K.mul K.zero (K.add K.zero (K.neg x1))))) = K.zero:=congrArg (fun z : Pol K × Pol K => z.2.1 0) q;rw [bI,K.add_zero,K.add_zero,K.mul_zero,K.zero_mul,K.add_zero,bI,K.add_zero] at e;exact F.ne e
theorem nO (E : EC K inv b) {S : Pol K × Pol K → Prop} (hS : Idl (bY K b) S) : ∀ {p q : Pt R},On K b p → On K b q → Eqv (bY K b) (opP K b p (opP K b q S)) (opP K b (hJ K inv p q) S)
 | none,_,_,_ => Eqv.refl (jH b E.F) _
 | some _,none,_,_ => Eqv.refl (jH b E.F) _
 | some ⟨x1,y1⟩,some ⟨x2,y2⟩,hp,hq => by
  by_cases hn : x1 = x2 ∧ K.add y1 y2 = K.zero
  ·rw [kB hn];obtain ⟨rfl,hy⟩:=hn;have e : y2 = K.neg y1:=by
    apply K.add_cancel (a:=y1);rw [hy,K.add_neg]
   subst e;show Eqv (bY K b) (op (bY K b) cX cY (cc x1) (cc y1) (op (bY K b) cX cY (cc x1) (cc (K.neg y1)) S)) S;have h0:=E.F.inv _ (E.dbl_ne (E.y_ne hp));rw [Gt b];refine aNU (b:=cc b) (k:=cc (inv (K.add y1 y1))) (aJb b) ?_ ?_ (jH b E.F) (aJu E.F x1) hS
   ·rw [← fT,← fT,← fT,← iM];exact congrArg cc hp
   ·rw [← iM,← fT,K.mul_comm,h0];rfl
  ·rw [jC hn];have h:=wK E hp hq hn;dsimp only at h ⊢;generalize dD K inv x1 y1 x2 y2 = l at h;obtain ⟨h1,h2,hk⟩:=h;subst h1;show Eqv (bY K b) (op (bY K b) cX cY (cc x1) (cc y1) (op (bY K b) cX cY (cc x2) (cc (K.add y1 (K.mul l (K.sub x2 x1)))) S)) (op (bY K b) cX cY (cc (sx K l x1 x2)) (cc (sy K l x1 y1 x2)) S);unfold sy sx;have hX:=aJu (K:=K) (b:=b) E.F (sx K l x1 x2);have hl:=aDi (K:=K) (b:=b) E.F x1 y1 l;unfold sx at hX;simp only [iM b,fT b,oF b] at hX ⊢;refine aNT (b:=cc b) (aJb b) ?_ ?_ ?_ hX hl hS
   ·have:=congrArg (cc (K:=K)) h2;simpa only [iM b,fT b,oF b] using this
   ·have:=congrArg (cc (K:=K)) hp;simpa only [iM b,fT b,oF b] using this
   ·rcases hk with ⟨k,hk⟩ | ⟨k,hk⟩
    ·refine Or.inl ⟨cc k,?_⟩;have:=congrArg (cc (K:=K)) hk;simpa only [iM b,fT b,oF b,SB b] using this
    ·refine Or.inr ⟨cc k,?_⟩;have:=congrArg (cc (K:=K)) hk;simpa only [iM b,fT b,oF b,SB b] using this
theorem CP (p : Pt R) : hJ K inv (KY K p) p = none:=by
 cases p with
 | none => rfl
 | some p => exact if_pos ⟨rfl,K.neg_add _⟩
theorem Zu {p q : Pt R} (h : hJ K inv (KY K p) q = none) : q = p:=by
 cases p with
 | none => exact h
 | some p => cases q with
  | none => cases h
  | some q =>
   by_cases hh : p.1 = q.1 ∧ K.add (K.neg p.2) q.2 = K.zero
   ·obtain ⟨h1,h2⟩:=hh;refine congrArg some (Prod.ext h1.symm ?_);apply K.add_cancel (a:=K.neg p.2);exact h2.trans (K.neg_add p.2).symm
   ·have e : hJ K inv (KY K (some p)) (some q) = some _:=jC (p:=(p.1,K.neg p.2)) (q:=q) hh;rw [e] at h;cases h
theorem aNV (E : EC K inv b) {p : Pt R} (hp : On K b p) (h : Eqv (bY K b) (opP K b p TX) TX) : p = none:=by
 cases p with
 | none => rfl
 | some p => exact absurd h (aTX b E.F hp)
theorem Jw (E : EC K inv b) {p q : Pt R} (hp : On K b p) (hq : On K b q) (h : Eqv (bY K b) (opP K b p TX) (opP K b q TX)) : p = q:=by
 have D:=jH (K:=K) b E.F;have h1:=Jy h (KY K q);have a1:=nO E (kI (bY K b)) hq.neg hp;have a2:=nO E (kI (bY K b)) hq.neg hq;rw [CP] at a2;exact Zu (aNV E (hq.neg.add E hp) (a1.symm.trans D (h1.trans D a2)))
theorem WY (E : EC K inv b) {p q : Pt R} (hp : On K b p) (hq : On K b q) : hJ K inv p q = hJ K inv q p:=by
 have D:=jH (K:=K) b E.F;refine Jw E (hp.add E hq) (hq.add E hp) ?_;refine (nO E (kI (bY K b)) hp hq).symm.trans D ?_;rw [XW];exact nO E (kI (bY K b)) hq hp
theorem KZ (E : EC K inv b) {p q r : Pt R} (hp : On K b p) (hq : On K b q) (hr : On K b r) : hJ K inv (hJ K inv p q) r = hJ K inv p (hJ K inv q r):=by
 have D:=jH (K:=K) b E.F;have hu:=kI (bY K b);refine Jw E ((hp.add E hq).add E hr) (hp.add E (hq.add E hr)) ?_;refine (nO E hu (hp.add E hq) hr).symm.trans D ?_;refine (nO E (Jx hu r) hp hq).symm.trans D ?_;refine (Jy (nO E hu hq hr) p).trans D ?_;exact nO E hu hp (hq.add E hr)
end
structure AG (G : Type) where
 add : G → G → G
 neg : G → G
 zero : G
 assoc : ∀ a b c,add (add a b) c = add a (add b c)
 comm : ∀ a b,add a b = add b a
 zadd : ∀ a,add zero a = a
 nadd : ∀ a,add (neg a) a = zero
def EC.grp {R : Type} {K : CR R} {inv : R → R} {b : R} (E : EC K inv b) : AG {p : Pt R // On K b p} where
 add p q:=⟨hJ K inv p.1 q.1,p.2.add E q.2⟩
 neg p:=⟨KY K p.1,p.2.neg⟩
 zero:=⟨none,trivial⟩
 assoc p q r:=Subtype.ext (KZ E p.2 q.2 r.2)
 comm p q:=Subtype.ext (WY E p.2 q.2)
 zadd p:=rfl
 nadd p:=Subtype.ext (CP p.1)
structure Cub {R : Type} (K : CR R) (b a1 a2 a3 n c : R) : Prop where
 s1 : K.add (K.add a1 a2) a3 = K.mul n n
 s2 : K.add (K.add (K.add (K.mul a1 a2) (K.mul a1 a3)) (K.mul a2 a3)) (K.add (K.mul n c) (K.mul n c)) = K.zero
 s3 : K.add (K.mul (K.mul a1 a2) a3) b = K.mul c c
section
variable {R : Type} {K : CR R} {inv : R → R} {b : R}
theorem aQF {x1 y1 x2 y2 l : R} (hp : K.mul y1 y1 = K.add (K.mul x1 (K.mul x1 x1)) b) (h : Slope K x1 y1 x2 y2 l) : Cub K b x1 x2 (sx K l x1 x2) l (K.sub y1 (K.mul l x1)):=by
 obtain ⟨h1,h2,_⟩:=h;subst h1;unfold sx;exact ⟨aE K (aQ K [x1,y1,x2,l,b]) (.add (.add (.v 0) (.v 2)) (.add (.add (.mul (.v 3) (.v 3)) (.neg (.v 0))) (.neg (.v 2)))) (.mul (.v 3) (.v 3)) (by kernel_rfl),gQ (K:=K) (c1:=K.one) h2 (aE K (aQ K [x1,y1,x2,l,b]) (.add (.add (.add (.add (.mul (.v 0) (.v 2)) (.mul (.v 0) (.add (.add (.mul (.v 3) (.v 3)) (.neg (.v 0))) (.neg (.v 2))))) (.mul (.v 2) (.add (.add (.mul (.v 3) (.v 3)) (.neg (.v 0))) (.neg (.v 2))))) (.add (.mul (.v 3) (.add (.v 1) (.neg (.mul (.v 3) (.v 0))))) (.mul (.v 3) (.add (.v 1) (.neg (.mul (.v 3) (.v 0))))))) (.neg .zero)) (.mul .one (.add (.mul (.v 3) (.add (.v 1) (.add (.v 1) (.mul (.v 3) (.add (.v 2) (.neg (.v 0))))))) (.neg (.add (.add (.mul (.v 0) (.v 0)) (.mul (.v 0) (.v 2))) (.mul (.v 2) (.v 2)))))) (by kernel_rfl)),jP (K:=K) (c1:=(K.neg K.one)) (c2:=x1) hp h2 (aE K (aQ K [x1,y1,x2,l,b]) (.add (.add (.mul (.mul (.v 0) (.v 2)) (.add (.add (.mul (.v 3) (.v 3)) (.neg (.v 0))) (.neg (.v 2)))) (.v 4)) (.neg (.mul (.add (.v 1) (.neg (.mul (.v 3) (.v 0)))) (.add (.v 1) (.neg (.mul (.v 3) (.v 0))))))) (.add (.mul (.neg .one) (.add (.mul (.v 1) (.v 1)) (.neg (.add (.mul (.v 0) (.mul (.v 0) (.v 0))) (.v 4))))) (.mul (.v 0) (.add (.mul (.v 3) (.add (.v 1) (.add (.v 1) (.mul (.v 3) (.add (.v 2) (.neg (.v 0))))))) (.neg (.add (.add (.mul (.v 0) (.v 0)) (.mul (.v 0) (.v 2))) (.mul (.v 2) (.v 2))))))) (by kernel_rfl))⟩
theorem Nf {a1 a2 a3 n c : R} (h : Cub K b a1 a2 a3 n c) (u v : R) : (K.mul (K.add (K.mul u a1) v) (K.mul (K.add (K.mul u a2) v) (K.add (K.mul u a3) v))) = (K.add (K.add (K.sub (K.mul (K.mul (K.mul u u) u) (K.sub (K.mul c c) b)) (K.mul (K.mul (K.mul u u) v) (K.add (K.mul n c) (K.mul n c)))) (K.mul (K.mul (K.mul u v) v) (K.mul n n))) (K.mul (K.mul v v) v)) :=
 Ac (K:=K) (c1:=(K.mul (K.mul u v) v)) (c2:=(K.mul (K.mul u u) v)) (c3:=(K.mul (K.mul u u) u)) h.s1 h.s2 h.s3 (aE K (aQ K [a1,a2,a3,n,c,u,v,b]) (.add (.mul (.add (.mul (.v 5) (.v 0)) (.v 6)) (.mul (.add (.mul (.v 5) (.v 1)) (.v 6)) (.add (.mul (.v 5) (.v 2)) (.v 6)))) (.neg (.add (.add (.add (.mul (.mul (.mul (.v 5) (.v 5)) (.v 5)) (.add (.mul (.v 4) (.v 4)) (.neg (.v 7)))) (.neg (.mul (.mul (.mul (.v 5) (.v 5)) (.v 6)) (.add (.mul (.v 3) (.v 4)) (.mul (.v 3) (.v 4)))))) (.mul (.mul (.mul (.v 5) (.v 6)) (.v 6)) (.mul (.v 3) (.v 3)))) (.mul (.mul (.v 6) (.v 6)) (.v 6))))) (.add (.add (.mul (.mul (.mul (.v 5) (.v 6)) (.v 6)) (.add (.add (.add (.v 0) (.v 1)) (.v 2)) (.neg (.mul (.v 3) (.v 3))))) (.mul (.mul (.mul (.v 5) (.v 5)) (.v 6)) (.add (.add (.add (.add (.mul (.v 0) (.v 1)) (.mul (.v 0) (.v 2))) (.mul (.v 1) (.v 2))) (.add (.mul (.v 3) (.v 4)) (.mul (.v 3) (.v 4)))) (.neg .zero)))) (.mul (.mul (.mul (.v 5) (.v 5)) (.v 5)) (.add (.add (.mul (.mul (.v 0) (.v 1)) (.v 2)) (.v 7)) (.neg (.mul (.v 4) (.v 4)))))) (by kernel_rfl))
theorem aDR (n c m d : R) : (K.add (K.add (K.sub (K.mul (K.mul (K.mul (K.sub n m) (K.sub n m)) (K.sub n m)) (K.sub (K.mul c c) b)) (K.mul (K.mul (K.mul (K.sub n m) (K.sub n m)) (K.sub c d)) (K.add (K.mul n c) (K.mul n c)))) (K.mul (K.mul (K.mul (K.sub n m) (K.sub c d)) (K.sub c d)) (K.mul n n))) (K.mul (K.mul (K.sub c d) (K.sub c d)) (K.sub c d))) = (K.add (K.add (K.sub (K.mul (K.mul (K.mul (K.sub n m) (K.sub n m)) (K.sub n m)) (K.sub (K.mul d d) b)) (K.mul (K.mul (K.mul (K.sub n m) (K.sub n m)) (K.sub c d)) (K.add (K.mul m d) (K.mul m d)))) (K.mul (K.mul (K.mul (K.sub n m) (K.sub c d)) (K.sub c d)) (K.mul m m))) (K.mul (K.mul (K.sub c d) (K.sub c d)) (K.sub c d))) :=
 aE K (aQ K [n,c,m,d,b]) (.add (.add (.add (.mul (.mul (.mul (.add (.v 0) (.neg (.v 2))) (.add (.v 0) (.neg (.v 2)))) (.add (.v 0) (.neg (.v 2)))) (.add (.mul (.v 1) (.v 1)) (.neg (.v 4)))) (.neg (.mul (.mul (.mul (.add (.v 0) (.neg (.v 2))) (.add (.v 0) (.neg (.v 2)))) (.add (.v 1) (.neg (.v 3)))) (.add (.mul (.v 0) (.v 1)) (.mul (.v 0) (.v 1)))))) (.mul (.mul (.mul (.add (.v 0) (.neg (.v 2))) (.add (.v 1) (.neg (.v 3)))) (.add (.v 1) (.neg (.v 3)))) (.mul (.v 0) (.v 0)))) (.mul (.mul (.add (.v 1) (.neg (.v 3))) (.add (.v 1) (.neg (.v 3)))) (.add (.v 1) (.neg (.v 3))))) (.add (.add (.add (.mul (.mul (.mul (.add (.v 0) (.neg (.v 2))) (.add (.v 0) (.neg (.v 2)))) (.add (.v 0) (.neg (.v 2)))) (.add (.mul (.v 3) (.v 3)) (.neg (.v 4)))) (.neg (.mul (.mul (.mul (.add (.v 0) (.neg (.v 2))) (.add (.v 0) (.neg (.v 2)))) (.add (.v 1) (.neg (.v 3)))) (.add (.mul (.v 2) (.v 3)) (.mul (.v 2) (.v 3)))))) (.mul (.mul (.mul (.add (.v 0) (.neg (.v 2))) (.add (.v 1) (.neg (.v 3)))) (.add (.v 1) (.neg (.v 3)))) (.mul (.v 2) (.v 2)))) (.mul (.mul (.add (.v 1) (.neg (.v 3))) (.add (.v 1) (.neg (.v 3)))) (.add (.v 1) (.neg (.v 3))))) (by kernel_rfl)
theorem aBM (a n c m d : R) : (K.sub (K.add (K.mul n a) c) (K.add (K.mul m a) d)) = (K.add (K.mul (K.sub n m) a) (K.sub c d)):=aE K (aQ K [a,n,c,m,d]) (.add (.add (.mul (.v 1) (.v 0)) (.v 2)) (.neg (.add (.mul (.v 3) (.v 0)) (.v 4)))) (.add (.mul (.add (.v 1) (.neg (.v 3))) (.v 0)) (.add (.v 2) (.neg (.v 4)))) (by kernel_rfl)
theorem aBJ (a n c m d : R) : (K.sub (K.add (K.mul m a) d) (K.add (K.mul n a) c)) = (K.neg (K.add (K.mul (K.sub n m) a) (K.sub c d))):=aE K (aQ K [a,n,c,m,d]) (.add (.add (.mul (.v 3) (.v 0)) (.v 4)) (.neg (.add (.mul (.v 1) (.v 0)) (.v 2)))) (.neg (.add (.mul (.add (.v 1) (.neg (.v 3))) (.v 0)) (.add (.v 2) (.neg (.v 4))))) (by kernel_rfl)
theorem aXZ (p q r : R) : (K.neg (K.mul (K.neg p) (K.mul (K.neg q) (K.neg r)))) = (K.mul p (K.mul q r)):=aE K (aQ K [p,q,r]) (.neg (.mul (.neg (.v 0)) (.mul (.neg (.v 1)) (.neg (.v 2))))) (.mul (.v 0) (.mul (.v 1) (.v 2))) (by kernel_rfl)
theorem aTw {a1 a2 a3 n c x1 x2 x3 m d : R} (h : Cub K b a1 a2 a3 n c) (g : Cub K b x1 x2 x3 m d) :
  K.mul (K.sub (K.add (K.mul n a1) c) (K.add (K.mul m a1) d)) (K.mul (K.sub (K.add (K.mul n a2) c) (K.add (K.mul m a2) d)) (K.sub (K.add (K.mul n a3) c) (K.add (K.mul m a3) d))) =
  K.neg (K.mul (K.sub (K.add (K.mul m x1) d) (K.add (K.mul n x1) c)) (K.mul (K.sub (K.add (K.mul m x2) d) (K.add (K.mul n x2) c)) (K.sub (K.add (K.mul m x3) d) (K.add (K.mul n x3) c)))):=by
 rw [aBM,aBM,aBM,aBJ,aBJ,aBJ,aXZ,Nf h,Nf g,aDR]
theorem aST {a1 a2 a3 n c x y : R} (h : Cub K b a1 a2 a3 n c) (hp : K.mul y y = K.add (K.mul x (K.mul x x)) b) : (K.mul (K.sub y (K.add (K.mul n x) c)) (K.sub (K.neg y) (K.add (K.mul n x) c))) = (K.neg (K.mul (K.sub x a1) (K.mul (K.sub x a2) (K.sub x a3)))) :=
 aDA (K:=K) (c1:=(K.neg K.one)) (c2:=(K.neg (K.mul x x))) (c3:=x) (c4:=(K.neg K.one)) hp h.s1 h.s2 h.s3 (aE K (aQ K [a1,a2,a3,n,c,x,y,b]) (.add (.mul (.add (.v 6) (.neg (.add (.mul (.v 3) (.v 5)) (.v 4)))) (.add (.neg (.v 6)) (.neg (.add (.mul (.v 3) (.v 5)) (.v 4))))) (.neg (.neg (.mul (.add (.v 5) (.neg (.v 0))) (.mul (.add (.v 5) (.neg (.v 1))) (.add (.v 5) (.neg (.v 2)))))))) (.add (.add (.add (.mul (.neg .one) (.add (.mul (.v 6) (.v 6)) (.neg (.add (.mul (.v 5) (.mul (.v 5) (.v 5))) (.v 7))))) (.mul (.neg (.mul (.v 5) (.v 5))) (.add (.add (.add (.v 0) (.v 1)) (.v 2)) (.neg (.mul (.v 3) (.v 3)))))) (.mul (.v 5) (.add (.add (.add (.add (.mul (.v 0) (.v 1)) (.mul (.v 0) (.v 2))) (.mul (.v 1) (.v 2))) (.add (.mul (.v 3) (.v 4)) (.mul (.v 3) (.v 4)))) (.neg .zero)))) (.mul (.neg .one) (.add (.add (.mul (.mul (.v 0) (.v 1)) (.v 2)) (.v 7)) (.neg (.mul (.v 4) (.v 4)))))) (by kernel_rfl))
theorem Cub.scale {a1 a2 a3 n c : R} (h : Cub K b a1 a2 a3 n c) (t : R) : Cub K (K.mul b (K.mul (K.mul (K.mul t t) t) (K.mul (K.mul t t) t))) (K.mul a1 (K.mul t t)) (K.mul a2 (K.mul t t)) (K.mul a3 (K.mul t t)) (K.mul n t) (K.mul c (K.mul (K.mul t t) t)) :=
 ⟨gQ (K:=K) (c1:=(K.mul t t)) h.s1 (aE K (aQ K [a1,a2,a3,n,c,b,t]) (.add (.add (.add (.mul (.v 0) (.mul (.v 6) (.v 6))) (.mul (.v 1) (.mul (.v 6) (.v 6)))) (.mul (.v 2) (.mul (.v 6) (.v 6)))) (.neg (.mul (.mul (.v 3) (.v 6)) (.mul (.v 3) (.v 6))))) (.mul (.mul (.v 6) (.v 6)) (.add (.add (.add (.v 0) (.v 1)) (.v 2)) (.neg (.mul (.v 3) (.v 3))))) (by kernel_rfl)),
  gQ (K:=K) (c1:=(K.mul (K.mul t t) (K.mul t t))) h.s2 (aE K (aQ K [a1,a2,a3,n,c,b,t]) (.add (.add (.add (.add (.mul (.mul (.v 0) (.mul (.v 6) (.v 6))) (.mul (.v 1) (.mul (.v 6) (.v 6)))) (.mul (.mul (.v 0) (.mul (.v 6) (.v 6))) (.mul (.v 2) (.mul (.v 6) (.v 6))))) (.mul (.mul (.v 1) (.mul (.v 6) (.v 6))) (.mul (.v 2) (.mul (.v 6) (.v 6))))) (.add (.mul (.mul (.v 3) (.v 6)) (.mul (.v 4) (.mul (.mul (.v 6) (.v 6)) (.v 6)))) (.mul (.mul (.v 3) (.v 6)) (.mul (.v 4) (.mul (.mul (.v 6) (.v 6)) (.v 6)))))) (.neg .zero)) (.mul (.mul (.mul (.v 6) (.v 6)) (.mul (.v 6) (.v 6))) (.add (.add (.add (.add (.mul (.v 0) (.v 1)) (.mul (.v 0) (.v 2))) (.mul (.v 1) (.v 2))) (.add (.mul (.v 3) (.v 4)) (.mul (.v 3) (.v 4)))) (.neg .zero))) (by kernel_rfl)),
  gQ (K:=K) (c1:=(K.mul (K.mul (K.mul t t) t) (K.mul (K.mul t t) t))) h.s3 (aE K (aQ K [a1,a2,a3,n,c,b,t]) (.add (.add (.mul (.mul (.mul (.v 0) (.mul (.v 6) (.v 6))) (.mul (.v 1) (.mul (.v 6) (.v 6)))) (.mul (.v 2) (.mul (.v 6) (.v 6)))) (.mul (.v 5) (.mul (.mul (.mul (.v 6) (.v 6)) (.v 6)) (.mul (.mul (.v 6) (.v 6)) (.v 6))))) (.neg (.mul (.mul (.v 4) (.mul (.mul (.v 6) (.v 6)) (.v 6))) (.mul (.v 4) (.mul (.mul (.v 6) (.v 6)) (.v 6)))))) (.mul (.mul (.mul (.mul (.v 6) (.v 6)) (.v 6)) (.mul (.mul (.v 6) (.v 6)) (.v 6))) (.add (.add (.mul (.mul (.v 0) (.v 1)) (.v 2)) (.v 5)) (.neg (.mul (.v 4) (.v 4))))) (by kernel_rfl))⟩
end
end Go.Proofs.YtglgakbkdjhojaaGreat.Ex
namespace Go.Proofs.YtglgakbkdjhojaaGreat
open Go.Proofs.Tryz
theorem Gv {a b : Nat} (h : a ≠ b) : Nat.beq a b = false:=by cases q : Nat.beq a b with | false => rfl | true => exact absurd (Nat.eq_of_beq_eq_true q) h
def dW (q : Nat) : Prop:=1 < q ∧ ∀ m,m ∣ q → m = 1 ∨ m = q
def pm (n : Nat) : Nat → Nat → Nat → Nat
 | 0,_,_ => 1 % n
 | f + 1,b,e => bif Nat.beq e 0 then 1 % n else bif Nat.beq (e % 2) 1 then b * pm n f (b * b % n) (e / 2) % n else pm n f (b * b % n) (e / 2)
theorem AT (n : Nat) : ∀ f b e,e < 2 ^ f → pm n f b e = b ^ e % n:=by
 intro f
 induction f with
 | zero =>
  intro b e h;have : e = 0:=by omega
  subst this;simp [pm]
 | succ f ih =>
  intro b e h;rw [Nat.pow_succ] at h;unfold pm
  by_cases h0 : e = 0
  ·subst h0; simp
  ·have h0' : Nat.beq e 0 = false:=Gv h0;rw [h0'];have hi:=ih (b * b % n) (e / 2) (by omega);have hp : (b * b % n) ^ (e / 2) % n = b ^ (2 * (e / 2)) % n:=by
    rw [← Nat.pow_mod,Nat.pow_mul,Nat.pow_two]
   by_cases h1 : e % 2 = 1
   ·have h1' : Nat.beq (e % 2) 1 = true:=by rw [h1]; rfl
    rw [h1'];simp only [cond_true,cond_false];rw [hi,hp,Nat.mul_mod,Nat.mod_mod,← Nat.mul_mod,← Nat.pow_succ'];congr 2; omega
   ·have h1' : Nat.beq (e % 2) 1 = false:=Gv h1;rw [h1'];simp only [cond_false];rw [hi,hp];congr 2; omega
def Le (n : Nat) : Nat → Bool
 | 0 => true
 | k + 1 => (Nat.beq k 0 || !(Nat.beq (n % (k + 1)) 0)) && Le n k
theorem Fe (n : Nat) : ∀ k,Le n k = true → ∀ m,2 ≤ m → m ≤ k → ¬ m ∣ n:=by
 intro k
 induction k with
 | zero => intro _ m h1 h2; omega
 | succ k ih =>
  intro h m h1 h2;unfold Le at h;rw [Bool.and_eq_true] at h
  by_cases hm : m = k + 1
  ·subst hm;have hk : Nat.beq k 0 = false:=Gv (by omega);rw [hk] at h;simp at h;intro hd;rw [Nat.mod_eq_zero_of_dvd hd] at h;exact absurd h.1 (by decide)
  ·exact ih h.2 m h1 (by omega)
theorem aO (n k : Nat) (h1 : 1 < n) (hk : n < (k + 1) * (k + 1)) (h : Le n k = true) : dW n:=by
 refine ⟨h1,fun m hm => ?_⟩;have hs:=Fe n k h;obtain ⟨c,hc⟩:=hm;have hm0 : m ≠ 0:=fun e => by subst e; omega
 have hc0 : c ≠ 0:=fun e => by subst e; omega
 by_cases h2 : m = 1
 ·exact Or.inl h2
 ·by_cases h3 : c = 1
  ·subst h3; right; omega
  ·exfalso
   by_cases h4 : m ≤ k
   ·exact hs m (by omega) h4 ⟨c,hc⟩
   ·by_cases h5 : c ≤ k
    ·exact hs c (by omega) h5 ⟨m,by rw [hc,Nat.mul_comm]⟩
    ·have:=Nat.mul_le_mul (show k + 1 ≤ m by omega) (show k + 1 ≤ c by omega);omega
theorem wX : ∀ (l : List Nat) (m : Nat),m ∣ l.foldr (· * ·) 1 → 1 < m → (∀ q,q ∈ l → dW q) → ∃ q,q ∈ l ∧ q ∣ m:=by
 intro l
 induction l with
 | nil => intro m h h1 _; simp at h; omega
 | cons q l ih =>
  intro m h h1 hq;rw [List.foldr_cons] at h
  rcases (hq q List.mem_cons_self).2 (Nat.gcd m q) (Nat.gcd_dvd_right m q) with g | g
  ·have:=Nat.Coprime.dvd_of_dvd_mul_left (show Nat.Coprime m q from g) h;obtain ⟨q',h',h''⟩:=ih m this h1 (fun q' h' => hq q' (List.mem_cons_of_mem _ h'));exact ⟨q',List.mem_cons_of_mem _ h',h''⟩
  ·exact ⟨q,List.mem_cons_self,g ▸ Nat.gcd_dvd_left m q⟩
theorem iP (g a b n : Nat) : g ^ (a + b) % n = (g ^ a % n) * (g ^ b % n) % n:=by rw [Nat.pow_add,Nat.mul_mod]
theorem rZ {g o n : Nat} (h1 : 1 < n) (h : g ^ o % n = 1) (k : Nat) : g ^ (o * k) % n = 1:=by
 rw [Nat.pow_mul,Nat.pow_mod,h,Nat.one_pow,Nat.mod_eq_of_lt h1]
theorem aBQ {P : Nat → Prop} : ∀ n,P n → ∃ m,P m ∧ ∀ k,k < m → ¬ P k:=by
 intro n
 induction n using Nat.strongRecOn with
 | ind n ih =>
  intro h
  by_cases hk : ∃ k,k < n ∧ P k
  ·obtain ⟨k,h1,h2⟩:=hk; exact ih k h1 h2
  ·exact ⟨n,h,fun k h1 h2 => hk ⟨k,h1,h2⟩⟩
theorem Ep {n g : Nat} (l : List Nat) (h1 : 1 < n) (hl : l.foldr (· * ·) 1 = n - 1) (hp : ∀ q,q ∈ l → dW q) (hg : g ^ (n - 1) % n = 1) (hq : ∀ q,q ∈ l → g ^ ((n - 1) / q) % n ≠ 1) :
  ∀ k,0 < k → k < n - 1 → g ^ k % n ≠ 1:=by
 obtain ⟨o,⟨ho0,ho⟩,hmin⟩:=aBQ (P:=fun k => 0 < k ∧ g ^ k % n = 1) (n - 1) ⟨by omega,hg⟩;have hdiv : ∀ k,g ^ k % n = 1 → o ∣ k:=by
  intro k hk;have e : o * (k / o) + k % o = k:=Nat.div_add_mod k o;rw [← e,iP,rZ h1 ho,Nat.one_mul,Nat.mod_mod] at hk;have hlt:=Nat.mod_lt k ho0
  by_cases hz : k % o = 0
  ·exact Nat.dvd_of_mod_eq_zero hz
  ·exact absurd ⟨by omega,hk⟩ (hmin (k % o) hlt)
 obtain ⟨m,hm⟩:=hdiv (n - 1) hg;have hm1 : m = 1:=by
  by_cases h : m = 1
  ·exact h
  ·exfalso;have hm0 : m ≠ 0:=fun e => by subst e; omega
   obtain ⟨q,hq1,c,hc⟩:=wX l m (by rw [hl,hm]; exact Nat.dvd_mul_left _ _) (by omega) hp;have hq0 : 0 < q:=Nat.lt_of_lt_of_le (by omega) (Nat.le_of_lt (hp q hq1).1);refine hq q hq1 ?_;have : (n - 1) / q = o * c:=by
    rw [hm,hc,← Nat.mul_assoc,Nat.mul_comm o q,Nat.mul_assoc,Nat.mul_div_cancel_left _ hq0]
   rw [this,rZ h1 ho]
 subst hm1;intro k hk0 hk hk1;have:=Nat.le_of_dvd hk0 (hdiv k hk1);omega
theorem aAs : ∀ (n : Nat) (f : Nat → Nat),(∀ i,i < n → f i < n) → (∀ i j,i < n → j < n → f i = f j → i = j) → ∀ y,y < n → ∃ i,i < n ∧ f i = y:=by
 intro n
 induction n with
 | zero => intro f _ _ y hy; omega
 | succ n ih =>
  intro f hf hi y hy
  by_cases hn : f n = n
  ·by_cases hyn : y = n
   ·exact ⟨n,by omega,by omega⟩
   ·have hf' : ∀ i,i < n → f i < n:=fun i h => by
     have:=hf i (by omega);have hne : f i ≠ n:=fun e => by have:=hi i n (by omega) (by omega) (by omega); omega
     omega
    obtain ⟨i,h1,h2⟩:=ih f hf' (fun i j h h' => hi i j (by omega) (by omega)) y (by omega);exact ⟨i,by omega,h2⟩
  ·have hfn:=hf n (by omega);have key:=ih (fun i => if f i = n then f n else f i)
    (fun i h => by
     have:=hf i (by omega);split <;> omega)
    (fun i j h h' e => by
     split at e <;> split at e
     ·exact hi i j (by omega) (by omega) (by omega)
     ·have:=hi n j (by omega) (by omega) e; omega
     ·have:=hi i n (by omega) (by omega) e; omega
     ·exact hi i j (by omega) (by omega) e)
   by_cases hyn : y = n
   ·obtain ⟨i,h1,h2⟩:=key (f n) (by omega)
    by_cases h3 : f i = n
    ·exact ⟨i,by omega,by omega⟩
    ·rw [if_neg h3] at h2;have:=hi i n (by omega) (by omega) h2;omega
   ·obtain ⟨i,h1,h2⟩:=key y (by omega)
    by_cases h3 : f i = n
    ·rw [if_pos h3] at h2; exact ⟨n,by omega,h2⟩
    ·rw [if_neg h3] at h2; exact ⟨i,by omega,h2⟩
def Root (n g : Nat) : Prop:=1 < n ∧ g ^ (n - 1) % n = 1 ∧ (∀ k,0 < k → k < n - 1 → g ^ k % n ≠ 1) ∧ ∀ a,0 < a → a < n → ∃ k,k < n - 1 ∧ g ^ k % n = a
theorem aGe {n g : Nat} (l : List Nat) (h1 : 1 < n) (hl : l.foldr (· * ·) 1 = n - 1) (hp : ∀ q,q ∈ l → dW q) (hg : g ^ (n - 1) % n = 1) (hq : ∀ q,q ∈ l → g ^ ((n - 1) / q) % n ≠ 1) : Root n g:=by
 have ho:=Ep l h1 hl hp hg hq;refine ⟨h1,hg,ho,fun a ha han => ?_⟩;have hnz : ∀ i,i ≤ n - 1 → g ^ i % n ≠ 0:=by
  intro i hi e;have : g ^ (n - 1) % n = 0:=by
   have : n - 1 = i + (n - 1 - i):=by omega
   rw [this,iP,e,Nat.zero_mul,Nat.zero_mod]
  omega
 have hdis : ∀ i j,i < n - 1 → j < n - 1 → i < j → g ^ i % n ≠ g ^ j % n:=by
  intro i j hi hj hij e;have e1 : g ^ (n - 1 - i + i) % n = 1:=by rw [show n - 1 - i + i = n - 1 by omega]; exact hg
  have e2 : g ^ (n - 1 - i + j) % n = 1:=by rw [iP,← e,← iP]; exact e1
  rw [show n - 1 - i + j = n - 1 + (j - i) by omega,iP,hg,Nat.one_mul,Nat.mod_mod] at e2;exact ho (j - i) (by omega) (by omega) e2
 obtain ⟨i,hi,he⟩:=aAs (n - 1) (fun i => g ^ i % n - 1)
  (fun i h => by
   have:=Nat.mod_lt (g ^ i) (show 0 < n by omega);have:=hnz i (by omega);omega)
  (fun i j h h' e => by
   have a1:=hnz i (by omega);have a2:=hnz j (by omega);have e' : g ^ i % n = g ^ j % n:=by omega
   rcases Nat.lt_trichotomy i j with q | q | q
   ·exact absurd e' (hdis i j h h' q)
   ·exact q
   ·exact absurd e'.symm (hdis j i h' h q))
  (a - 1) (by omega)
 refine ⟨i,hi,?_⟩;have:=hnz i (by omega);omega
theorem Root.prm {n g : Nat} (h : Root n g) : dW n:=by
 obtain ⟨h1,hg,_,hs⟩:=h;refine ⟨h1,fun m hm => ?_⟩
 by_cases h2 : m = n
 ·exact Or.inr h2
 ·left;have hm0 : m ≠ 0:=fun e => by subst e; have:=Nat.eq_zero_of_zero_dvd hm; omega
  have hle:=Nat.le_of_dvd (by omega) hm;obtain ⟨k,hk,e⟩:=hs m (by omega) (by omega);have e1 : g ^ (k + (n - 1 - k)) % n = 1:=by rw [show k + (n - 1 - k) = n - 1 by omega]; exact hg
  rw [iP,e] at e1;have hd : m ∣ (m * (g ^ (n - 1 - k) % n)) % n:=(Nat.dvd_mod_iff hm).2 (Nat.dvd_mul_right _ _);rw [e1] at hd;exact Nat.dvd_one.1 hd
def aVX (n g : Nat) (l : List Nat) : Bool :=
 Nat.blt 1 n && (Nat.beq (l.foldr (· * ·) 1) (n - 1) && (Nat.blt n (2 ^ 255) && (Nat.beq (pm n 256 g (n - 1)) 1 && l.all fun q => !(Nat.beq (pm n 256 g ((n - 1) / q)) 1))))
theorem bA {n g : Nat} {l : List Nat} (h : aVX n g l = true) (hp : ∀ q,q ∈ l → dW q) : Root n g:=by
 unfold aVX at h;simp only [Bool.and_eq_true] at h;obtain ⟨h1,h2,h3,h4,h5⟩:=h;have h1 : 1 < n:=by unfold Nat.blt at h1; exact Nat.le_of_ble_eq_true h1
 have h3 : n < 2 ^ 255:=by
  unfold Nat.blt at h3; exact Nat.le_of_ble_eq_true h3
 have h2:=Nat.eq_of_beq_eq_true h2;have h4:=Nat.eq_of_beq_eq_true h4;have hb : ∀ e,e ≤ n - 1 → e < 2 ^ 256:=fun e he => by
  rw [Nat.pow_succ]; omega
 rw [AT n 256 g _ (hb _ (Nat.le_refl _))] at h4;refine aGe l h1 h2 hp h4 fun q hq e => ?_
 have:=List.all_eq_true.1 h5 q hq;rw [AT n 256 g _ (hb _ (Nat.div_le_self _ _)),e] at this;exact absurd this (by decide)
end Go.Proofs.YtglgakbkdjhojaaGreat
namespace Go.Proofs.YtglgakbkdjhojaaGreat.Ex
open Go.Proofs.Tryz
def cho : Nat → Nat → Nat
 | _,0 => 1
 | 0,_ + 1 => 0
 | n + 1,k + 1 => cho n k + cho n (k + 1)
theorem DN : ∀ (n k : Nat),n < k → cho n k = 0
 | 0,k + 1,_ => rfl
 | n + 1,k + 1,h => by show cho n k + cho n (k + 1) = 0; rw [DN n k (by omega),DN n (k + 1) (by omega)]
 | _,0,h => by omega
theorem Ae : ∀ n,cho n n = 1
 | 0 => rfl
 | n + 1 => by show cho n n + cho n (n + 1) = 1; rw [Ae n,DN n (n + 1) (by omega)]
theorem DM : ∀ (n k : Nat),(k + 1) * cho (n + 1) (k + 1) = (n + 1) * cho n k
 | 0,0 => rfl
 | 0,k + 1 => by show (k + 2) * (0 + 0) = 1 * 0; omega
 | n + 1,0 => by
  have:=DM n 0;show 1 * (cho (n + 1) 0 + cho (n + 1) 1) = (n + 2) * cho (n + 1) 0;have h0 : cho (n + 1) 0 = 1:=rfl;have h1 : cho n 0 = 1:=by cases n <;> rfl
  rw [h0];rw [h1] at this;have h2 : cho (n + 1) 1 = n + 1:=by simpa using this
  omega
 | n + 1,k + 1 => by
  have h1:=DM n k;have h2:=DM n (k + 1);show (k + 2) * (cho (n + 1) (k + 1) + cho (n + 1) (k + 2)) = (n + 2) * cho (n + 1) (k + 1);have h3 : (k + 2) * cho (n + 1) (k + 2) = (n + 1) * cho n (k + 1):=h2;have h4 : cho (n + 1) (k + 1) = cho n k + cho n (k + 1):=rfl;rw [Nat.mul_add,h3];have h5 : (n + 2) * cho (n + 1) (k + 1) = (n + 1) * cho (n + 1) (k + 1) + cho (n + 1) (k + 1):=by rw [show n + 2 = (n + 1) + 1 from rfl,Nat.add_mul (n + 1) 1,Nat.one_mul]
  have h6 : (n + 1) * cho (n + 1) (k + 1) = (n + 1) * cho n k + (n + 1) * cho n (k + 1):=by rw [h4,Nat.mul_add]
  have h7 : (k + 2) * cho (n + 1) (k + 1) = (k + 1) * cho (n + 1) (k + 1) + cho (n + 1) (k + 1):=by rw [show k + 2 = (k + 1) + 1 from rfl,Nat.add_mul (k + 1) 1,Nat.one_mul]
  omega
theorem Ut {q : Nat} (hq : dW q) {k : Nat} (h0 : 0 < k) (hk : k < q) : ∃ m,cho q k = q * m:=by
 obtain ⟨j,rfl⟩ : ∃ j,k = j + 1:=⟨k - 1,by omega⟩
 obtain ⟨n,rfl⟩ : ∃ n,q = n + 1:=⟨q - 1,by omega⟩
 have h:=DM n j;have hd : (n + 1) ∣ (j + 1) * cho (n + 1) (j + 1):=⟨cho n j,h⟩;have hc : Nat.Coprime (n + 1) (j + 1):=by
  rcases hq.2 (Nat.gcd (n + 1) (j + 1)) (Nat.gcd_dvd_left _ _) with e | e
  ·exact e
  ·have:=Nat.le_of_dvd h0 (Nat.gcd_dvd_right (n + 1) (j + 1));omega
 obtain ⟨m,hm⟩:=hc.dvd_of_dvd_mul_left hd;exact ⟨m,hm⟩
section
variable {R : Type} (K : CR R)
def bN (x : R) : Nat → R
 | 0 => K.one
 | n + 1 => K.mul (bN x n) x
theorem cI (x : R) (m : Nat) : ∀ n,bN K x (m + n) = K.mul (bN K x m) (bN K x n)
 | 0 => (K.mul_one _).symm
 | n + 1 => by show K.mul (bN K x (m + n)) x = K.mul _ (K.mul _ _); rw [cI x m n,K.mul_assoc]
theorem lV (x y : R) : ∀ n,bN K (K.mul x y) n = K.mul (bN K x n) (bN K y n)
 | 0 => (K.one_mul _).symm
 | n + 1 => by
  show K.mul (bN K (K.mul x y) n) (K.mul x y) = K.mul (K.mul _ _) (K.mul _ _);rw [lV x y n];exact aE K (aQ K [bN K x n,bN K y n,x,y]) (.mul (.mul (.v 0) (.v 1)) (.mul (.v 2) (.v 3))) (.mul (.mul (.v 0) (.v 2)) (.mul (.v 1) (.v 3))) (by decide)
theorem dU (x : R) (m : Nat) : ∀ n,bN K x (m * n) = bN K (bN K x m) n
 | 0 => rfl
 | n + 1 => by rw [Nat.mul_add,Nat.mul_one,cI,dU x m n]; rfl
theorem nN : ∀ n,bN K K.one n = K.one
 | 0 => rfl
 | n + 1 => by show K.mul (bN K K.one n) K.one = _; rw [nN n,K.mul_one]
def iT (f : Nat → R) : Nat → R
 | 0 => K.zero
 | n + 1 => K.add (iT f n) (f n)
theorem pR (f : Nat → R) : ∀ n,iT K f (n + 1) = K.add (f 0) (iT K (fun k => f (k + 1)) n)
 | 0 => by show K.add K.zero (f 0) = K.add (f 0) K.zero; rw [K.add_comm]
 | n + 1 => by
  show K.add (iT K f (n + 1)) (f (n + 1)) = K.add (f 0) (K.add _ _);rw [pR f n,K.add_assoc]
theorem UM (f g : Nat → R) : ∀ n,iT K (fun k => K.add (f k) (g k)) n = K.add (iT K f n) (iT K g n)
 | 0 => (K.add_zero _).symm
 | n + 1 => by
  show K.add (iT K (fun k => K.add (f k) (g k)) n) (K.add (f n) (g n)) = K.add (K.add _ _) (K.add _ _);rw [UM f g n];exact aE K (aQ K [iT K f n,iT K g n,f n,g n]) (.add (.add (.v 0) (.v 1)) (.add (.v 2) (.v 3))) (.add (.add (.v 0) (.v 2)) (.add (.v 1) (.v 3))) (by decide)
theorem EM (f : Nat → R) (c : R) : ∀ n,K.mul (iT K f n) c = iT K (fun k => K.mul (f k) c) n
 | 0 => K.zero_mul _
 | n + 1 => by show K.mul (K.add _ _) c = K.add _ _; rw [K.add_mul,EM f c n]
theorem mJ {f g : Nat → R} : ∀ n,(∀ k,k < n → f k = g k) → iT K f n = iT K g n
 | 0,_ => rfl
 | n + 1,h => by show K.add _ _ = K.add _ _; rw [mJ n (fun k hk => h k (by omega)),h n (by omega)]
theorem KQ {f : Nat → R} : ∀ n,(∀ k,k < n → f k = K.zero) → iT K f n = K.zero
 | 0,_ => rfl
 | n + 1,h => by show K.add _ _ = _; rw [KQ n (fun k hk => h k (by omega)),h n (by omega),K.add_zero]
theorem GI (x c : R) : ∀ n,K.mul (nt K x n) c = nt K (K.mul x c) n
 | 0 => K.zero_mul _
 | n + 1 => by show K.mul (K.add _ _) c = K.add _ _; rw [K.add_mul,GI x c n]
theorem aKF (x : R) (m : Nat) : ∀ n,nt K x (m * n) = nt K (nt K x m) n
 | 0 => rfl
 | n + 1 => by rw [Nat.mul_add,Nat.mul_one,sE,aKF x m n]; rfl
theorem aLq (x y : R) : ∀ n,bN K (K.add x y) n = iT K (fun k => nt K (K.mul (bN K x k) (bN K y (n - k))) (cho n k)) (n + 1)
 | 0 => by show K.one = K.add K.zero (K.add K.zero (K.mul K.one K.one)); rw [K.zero_add,K.zero_add,K.one_mul]
 | n + 1 => by
  show K.mul (bN K (K.add x y) n) (K.add x y) = _;rw [aLq x y n,K.mul_add,EM,EM,pR K _ (n + 1)];have e1 : iT K (fun k => K.mul (nt K (K.mul (bN K x k) (bN K y (n - k))) (cho n k)) x) (n + 1) = iT K (fun k => nt K (K.mul (bN K x (k + 1)) (bN K y (n - k))) (cho n k)) (n + 1) :=
   mJ K _ fun k hk => by
    rw [GI];congr 1;exact aE K (aQ K [bN K x k,bN K y (n - k),x]) (.mul (.mul (.v 0) (.v 1)) (.v 2)) (.mul (.mul (.v 0) (.v 2)) (.v 1)) (by decide)
  have e2 : iT K (fun k => K.mul (nt K (K.mul (bN K x k) (bN K y (n - k))) (cho n k)) y) (n + 1) = K.add (nt K (K.mul (bN K x 0) (bN K y (n + 1 - 0))) (cho (n + 1) 0)) (iT K (fun k => nt K (K.mul (bN K x (k + 1)) (bN K y (n - k))) (cho n (k + 1))) (n + 1)):=by
   have h1 : iT K (fun k => K.mul (nt K (K.mul (bN K x k) (bN K y (n - k))) (cho n k)) y) (n + 1) = iT K (fun k => nt K (K.mul (bN K x k) (bN K y (n + 1 - k))) (cho n k)) (n + 1) :=
    mJ K _ fun k hk => by
     rw [GI,K.mul_assoc,show n + 1 - k = (n - k) + 1 by omega];rfl
   rw [h1,pR];have h2 : iT K (fun k => nt K (K.mul (bN K x (k + 1)) (bN K y (n - k))) (cho n (k + 1))) (n + 1) = iT K (fun k => nt K (K.mul (bN K x (k + 1)) (bN K y (n + 1 - (k + 1)))) (cho n (k + 1))) n:=by
    show K.add _ (nt K _ (cho n (n + 1))) = _;rw [DN n (n + 1) (by omega)];show K.add _ K.zero = _;rw [K.add_zero];exact mJ K _ fun k hk => by rw [show n + 1 - (k + 1) = n - k by omega]
   rw [h2];congr 1;cases n <;> rfl
  rw [e1,e2];have e3 : iT K (fun k => nt K (K.mul (bN K x (k + 1)) (bN K y (n + 1 - (k + 1)))) (cho (n + 1) (k + 1))) (n + 1) = K.add (iT K (fun k => nt K (K.mul (bN K x (k + 1)) (bN K y (n - k))) (cho n k)) (n + 1)) (iT K (fun k => nt K (K.mul (bN K x (k + 1)) (bN K y (n - k))) (cho n (k + 1))) (n + 1)):=by
   rw [← UM];exact mJ K _ fun k hk => by
    rw [show n + 1 - (k + 1) = n - k by omega];exact sE K _ _ _
  rw [e3,← K.add_assoc,← K.add_assoc,K.add_comm (iT K _ _) (nt K _ _)]
theorem Mh {q : Nat} (hq : dW q) (hc : ∀ x,nt K x q = K.zero) (x y : R) : bN K (K.add x y) q = K.add (bN K x q) (bN K y q):=by
 rw [aLq];obtain ⟨n,rfl⟩ : ∃ n,q = n + 1:=⟨q - 1,by have:=hq.1; omega⟩
 show K.add (iT K _ (n + 1)) _ = _;rw [pR];have h0 : iT K (fun k => nt K (K.mul (bN K x (k + 1)) (bN K y (n + 1 - (k + 1)))) (cho (n + 1) (k + 1))) n = K.zero:=KQ K _ fun k hk => by
  obtain ⟨m,hm⟩:=Ut hq (k:=k + 1) (by omega) (by omega);rw [hm,aKF,hc];clear hm
  induction m with
  | zero => rfl
  | succ m ih => show K.add (nt K K.zero m) K.zero = _; rw [ih,K.add_zero]
 rw [h0,K.add_zero];show K.add (nt K (K.mul (bN K x 0) (bN K y (n + 1 - 0))) (cho (n + 1) 0)) (nt K (K.mul (bN K x (n + 1)) (bN K y (n + 1 - (n + 1)))) (cho (n + 1) (n + 1))) = _;rw [Ae];have h1 : cho (n + 1) 0 = 1:=rfl;rw [h1,Nat.sub_self,Nat.sub_zero];show K.add (K.add K.zero (K.mul K.one (bN K y (n + 1)))) (K.add K.zero (K.mul (bN K x (n + 1)) K.one)) = _;rw [K.zero_add,K.zero_add,K.one_mul,K.mul_one,K.add_comm]
end
open Go.RowKit
theorem aQf : 1 < FP.M:=by decide
def F1 : CR Fq:=aYB FP.M aQf
def fm (n : Nat) : Fq:=⟨n % FP.M,Nat.mod_lt _ iJ⟩
abbrev Q2:=Fq × Fq
abbrev Q6:=Q2 × Q2 × Q2
abbrev aM:=Q6 × Q6
def F2 : CR Q2:=F1.sq (F1.neg F1.one)
def dC : Q2:=(fm 9,fm 1)
def F6 : CR Q6:=F2.cu dC
def vE : Q6:=(F2.zero,F2.one,F2.zero)
def aD : CR aM:=F6.sq vE
def e1 (x : Fq) : List At:=[.f x]
def e2 (x : Q2) : List At:=[.f x.1,.f x.2]
def e6 (x : Q6) : List At:=[.f x.1.1,.f x.1.2,.f x.2.1.1,.f x.2.1.2,.f x.2.2.1,.f x.2.2.2]
def aN (x : aM) : List At:=[.f x.1.1.1,.f x.1.1.2,.f x.1.2.1.1,.f x.1.2.1.2,.f x.1.2.2.1,.f x.1.2.2.2,.f x.2.1.1,.f x.2.1.2,.f x.2.2.1.1,.f x.2.2.1.2,.f x.2.2.2.1,.f x.2.2.2.2]
def Jh : List At → Option Fq | [.f a] => some a | _ => none
def KC : List At → Option Q2 | [.f a,.f b] => some (a,b) | _ => none
def Sr : List At → Option Q6 | [.f a,.f b,.f c,.f d,.f e,.f f] => some ((a,b),(c,d),(e,f)) | _ => none
def pV : List At → Option aM | [.f a,.f b,.f c,.f d,.f e,.f f,.f g,.f h,.f i,.f j,.f k,.f l] => some (((a,b),(c,d),(e,f)),((g,h),(i,j),(k,l))) | _ => none
abbrev N2:=Nat × Nat
abbrev N6:=N2 × N2 × N2
abbrev sS:=N6 × N6
def q1 (x : Nat) : List At:=[.q x]
def q2 (x : N2) : List At:=[.q x.1,.q x.2]
def q6 (x : N6) : List At:=[.q x.1.1,.q x.1.2,.q x.2.1.1,.q x.2.1.2,.q x.2.2.1,.q x.2.2.2]
def tC (x : sS) : List At:=[.q x.1.1.1,.q x.1.1.2,.q x.1.2.1.1,.q x.1.2.1.2,.q x.1.2.2.1,.q x.1.2.2.2,.q x.2.1.1,.q x.2.1.2,.q x.2.2.1.1,.q x.2.2.1.2,.q x.2.2.2.1,.q x.2.2.2.2]
def YS : At → Option Nat
 | .f x => some x.1
 | .q x => some x
 | .c _ => none
def Ff : List At → Option (List Nat)
 | [] => some []
 | a :: r => match YS a,Ff r with | some x,some l => some (x :: l) | _,_ => none
def KW (l : List At) : Option Nat:=match Ff l with | some [a] => some a | _ => none
def rq2 (l : List At) : Option N2:=match Ff l with | some [a,b] => some (a,b) | _ => none
def rq6 (l : List At) : Option N6:=match Ff l with | some [a,b,c,d,e,f] => some ((a,b),(c,d),(e,f)) | _ => none
def Dt (l : List At) : Option sS:=match Ff l with | some [a,b,c,d,e,f,g,h,i,j,k,l] => some (((a,b),(c,d),(e,f)),((g,h),(i,j),(k,l))) | _ => none
def wv (x : Nat) : Nat:=aF (fw x 0) (fw x 1) (fw x 2) (fw x 3)
def m1 (x : Nat) : Fq:=fm (wv x)
def m2 (x : N2) : Q2:=(m1 x.1,m1 x.2)
def m6 (x : N6) : Q6:=(m2 x.1,m2 x.2.1,m2 x.2.2)
def fW (x : sS) : aM:=(m6 x.1,m6 x.2)
def Rd {α : Type} (rd : List At → Option α) (en : α → List At) : Prop:=∀ l x,rd l = some x → aA l = aA (en x)
theorem lD : Rd Jh e1:=fun l x h => by unfold Jh at h; split at h <;> cases h; rfl
theorem fI : Rd KC e2:=fun l x h => by unfold KC at h; split at h <;> cases h; rfl
theorem mQ : Rd Sr e6:=fun l x h => by unfold Sr at h; split at h <;> cases h; rfl
theorem eD : Rd pV aN:=fun l x h => by unfold pV at h; split at h <;> cases h; rfl
theorem xI : ∀ {l : List At} {m : List Nat},Ff l = some m → aA l = aA (m.map .q)
 | [],m,h => by cases h; rfl
 | a :: r,m,h => by
  unfold Ff at h;split at h
  ·rename_i x l' h1 h2;cases h;show a.cells ++ aA r = w4 x ++ aA (l'.map .q);rw [xI h2];cases a <;> cases h1 <;> rfl
  ·cases h
theorem fQ : Rd KW q1:=fun l x h => by
 unfold KW at h;split at h
 ·rename_i hn; cases h; rw [xI hn]; rfl
 ·cases h
theorem rU : Rd rq2 q2:=fun l x h => by
 unfold rq2 at h;split at h
 ·rename_i hn; cases h; rw [xI hn]; rfl
 ·cases h
theorem aNf : Rd rq6 q6:=fun l x h => by
 unfold rq6 at h;split at h
 ·rename_i hn; cases h; rw [xI hn]; rfl
 ·cases h
theorem wQ : Rd Dt tC:=fun l x h => by
 unfold Dt at h;split at h
 ·rename_i hn; cases h; rw [xI hn]; rfl
 ·cases h
abbrev kZ:=List CA → Option (List Prop × RV)
def g0 (r : RV) : kZ
 | [] => some ([],r)
 | _ => none
def g1 {α : Type} (rd : List At → Option α) (op : α → List Prop × RV) : kZ
 | [.v (.fl l)] => match rd l with | some x => some (op x) | none => none
 | _ => none
def g2 {α γ : Type} (rd : List At → Option α) (rd' : List At → Option γ) (op : α → γ → List Prop × RV) : kZ
 | [.v (.fl l),.v (.fl m)] => match rd l,rd' m with | some x,some y => some (op x y) | _,_ => none
 | _ => none
def Good (P : Program) (f : FuncId) (r : RV) (args : List Value) (w : World) : Prop:=Calls P f args.toArray w (fun e w' => e = .returned r.den ∧ Below w.heap.size w w')
theorem gP {P : Program} {f : FuncId} {r : RV} (h : ∀ w,Good P f r [] w) : ∀ cs pre r',g0 r cs = some (pre,r') → aZ pre → ∀ (args : List Value) (w : World),bR w cs args → Good P f r' args w:=by
 intro cs pre r' hg hp args w ha;unfold g0 at hg;split at hg
 ·cases hg;cases args with
  | nil => exact h w
  | cons _ _ => exact ha.elim
 ·cases hg
theorem bJ {P : Program} {f : FuncId} {α : Type} {rd : List At → Option α} {en : α → List At} (hr : Rd rd en) {op : α → List Prop × RV} (h : ∀ x,aZ (op x).1 → ∀ args w,bR w [.v (.fl (en x))] args → Good P f (op x).2 args w) :
  ∀ cs pre r,g1 rd op cs = some (pre,r) → aZ pre → ∀ (args : List Value) (w : World),bR w cs args → Good P f r args w:=by
 intro cs pre r hg hp args w ha;unfold g1 at hg;split at hg
 ·rename_i l;split at hg
  ·rename_i x hx;have e : op x = (pre,r):=by simpa using hg
   have:=h x (by rw [e]; exact hp) args w (by
    cases args with
    | nil => exact ha.elim
    | cons v vs =>
     refine ⟨?_,ha.2⟩;show v = .agg (aA (en x)).toArray;rw [← hr l x hx];exact ha.1)
   rw [e] at this;exact this
  ·cases hg
 ·cases hg
theorem eV {P : Program} {f : FuncId} {α γ : Type} {rd : List At → Option α} {en : α → List At} {rd' : List At → Option γ} {en' : γ → List At} (hr : Rd rd en) (hr' : Rd rd' en') {op : α → γ → List Prop × RV}
  (h : ∀ x y,aZ (op x y).1 → ∀ args w,bR w [.v (.fl (en x)),.v (.fl (en' y))] args → Good P f (op x y).2 args w) :
  ∀ cs pre r,g2 rd rd' op cs = some (pre,r) → aZ pre → ∀ (args : List Value) (w : World),bR w cs args → Good P f r args w:=by
 intro cs pre r hg hp args w ha;unfold g2 at hg;split at hg
 ·rename_i l m;split at hg
  ·rename_i x y hx hy;have e : op x y = (pre,r):=by simpa using hg
   have:=h x y (by rw [e]; exact hp) args w (by
    cases args with
    | nil => exact ha.elim
    | cons v vs =>
     cases vs with
     | nil => exact ha.2.elim
     | cons u us =>
      refine ⟨?_,?_,ha.2.2⟩
      ·show v = .agg (aA (en x)).toArray;rw [← hr l x hx];exact ha.1
      ·show u = .agg (aA (en' y)).toArray;rw [← hr' m y hy];exact ha.2.1)
   rw [e] at this;exact this
  ·cases hg
 ·cases hg
theorem aG : prog.follows .mixedOrders = true:=by kernel_rfl
def qN : EqT:={ q:=fun _ => none,n:=fun _ => none }
theorem aL {P : Program} : EqOk P qN:=⟨⟨(fun t n h => by cases h),(fun t n h => by cases h)⟩,rfl⟩
def Ul : Fq → List Fq → List Fq → Fq
 | a,x :: r,y :: s => Ul (F1.add a (F1.mul x y)) r s
 | a,_,_ => a
def qO : List Fq → List Fq → Fq
 | x :: r,y :: s => Ul (F1.mul x y) r s
 | _,_ => F1.zero
def XX : Nat → List At → Option (List Fq)
 | 0,_ => some []
 | n + 1,.f a :: r => match XX n r with | some l => some (a :: l) | none => none
 | _,_ => none
def aCA : kZ
 | [.s l n m,.s l' n' m'] => bif Nat.beq n n' && Nat.ble n 6 then (match XX n l,XX n' l' with
  | some x,some y => some ([],.one (.fl (e1 (qO x y))))
  | _,_ => none) else none
 | _ => none
def gOf : kZ
 | [.v (.im (.int .u64 (.ofNat n)))] => bif Nat.blt n 18446744073709551616 then some ([],.one (.fl (e1 (fm n)))) else none
 | _ => none
theorem Mm : ∃ f : Fq → Fq,∀ x,(f x).1 = 1 * (x.1 ^ (FP.M - 2) % FP.M) :=
 ⟨fun x => ⟨1 * (x.1 ^ (FP.M - 2) % FP.M),by rw [Nat.one_mul]; exact Nat.mod_lt _ iJ⟩,fun _ => rfl⟩
def cM : Fq → Fq:=Classical.choose Mm
theorem ZM (x : Fq) : (cM x).1 = 1 * (x.1 ^ (FP.M - 2) % FP.M):=Classical.choose_spec Mm x
def aPQ (c : Bool) : kZ
 | [.v (.im (.int .i64 (.ofNat 1))),.v (.fl l)] => match Jh l with
  | some x => bif c then some ([x ≠ F1.zero],.many [.fl (e1 (cM x)),.im (.int .i64 0)]) else some ([x = F1.zero],.many [.fl (e1 F1.zero),.im (.int .i64 22)])
  | none => none
 | _ => none
def oJ (c : Bool) : Tab:=(((((((T0.add 222 (g2 Jh Jh fun x y => ([],.one (.fl (e1 (F1.add x y)))))).add 221 (g2 Jh Jh fun x y => ([],.one (.fl (e1 (F1.sub x y)))))).add 225 (g2 Jh Jh fun x y => ([],.one (.fl (e1 (F1.mul x y)))))).add
 223 (g1 Jh fun x => ([],.one (.fl (e1 (F1.neg x)))))).add 220 (g1 KW fun x => ([],.one (.fl (e1 (m1 x)))))).add 224 aCA).add 97 gOf).add 256 (aPQ c)
theorem aUs (c : Bool) (hB : TabOk prog (oJ c)) : TabOk prog (oJ c):=hB
def aJ (x : Q2) : Q2:=(x.1,F1.neg x.2)
def pM (x : Q2) (k : Fq) : Q2:=(F1.mul x.1 k,F1.mul x.2 k)
def rK (x : Q2) : Fq:=F1.add (F1.mul x.1 x.1) (F1.mul x.2 x.2)
def dR (x : Q2) : Q2:=pM (aJ x) (cM (rK x))
theorem Bw (c : Bool) (x : Q2) (y : Q2) : bK prog (oJ c) qN (fun _ => true) f180 40 [.v (.fl (e2 x)),.v (.fl (e2 y))] = some ([],.one (.fl (e2 (F2.add x y)))):=by kernel_rfl
def IV (c : Bool) : Tab:=(oJ c).add 180 (g2 KC KC (fun x y => ([],.one (.fl (e2 (F2.add x y))))))
theorem LJ (c : Bool) (hB : TabOk prog (oJ c)) : TabOk prog (IV c):=(aUs c hB).ad func180 (eV fI fI fun x y hp args w ha => aH aG (aUs c hB) aL func180 (Bw c x y) hp ha)
theorem VH (c : Bool) (x : Q2) (y : Q2) : bK prog (IV c) qN (fun _ => true) f181 40 [.v (.fl (e2 x)),.v (.fl (e2 y))] = some ([],.one (.fl (e2 (F2.sub x y)))):=by kernel_rfl
def AL (c : Bool) : Tab:=(IV c).add 181 (g2 KC KC (fun x y => ([],.one (.fl (e2 (F2.sub x y))))))
theorem FY (c : Bool) (hB : TabOk prog (oJ c)) : TabOk prog (AL c):=(LJ c hB).ad func181 (eV fI fI fun x y hp args w ha => aH aG (LJ c hB) aL func181 (VH c x y) hp ha)
theorem Bz (c : Bool) (x : Q2) : bK prog (AL c) qN (fun _ => true) f186 40 [.v (.fl (e2 x))] = some ([],.one (.fl (e2 (aJ x)))):=by kernel_rfl
def IW (c : Bool) : Tab:=(AL c).add 186 (g1 KC (fun x => ([],.one (.fl (e2 (aJ x))))))
theorem LK (c : Bool) (hB : TabOk prog (oJ c)) : TabOk prog (IW c):=(FY c hB).ad func186 (bJ fI fun x hp args w ha => aH aG (FY c hB) aL func186 (Bz c x) hp ha)
theorem OQ (c : Bool) (x : Q2) (y : Fq) : bK prog (IW c) qN (fun _ => true) f184 40 [.v (.fl (e2 x)),.v (.fl (e1 y))] = some ([],.one (.fl (e2 (pM x y)))):=by kernel_rfl
def vT (c : Bool) : Tab:=(IW c).add 184 (g2 KC Jh (fun x y => ([],.one (.fl (e2 (pM x y))))))
theorem AX (c : Bool) (hB : TabOk prog (oJ c)) : TabOk prog (vT c):=(LK c hB).ad func184 (eV fI lD fun x y hp args w ha => aH aG (LK c hB) aL func184 (OQ c x y) hp ha)
theorem Xx (c : Bool) (x : Q2) : bK prog (vT c) qN (fun _ => true) f178 40 [.v (.fl (e2 x))] = some ([],.one (.fl (e2 ((F1.sub (F1.mul x.1 (fm 9)) x.2,F1.add (F1.mul x.2 (fm 9)) x.1))))):=by kernel_rfl
theorem Zk (x : Q2) : F2.mul x dC = (F1.sub (F1.mul x.1 (fm 9)) x.2,F1.add (F1.mul x.2 (fm 9)) x.1):=by
 have h1 : fm 1 = F1.one:=by decide
 show (F1.add (F1.mul x.1 (fm 9)) (F1.mul (F1.neg F1.one) (F1.mul x.2 (fm 1))),F1.add (F1.mul x.1 (fm 1)) (F1.mul x.2 (fm 9))) = _;rw [h1,F1.mul_one,F1.mul_one,F1.neg_mul,F1.one_mul,F1.add_comm x.1];rfl
def He (c : Bool) : Tab:=(vT c).add 178 (g1 KC (fun x => ([],.one (.fl (e2 (F2.mul x dC))))))
theorem Kc (c : Bool) (hB : TabOk prog (oJ c)) : TabOk prog (He c):=(AX c hB).ad func178 (bJ fI fun x hp args w ha => by show Good _ _ (.one (.fl (e2 (F2.mul x dC)))) _ _; rw [Zk x]; exact aH aG (AX c hB) aL func178 (Xx c x) hp ha)
theorem Yk (c : Bool)  : bK prog (He c) qN (fun _ => true) f219 40 [] = some ([],.one (.fl (e2 (F2.one)))):=by kernel_rfl
def Ho (c : Bool) : Tab:=(He c).add 219 (g0 (.one (.fl (e2 (F2.one)))))
theorem Km (c : Bool) (hB : TabOk prog (oJ c)) : TabOk prog (Ho c):=(Kc c hB).ad func219 (gP fun w => aH aG (Kc c hB) aL func219 (Yk c ) trivial (args:=[]) trivial)
theorem Bx (c : Bool) (x : Q2) : bK prog (Ho c) qN (fun _ => true) f257 40 [.v (.fl (e2 x))] = some ([],.one (.fl (e1 (rK x)))):=by kernel_rfl
def yB (c : Bool) : Tab:=(Ho c).add 257 (g1 KC (fun x => ([],.one (.fl (e1 (rK x))))))
theorem zF (c : Bool) (hB : TabOk prog (oJ c)) : TabOk prog (yB c):=(Km c hB).ad func257 (bJ fI fun x hp args w ha => aH aG (Km c hB) aL func257 (Bx c x) hp ha)
theorem Qb (x : Q2) : bK prog (yB true) qN (fun _ => true) f246 40 [.v (.fl (e2 x))] = some ([rK x ≠ F1.zero],.many [.fl (e2 (dR x)),.im (.int .i64 0)]):=by kernel_rfl
theorem By (x : Q2) : bK prog (yB false) qN (fun _ => true) f246 40 [.v (.fl (e2 x))] = some ([rK x = F1.zero],.many [.fl (e2 F2.zero),.im (.int .i64 22)]):=by kernel_rfl
def aBl (c : Bool) (x : Q2) : List Prop × RV:=bif c then ([rK x ≠ F1.zero],.many [.fl (e2 (dR x)),.im (.int .i64 0)]) else ([rK x = F1.zero],.many [.fl (e2 F2.zero),.im (.int .i64 22)])
theorem aHY (c : Bool) (hB : TabOk prog (oJ c)) (x : Q2) (hp : aZ (aBl c x).1) (args : List Value) (w : World) (ha : bR w [.v (.fl (e2 x))] args) : Good prog 246 (aBl c x).2 args w:=by
 cases c
 ·exact aH aG (zF false hB) aL func246 (By x) hp ha
 ·exact aH aG (zF true hB) aL func246 (Qb x) hp ha
def yC (c : Bool) : Tab:=(yB c).add 246 (g1 KC (aBl c))
theorem xF (c : Bool) (hB : TabOk prog (oJ c)) : TabOk prog (yC c):=(zF c hB).ad func246 (bJ fI (aHY c hB))
def Ol : Nat → List At → Option (List Q2)
 | 0,[] => some []
 | n + 1,.f a :: .f b :: r => match Ol n r with | some l => some ((a,b) :: l) | none => none
 | _,_ => none
def e2s : List Q2 → List At
 | [] => []
 | x :: r => .f x.1 :: .f x.2 :: e2s r
theorem NR : ∀ {n : Nat} {l : List At} {x : List Q2},Ol n l = some x → l = e2s x ∧ x.length = n
 | 0,[],x,h => by cases h; exact ⟨rfl,rfl⟩
 | n + 1,.f a :: .f b :: r,x,h => by
  unfold Ol at h;split at h
  ·rename_i l hl;cases h;obtain ⟨h1,h2⟩:=NR hl;exact ⟨by rw [h1]; rfl,by rw [List.length_cons,h2]⟩
  ·cases h
 | 0,_ :: _,x,h => by cases h
 | n + 1,[],x,h => by cases h
 | n + 1,[_],x,h => by unfold Ol at h; split at h <;> first | (cases h; done) | (rename_i heq; cases heq)
 | n + 1,.q _ :: _ :: _,x,h => by cases h
 | n + 1,.c _ :: _ :: _,x,h => by cases h
 | n + 1,.f _ :: .q _ :: _,x,h => by cases h
 | n + 1,.f _ :: .c _ :: _,x,h => by cases h
def KM : List Q2 → List Q2 → Q2
 | [x],[y] => F2.mul x y
 | [x,y],[z,t] => F2.add (F2.mul x z) (F2.mul y t)
 | [x,y,z],[s,t,u] => F2.add (F2.add (F2.mul x s) (F2.mul y t)) (F2.mul z u)
 | _,_ => F2.zero
def aPC : kZ
 | [.s l n m,.s l' n' m'] => bif Nat.beq n n' && (Nat.ble n 3 && Nat.ble 1 n) then (match Ol n l,Ol n' l' with
  | some x,some y => some ([],.one (.fl (e2 (KM x y))))
  | _,_ => none) else none
 | _ => none
def sl2 : List Q2 → List Fq
 | [] => []
 | x :: r => x.1 :: F1.neg x.2 :: sl2 r
def cr2 : List Q2 → List Fq
 | [] => []
 | x :: r => x.2 :: x.1 :: cr2 r
def Pg : List Q2 → List Fq
 | [] => []
 | x :: r => x.1 :: x.2 :: Pg r
theorem Ya (c : Bool) (x s : Q2) (m m' : Nat) : bK prog (yC c) qN (fun _ => true) f179 40 [.s (e2s [x]) 1 m,.s (e2s [s]) 1 m'] = some ([],.one (.fl (e2 (qO (sl2 [x]) (Pg [s]),qO (cr2 [x]) (Pg [s]))))):=by kernel_rfl
theorem Xz (c : Bool) (x y s t : Q2) (m m' : Nat) : bK prog (yC c) qN (fun _ => true) f179 40 [.s (e2s [x,y]) 2 m,.s (e2s [s,t]) 2 m'] = some ([],.one (.fl (e2 (qO (sl2 [x,y]) (Pg [s,t]),qO (cr2 [x,y]) (Pg [s,t]))))):=by kernel_rfl
theorem Xy (c : Bool) (x y z s t u : Q2) (m m' : Nat) : bK prog (yC c) qN (fun _ => true) f179 40 [.s (e2s [x,y,z]) 3 m,.s (e2s [s,t,u]) 3 m'] = some ([],.one (.fl (e2 (qO (sl2 [x,y,z]) (Pg [s,t,u]),qO (cr2 [x,y,z]) (Pg [s,t,u]))))):=by kernel_rfl
theorem zK (x s : Q2) : (F2.mul x s).1 = F1.add (F1.mul x.1 s.1) (F1.mul (F1.neg x.2) s.2):=by
 show F1.add (F1.mul x.1 s.1) (F1.mul (F1.neg F1.one) (F1.mul x.2 s.2)) = _;rw [F1.neg_mul,F1.one_mul,F1.neg_mul]
theorem zJ (x s : Q2) : (F2.mul x s).2 = F1.add (F1.mul x.2 s.1) (F1.mul x.1 s.2):=F1.add_comm _ _
theorem Zn (x s : Q2) : KM [x] [s] = (qO (sl2 [x]) (Pg [s]),qO (cr2 [x]) (Pg [s])):=Prod.ext (zK x s) (zJ x s)
theorem Zm (x y s t : Q2) : KM [x,y] [s,t] = (qO (sl2 [x,y]) (Pg [s,t]),qO (cr2 [x,y]) (Pg [s,t])):=by
 refine Prod.ext ?_ ?_
 ·show F1.add (F2.mul x s).1 (F2.mul y t).1 = F1.add (F1.add (F1.add (F1.mul x.1 s.1) (F1.mul (F1.neg x.2) s.2)) (F1.mul y.1 t.1)) (F1.mul (F1.neg y.2) t.2);rw [zK,zK]; simp only [F1.add_assoc]
 ·show F1.add (F2.mul x s).2 (F2.mul y t).2 = F1.add (F1.add (F1.add (F1.mul x.2 s.1) (F1.mul x.1 s.2)) (F1.mul y.2 t.1)) (F1.mul y.1 t.2);rw [zJ,zJ]; simp only [F1.add_assoc]
theorem Zl (x y z s t u : Q2) : KM [x,y,z] [s,t,u] = (qO (sl2 [x,y,z]) (Pg [s,t,u]),qO (cr2 [x,y,z]) (Pg [s,t,u])):=by
 refine Prod.ext ?_ ?_
 ·show F1.add (F1.add (F2.mul x s).1 (F2.mul y t).1) (F2.mul z u).1 = F1.add (F1.add (F1.add (F1.add (F1.add (F1.mul x.1 s.1) (F1.mul (F1.neg x.2) s.2)) (F1.mul y.1 t.1)) (F1.mul (F1.neg y.2) t.2)) (F1.mul z.1 u.1)) (F1.mul (F1.neg z.2) u.2);rw [zK,zK,zK]; simp only [F1.add_assoc]
 ·show F1.add (F1.add (F2.mul x s).2 (F2.mul y t).2) (F2.mul z u).2 = F1.add (F1.add (F1.add (F1.add (F1.add (F1.mul x.2 s.1) (F1.mul x.1 s.2)) (F1.mul y.2 t.1)) (F1.mul y.1 t.2)) (F1.mul z.2 u.1)) (F1.mul z.1 u.2);rw [zJ,zJ,zJ]; simp only [F1.add_assoc]
theorem aMB (c : Bool) (hB : TabOk prog (oJ c)) : ∀ cs pre r,aPC cs = some (pre,r) → aZ pre → ∀ (args : List Value) (w : World),bR w cs args → Good prog 179 r args w:=by
 intro cs pre r hg hp args w ha;unfold aPC at hg;split at hg
 ·rename_i l n m l' n' m';cases hb : (Nat.beq n n' && (Nat.ble n 3 && Nat.ble 1 n)) <;> rw [hb] at hg
  ·cases hg
  ·simp only [cond_true] at hg;split at hg
   ·rename_i x y hx hy;cases hg;obtain ⟨e1,e2⟩:=NR hx;obtain ⟨e3,e4⟩:=NR hy;subst e1; subst e3;simp only [Bool.and_eq_true] at hb;have hn:=Nat.eq_of_beq_eq_true hb.1;have h3:=Nat.le_of_ble_eq_true hb.2.1;have h1:=Nat.le_of_ble_eq_true hb.2.2;subst hn
    match x,y,n,e2,e4,h3,h1 with
    | [x],[s],1,_,_,_,_ =>
     rw [Zn];exact aH aG (xF c hB) aL func179 (Ya c x s m m') trivial ha
    | [x,y],[s,t],2,_,_,_,_ =>
     rw [Zm];exact aH aG (xF c hB) aL func179 (Xz c x y s t m m') trivial ha
    | [x,y,z],[s,t,u],3,_,_,_,_ =>
     rw [Zl];exact aH aG (xF c hB) aL func179 (Xy c x y z s t u m m') trivial ha
    | [],_,_,e2,_,_,h1 => exact absurd h1 (by rw [← e2]; decide)
    | _ :: _ :: _ :: _ :: l,_,_,e2,_,h3,_ => exact absurd h3 (by rw [← e2]; simp)
    | [_],[],_,e2,e4,_,_ => rw [← e2] at e4; cases e4
    | [_],_ :: _ :: _,_,e2,e4,_,_ => rw [← e2] at e4; simp at e4
    | [_,_],[],_,e2,e4,_,_ => rw [← e2] at e4; cases e4
    | [_,_],[_],_,e2,e4,_,_ => rw [← e2] at e4; cases e4
    | [_,_],_ :: _ :: _ :: _,_,e2,e4,_,_ => rw [← e2] at e4; simp at e4
    | [_,_,_],[],_,e2,e4,_,_ => rw [← e2] at e4; cases e4
    | [_,_,_],[_],_,e2,e4,_,_ => rw [← e2] at e4; cases e4
    | [_,_,_],[_,_],_,e2,e4,_,_ => rw [← e2] at e4; cases e4
    | [_,_,_],_ :: _ :: _ :: _ :: _,_,e2,e4,_,_ => rw [← e2] at e4; simp at e4
   ·cases hg
 ·cases hg
def Hf (c : Bool) : Tab:=(yC c).add 179 aPC
theorem Kd (c : Bool) (hB : TabOk prog (oJ c)) : TabOk prog (Hf c):=(xF c hB).ad func179 (aMB c hB)
theorem VG (c : Bool) (x : Q2) (y : Q2) : bK prog (Hf c) qN (fun _ => true) f187 40 [.v (.fl (e2 x)),.v (.fl (e2 y))] = some ([],.one (.fl (e2 (F2.mul x y)))):=by kernel_rfl
def AK (c : Bool) : Tab:=(Hf c).add 187 (g2 KC KC (fun x y => ([],.one (.fl (e2 (F2.mul x y))))))
theorem FX (c : Bool) (hB : TabOk prog (oJ c)) : TabOk prog (AK c):=(Kd c hB).ad func187 (eV fI fI fun x y hp args w ha => aH aG (Kd c hB) aL func187 (VG c x y) hp ha)
theorem Ql (c : Bool) (x : N2) : bK prog (AK c) qN (fun _ => true) f177 40 [.v (.fl (q2 x))] = some ([],.one (.fl (e2 (m2 x)))):=by kernel_rfl
def SU (c : Bool) : Tab:=(AK c).add 177 (g1 rq2 (fun x => ([],.one (.fl (e2 (m2 x))))))
theorem YI (c : Bool) (hB : TabOk prog (oJ c)) : TabOk prog (SU c):=(FX c hB).ad func177 (bJ rU fun x hp args w ha => aH aG (FX c hB) aL func177 (Ql c x) hp ha)
def nJ (x : Q6) : Q6:=(F2.sub (F2.mul x.1 x.1) (F2.mul (F2.mul x.2.1 x.2.2) dC),F2.sub (F2.mul (F2.mul x.2.2 x.2.2) dC) (F2.mul x.1 x.2.1),F2.sub (F2.mul x.2.1 x.2.1) (F2.mul x.1 x.2.2))
def n6 (x : Q6) : Q2:=(F6.mul x (nJ x)).1
def s6 (x : Q6) (k : Q2) : Q6:=(F2.mul x.1 k,F2.mul x.2.1 k,F2.mul x.2.2 k)
def iv6 (x : Q6) : Q6:=s6 (nJ x) (dR (n6 x))
theorem Bv (c : Bool) (x : Q6) (y : Q6) : bK prog (SU c) qN (fun _ => true) f127 40 [.v (.fl (e6 x)),.v (.fl (e6 y))] = some ([],.one (.fl (e6 (F6.add x y)))):=by kernel_rfl
def IU (c : Bool) : Tab:=(SU c).add 127 (g2 Sr Sr (fun x y => ([],.one (.fl (e6 (F6.add x y))))))
theorem LI (c : Bool) (hB : TabOk prog (oJ c)) : TabOk prog (IU c):=(YI c hB).ad func127 (eV mQ mQ fun x y hp args w ha => aH aG (YI c hB) aL func127 (Bv c x y) hp ha)
theorem VF (c : Bool) (x : Q6) (y : Q6) : bK prog (IU c) qN (fun _ => true) f129 40 [.v (.fl (e6 x)),.v (.fl (e6 y))] = some ([],.one (.fl (e6 (F6.sub x y)))):=by kernel_rfl
def AJ (c : Bool) : Tab:=(IU c).add 129 (g2 Sr Sr (fun x y => ([],.one (.fl (e6 (F6.sub x y))))))
theorem FW (c : Bool) (hB : TabOk prog (oJ c)) : TabOk prog (AJ c):=(LI c hB).ad func129 (eV mQ mQ fun x y hp args w ha => aH aG (LI c hB) aL func129 (VF c x y) hp ha)
theorem aFM (c : Bool) (x : Q6) : bK prog (AJ c) qN (fun _ => true) f128 40 [.v (.fl (e6 x))] = some ([],.one (.fl (e6 ((F2.mul x.2.2 dC,x.1,x.2.1))))):=by kernel_rfl
theorem CO (x : Q6) : F6.mul vE x = (F2.mul x.2.2 dC,x.1,x.2.1):=by
 show (F2.add (F2.mul F2.zero x.1) (F2.mul dC (F2.add (F2.mul F2.one x.2.2) (F2.mul F2.zero x.2.1))),F2.add (F2.add (F2.mul F2.zero x.2.1) (F2.mul F2.one x.1)) (F2.mul dC (F2.mul F2.zero x.2.2)),F2.add (F2.add (F2.mul F2.zero x.2.2) (F2.mul F2.one x.2.1)) (F2.mul F2.zero x.1)) = _;simp only [F2.zero_mul,F2.one_mul,F2.zero_add,F2.add_zero,F2.mul_zero,F2.mul_comm dC]
def aEu (c : Bool) : Tab:=(AJ c).add 128 (g1 Sr (fun x => ([],.one (.fl (e6 (F6.mul vE x))))))
theorem aAQ (c : Bool) (hB : TabOk prog (oJ c)) : TabOk prog (aEu c):=(FW c hB).ad func128 (bJ mQ fun x hp args w ha => by show Good _ _ (.one (.fl (e6 (F6.mul vE x)))) _ _; rw [CO x]; exact aH aG (FW c hB) aL func128 (aFM c x) hp ha)
theorem Qa (c : Bool) (x : Q6) : bK prog (aEu c) qN (fun _ => true) f130 40 [.v (.fl (e6 x))] = some ([],.one (.fl (e6 (x)))):=by kernel_rfl
def SN (c : Bool) : Tab:=(aEu c).add 130 (g1 Sr (fun x => ([],.one (.fl (e6 (x))))))
theorem YD (c : Bool) (hB : TabOk prog (oJ c)) : TabOk prog (SN c):=(aAQ c hB).ad func130 (bJ mQ fun x hp args w ha => aH aG (aAQ c hB) aL func130 (Qa c x) hp ha)
theorem Yj (c : Bool)  : bK prog (SN c) qN (fun _ => true) f176 40 [] = some ([],.one (.fl (e6 (F6.one)))):=by kernel_rfl
def Hn (c : Bool) : Tab:=(SN c).add 176 (g0 (.one (.fl (e6 (F6.one)))))
theorem Kl (c : Bool) (hB : TabOk prog (oJ c)) : TabOk prog (Hn c):=(YD c hB).ad func176 (gP fun w => aH aG (YD c hB) aL func176 (Yj c ) trivial (args:=[]) trivial)
theorem Qk (c : Bool) (x : N6) : bK prog (Hn c) qN (fun _ => true) f125 40 [.v (.fl (q6 x))] = some ([],.one (.fl (e6 (m6 x)))):=by kernel_rfl
def ST (c : Bool) : Tab:=(Hn c).add 125 (g1 rq6 (fun x => ([],.one (.fl (e6 (m6 x))))))
theorem YH (c : Bool) (hB : TabOk prog (oJ c)) : TabOk prog (ST c):=(Kl c hB).ad func125 (bJ aNf fun x hp args w ha => aH aG (Kl c hB) aL func125 (Qk c x) hp ha)
theorem VE (c : Bool) (x : Q6) (y : Q6) : bK prog (ST c) qN (fun _ => true) f126 40 [.v (.fl (e6 x)),.v (.fl (e6 y))] = some ([],.one (.fl (e6 ((KM [x.1,x.2.1,x.2.2] [y.1,F2.mul y.2.2 dC,F2.mul y.2.1 dC],KM [x.1,x.2.1,x.2.2] [y.2.1,y.1,F2.mul y.2.2 dC],KM [x.1,x.2.1,x.2.2] [y.2.2,y.2.1,y.1]))))):=by kernel_rfl
theorem WU (x : Q6) (y : Q6) : F6.mul x y = (KM [x.1,x.2.1,x.2.2] [y.1,F2.mul y.2.2 dC,F2.mul y.2.1 dC],KM [x.1,x.2.1,x.2.2] [y.2.1,y.1,F2.mul y.2.2 dC],KM [x.1,x.2.1,x.2.2] [y.2.2,y.2.1,y.1]):=by
 refine Prod.ext ?_ (Prod.ext ?_ rfl)
 ·show F2.add (F2.mul x.1 y.1) (F2.mul dC (F2.add (F2.mul x.2.1 y.2.2) (F2.mul x.2.2 y.2.1))) = F2.add (F2.add (F2.mul x.1 y.1) (F2.mul x.2.1 (F2.mul y.2.2 dC))) (F2.mul x.2.2 (F2.mul y.2.1 dC));rw [F2.mul_add,F2.add_assoc,F2.mul_comm dC,F2.mul_comm dC,F2.mul_assoc,F2.mul_assoc]
 ·show F2.add (F2.add (F2.mul x.1 y.2.1) (F2.mul x.2.1 y.1)) (F2.mul dC (F2.mul x.2.2 y.2.2)) = F2.add (F2.add (F2.mul x.1 y.2.1) (F2.mul x.2.1 y.1)) (F2.mul x.2.2 (F2.mul y.2.2 dC));rw [F2.mul_comm dC,F2.mul_assoc]
def tU (c : Bool) : Tab:=(ST c).add 126 (g2 Sr Sr (fun x y => ([],.one (.fl (e6 (F6.mul x y))))))
theorem vB (c : Bool) (hB : TabOk prog (oJ c)) : TabOk prog (tU c):=(YH c hB).ad func126 (eV mQ mQ fun x y hp args w ha => by show Good _ _ (.one (.fl (e6 (F6.mul x y)))) _ _; rw [WU x y]; exact aH aG (YH c hB) aL func126 (VE c x y) hp ha)
def aBk (c : Bool) (x : Q6) : List Prop × RV:=bif c then ([rK (n6 x) ≠ F1.zero],.many [.fl (e6 (iv6 x)),.im (.int .i64 0)]) else ([rK (n6 x) = F1.zero],.many [.fl (e6 F6.zero),.im (.int .i64 22)])
theorem EQ (x : Q6) : bK prog (tU true) qN (fun _ => true) f206 40 [.v (.fl (e6 x))] = some ([rK (n6 x) ≠ F1.zero],.many [.fl (e6 (iv6 x)),.im (.int .i64 0)]):=by kernel_rfl
theorem BX (x : Q6) : bK prog (tU false) qN (fun _ => true) f206 40 [.v (.fl (e6 x))] = some ([rK (n6 x) = F1.zero],.many [.fl (e6 F6.zero),.im (.int .i64 22)]):=by kernel_rfl
theorem aBj (c : Bool) (hB : TabOk prog (oJ c)) (x : Q6) (hp : aZ (aBk c x).1) (args : List Value) (w : World) (ha : bR w [.v (.fl (e6 x))] args) : Good prog 206 (aBk c x).2 args w:=by
 cases c
 ·exact aH aG (vB false hB) aL func206 (BX x) hp ha
 ·exact aH aG (vB true hB) aL func206 (EQ x) hp ha
def SO (c : Bool) : Tab:=(tU c).add 206 (g1 Sr (aBk c))
theorem YE (c : Bool) (hB : TabOk prog (oJ c)) : TabOk prog (SO c):=(vB c hB).ad func206 (bJ mQ (aBj c hB))
end Go.Proofs.YtglgakbkdjhojaaGreat.Ex
