/- Pk08 -/
import Derived.KernelRfl
import Derived.Deep.DeepCutAuto
import Derived.Test.YtfnkbmlmgnadmaaGreatPk07
import Derived.Test.YtfnkbmlmgnadmaaGreatPk03
import Derived.Test.YtfnkbmlmgnadmaaGreatPk00
import Derived.Test.YtfnkbmlmgnadmaaGreatPk06
import Derived.Test.YtfnkbmlmgnadmaaGreatPk02
set_option maxRecDepth 100000
set_option linter.unusedVariables false
set_option linter.unusedSimpArgs false
noncomputable section
namespace Go.Proofs.YtfnkbmlmgnadmaaGreat.Ex
open Go.Proofs.Tryz
structure FD {R : Type} (K : CR R) (inv : R → R) : Prop where
 ne : K.one ≠ K.zero
 inv : ∀ x,x ≠ K.zero → K.mul x (inv x) = K.one
section
variable {R : Type} {K : CR R} {inv : R → R}
theorem FD.zd (h : FD K inv) {a b : R} (e : K.mul a b = K.zero) (ha : a ≠ K.zero) : b = K.zero:=by
 have:=congrArg (K.mul (inv a)) e
 rwa [← K.mul_assoc,K.mul_comm (inv a),h.inv a ha,K.one_mul,K.mul_zero] at this
theorem FD.mul_ne (h : FD K inv) {a b : R} (ha : a ≠ K.zero) (hb : b ≠ K.zero) : K.mul a b ≠ K.zero:=fun e => hb (h.zd e ha)
theorem FD.cancel (h : FD K inv) {a b c : R} (ha : a ≠ K.zero) (e : K.mul a b = K.mul a c) : b = c:=by
 have:=congrArg (K.mul (inv a)) e
 rwa [← K.mul_assoc,← K.mul_assoc,K.mul_comm (inv a),h.inv a ha,K.one_mul,K.one_mul] at this
theorem iG {a b : R} (h : K.add a (K.neg b) = K.zero) : a = b:=by
 have h2 : K.add (K.add a (K.neg b)) b = K.add K.zero b:=congrArg (fun x => K.add x b) h
 rwa [K.add_assoc,K.neg_add,K.add_zero,K.zero_add] at h2
theorem dP {a b : R} (h : a = b) : K.add a (K.neg b) = K.zero:=by rw [h,K.add_neg]
theorem nQ {A B L1 R1 c1 : R} (h1 : L1 = R1) (e : K.add A (K.neg B) = K.mul c1 (K.add L1 (K.neg R1))) : A = B:=by
 apply iG (K:=K);rw [e,dP h1,K.mul_zero]
theorem pR {A B L1 R1 c1 L2 R2 c2 : R} (h1 : L1 = R1) (h2 : L2 = R2) (e : K.add A (K.neg B) = K.add (K.mul c1 (K.add L1 (K.neg R1))) (K.mul c2 (K.add L2 (K.neg R2)))) : A = B:=by
 apply iG (K:=K);rw [e,dP h1,dP h2,K.mul_zero,K.mul_zero,K.add_zero]
theorem Yz {A B L1 R1 c1 L2 R2 c2 L3 R3 c3 : R} (h1 : L1 = R1) (h2 : L2 = R2) (h3 : L3 = R3) (e : K.add A (K.neg B) = K.add (K.add (K.mul c1 (K.add L1 (K.neg R1))) (K.mul c2 (K.add L2 (K.neg R2)))) (K.mul c3 (K.add L3 (K.neg R3)))) : A = B:=by
 apply iG (K:=K);rw [e,dP h1,dP h2,dP h3,K.mul_zero,K.mul_zero,K.mul_zero,K.add_zero,K.add_zero]
end
section
variable {R : Type} (K : CR R)
def tl (f : Nat → R) : Nat → R:=fun n => f (n + 1)
def mK : Nat → (Nat → R) → (Nat → R) → R
 | 0,f,g => K.mul (f 0) (g 0)
 | n + 1,f,g => K.add (K.mul (f 0) (g (n + 1))) (mK n (tl f) g)
def Cf (f g : Nat → R) : Nat → R:=fun n => K.add (f n) (g n)
def fsc (c : R) (f : Nat → R) : Nat → R:=fun n => K.mul c (f n)
def RM (f g : Nat → R) : Nat → R:=fun n => mK K n f g
def aHS (f : Nat → R) : Nat → R:=fun n => K.neg (f n)
def fze : Nat → R:=fun _ => K.zero
def fco (c : R) : Nat → R | 0 => c | _ + 1 => K.zero
theorem AX : ∀ (n : Nat) (f g h : Nat → R),mK K n f (Cf K g h) = K.add (mK K n f g) (mK K n f h)
 | 0,f,g,h => K.mul_add _ _ _
 | n + 1,f,g,h => by
  show K.add (K.mul (f 0) (K.add _ _)) (mK K n (tl f) (Cf K g h)) = K.add (K.add _ _) (K.add _ _);rw [AX n,K.mul_add,K.add_assoc,K.add_assoc,K.add_left_comm (K.mul (f 0) (h (n + 1)))]
theorem AY : ∀ (n : Nat) (f g h : Nat → R),mK K n (Cf K f g) h = K.add (mK K n f h) (mK K n g h)
 | 0,f,g,h => K.add_mul _ _ _
 | n + 1,f,g,h => by
  show K.add (K.mul (K.add _ _) (h (n + 1))) (mK K n (Cf K (tl f) (tl g)) h) = K.add (K.add _ _) (K.add _ _);rw [AY n,K.add_mul,K.add_assoc,K.add_assoc,K.add_left_comm (K.mul (g 0) (h (n + 1)))]
theorem Mi : ∀ (n : Nat) (c : R) (f g : Nat → R),mK K n (fsc K c f) g = K.mul c (mK K n f g)
 | 0,c,f,g => K.mul_assoc _ _ _
 | n + 1,c,f,g => by
  show K.add (K.mul (K.mul c (f 0)) _) (mK K n (fsc K c (tl f)) g) = K.mul c (K.add _ _);rw [Mi n,K.mul_add,K.mul_assoc]
theorem RR : ∀ (n : Nat) (g : Nat → R),mK K n (fze K) g = K.zero
 | 0,g => K.zero_mul _
 | n + 1,g => by
  show K.add (K.mul K.zero _) (mK K n (fze K) g) = _;rw [RR n,K.zero_mul,K.add_zero]
theorem RT (c : R) (g : Nat → R) : ∀ n,mK K n (fco K c) g = K.mul c (g n)
 | 0 => rfl
 | n + 1 => by
  show K.add (K.mul c _) (mK K n (fze K) g) = _;rw [RR,K.add_zero]
theorem AW : ∀ (n : Nat) (f g h : Nat → R),mK K n (RM K f g) h = mK K n f (RM K g h)
 | 0,f,g,h => K.mul_assoc _ _ _
 | n + 1,f,g,h => by
  have e : tl (RM K f g) = Cf K (fsc K (f 0) (tl g)) (RM K (tl f) g):=rfl;show K.add (K.mul (K.mul (f 0) (g 0)) (h (n + 1))) (mK K n (tl (RM K f g)) h) = K.add (K.mul (f 0) (K.add (K.mul (g 0) (h (n + 1))) (mK K n (tl g) h))) (mK K n (tl f) (RM K g h));rw [e,AY,Mi,AW n,K.mul_add,K.mul_assoc,K.add_assoc]
theorem pS : ∀ (n : Nat) (f g : Nat → R),mK K n f g = mK K n g f
 | 0,f,g => K.mul_comm _ _
 | 1,f,g => by
  show K.add (K.mul (f 0) (g 1)) (K.mul (f 1) (g 0)) = K.add (K.mul (g 0) (f 1)) (K.mul (g 1) (f 0));rw [K.add_comm,K.mul_comm (f 1),K.mul_comm (f 0)]
 | n + 2,f,g => by
  show K.add (K.mul (f 0) (g (n + 2))) (mK K (n + 1) (tl f) g) = K.add (K.mul (g 0) (f (n + 2))) (mK K (n + 1) (tl g) f);rw [pS (n + 1) (tl f) g,pS (n + 1) (tl g) f];show K.add (K.mul (f 0) (g (n + 2))) (K.add (K.mul (g 0) (f (n + 2))) (mK K n (tl g) (tl f))) = K.add (K.mul (g 0) (f (n + 2))) (K.add (K.mul (f 0) (g (n + 2))) (mK K n (tl f) (tl g)));rw [K.add_left_comm,pS n (tl g) (tl f)]
theorem RS : ∀ (a b : Nat) (f g : Nat → R),(∀ i,a ≤ i → f i = K.zero) → (∀ i,b ≤ i → g i = K.zero) → ∀ n,a + b ≤ n + 1 → mK K n f g = K.zero
 | 0,b,f,g,hf,hg,n,h => by
  have : f = fze K:=funext fun i => hf i (Nat.zero_le _)
  rw [this,RR]
 | a + 1,b,f,g,hf,hg,0,h => by
  show K.mul (f 0) (g 0) = _;rw [hg 0 (by omega),K.mul_zero]
 | a + 1,b,f,g,hf,hg,n + 1,h => by
  show K.add (K.mul (f 0) (g (n + 1))) (mK K n (tl f) g) = _;rw [hg (n + 1) (by omega),K.mul_zero,K.zero_add];exact RS a b (tl f) g (fun i hi => hf (i + 1) (by omega)) hg n (by omega)
def Pol : Type:={f : Nat → R // ∃ n,∀ i,n ≤ i → f i = K.zero}
variable {K}
theorem Pol.ext {f g : Pol K} (h : ∀ n,f.1 n = g.1 n) : f = g:=Subtype.ext (funext h)
def aY : CR (Pol K) where
 add f g:=⟨Cf K f.1 g.1,by
  obtain ⟨a,ha⟩:=f.2; obtain ⟨b,hb⟩:=g.2;exact ⟨a + b,fun i hi => by show K.add (f.1 i) (g.1 i) = _; rw [ha i (by omega),hb i (by omega),K.add_zero]⟩⟩
 mul f g:=⟨RM K f.1 g.1,by
  obtain ⟨a,ha⟩:=f.2; obtain ⟨b,hb⟩:=g.2;exact ⟨a + b,fun i hi => RS K a b f.1 g.1 ha hb i (by omega)⟩⟩
 neg f:=⟨aHS K f.1,by
  obtain ⟨a,ha⟩:=f.2;exact ⟨a,fun i hi => by show K.neg (f.1 i) = _; rw [ha i hi,bM]⟩⟩
 zero:=⟨fze K,0,fun _ _ => rfl⟩
 one:=⟨fco K K.one,1,fun i hi => by cases i with | zero => omega | succ i => rfl⟩
 add_assoc a b c:=Pol.ext fun n => K.add_assoc _ _ _
 add_comm a b:=Pol.ext fun n => K.add_comm _ _
 zero_add a:=Pol.ext fun n => K.zero_add _
 neg_add a:=Pol.ext fun n => K.neg_add _
 mul_assoc a b c:=Pol.ext fun n => AW K n _ _ _
 mul_comm a b:=Pol.ext fun n => pS K n _ _
 one_mul a:=Pol.ext fun n => by show mK K n (fco K K.one) a.1 = _; rw [RT,K.one_mul]
 mul_add a b c:=Pol.ext fun n => AX K n _ _ _
def gV (c : R) : Pol K:=⟨fco K c,1,fun i hi => by cases i with | zero => omega | succ i => rfl⟩
def pX : Pol K:=⟨fun n => match n with | 1 => K.one | _ => K.zero,2,fun i hi => by match i,hi with | i + 2,_ => rfl⟩
theorem UP (a b : R) : (gV (K.add a b) : Pol K) = aY.add (gV a) (gV b):=Pol.ext fun n => by
 cases n with
 | zero => rfl
 | succ n => exact (K.zero_add _).symm
theorem Sw (a : R) : (gV (K.neg a) : Pol K) = aY.neg (gV a):=Pol.ext fun n => by
 cases n with
 | zero => rfl
 | succ n => exact (bM K).symm
theorem tS (a b : R) : (gV (K.mul a b) : Pol K) = aY.mul (gV a) (gV b):=Pol.ext fun n => by
 show _ = mK K n (fco K a) (fco K b);rw [RT];cases n with
 | zero => rfl
 | succ n => exact (K.mul_zero _).symm
def dg (f : Pol K) (n : Nat) : Prop:=f.1 n ≠ K.zero ∧ ∀ i,n < i → f.1 i = K.zero
theorem Me {f : Pol K} {n : Nat} (h : dg f n) : f ≠ aY.zero:=fun e => h.1 (by rw [e]; rfl)
theorem aCr {f : Pol K} {n m : Nat} (h : dg f n) (g : dg f m) : n = m:=by
 rcases Nat.lt_trichotomy n m with q | q | q
 ·exact absurd (h.2 m q) g.1
 ·exact q
 ·exact absurd (g.2 n q) h.1
theorem XB (f : Pol K) (h : f ≠ aY.zero) : ∃ n,dg f n:=by
 obtain ⟨b,hb⟩:=f.2;have : ∀ b,(∀ i,b ≤ i → f.1 i = K.zero) → ∃ n,dg f n:=by
  intro b
  induction b with
  | zero => exact fun hb => absurd (Pol.ext fun n => hb n (Nat.zero_le _)) h
  | succ b ih =>
   intro hb
   by_cases h0 : f.1 b = K.zero
   ·exact ih fun i hi => by
     rcases Nat.lt_or_ge b i with q | q
     ·exact hb i q
     ·rw [show i = b by omega,h0]
   ·exact ⟨b,h0,hb⟩
 exact this b hb
variable {inv : R → R}
theorem XG : ∀ (a b : Nat) (f g : Nat → R),(∀ i,a < i → f i = K.zero) → (∀ i,b < i → g i = K.zero) → mK K (a + b) f g = K.mul (f a) (g b)
 | 0,b,f,g,hf,hg => by
  have : f = fco K (f 0):=funext fun i => by cases i with | zero => rfl | succ i => exact hf _ (by omega)
  rw [this,RT,Nat.zero_add]; rfl
 | a + 1,b,f,g,hf,hg => by
  rw [show a + 1 + b = (a + b) + 1 by omega];show K.add (K.mul (f 0) (g (a + b + 1))) (mK K (a + b) (tl f) g) = _;rw [hg (a + b + 1) (by omega),K.mul_zero,K.zero_add];exact XG a b (tl f) g (fun i hi => hf (i + 1) (by omega)) hg
theorem jR (F : FD K inv) {f g : Pol K} {n m : Nat} (hf : dg f n) (hg : dg g m) : dg (aY.mul f g) (n + m):=by
 refine ⟨?_,fun i hi => RS K (n + 1) (m + 1) f.1 g.1 (fun j hj => hf.2 j hj) (fun j hj => hg.2 j hj) i (by omega)⟩
 ·show mK K (n + m) f.1 g.1 ≠ _;rw [XG n m f.1 g.1 hf.2 hg.2];exact F.mul_ne hf.1 hg.1
theorem wZ {f g : Pol K} {n : Nat} (hf : dg f n) (hg : ∀ i,n ≤ i → g.1 i = K.zero) : dg (aY.add f g) n:=by
 refine ⟨?_,fun i hi => ?_⟩
 ·show K.add (f.1 n) (g.1 n) ≠ _;rw [hg n (Nat.le_refl _),K.add_zero]; exact hf.1
 ·show K.add (f.1 i) (g.1 i) = _;rw [hf.2 i hi,hg i (by omega),K.add_zero]
theorem aBn {a : R} (h : a ≠ K.zero) : K.neg a ≠ K.zero:=fun e => h (by rw [← K.neg_neg a,e,bM])
theorem Md {f : Pol K} {n : Nat} (hf : dg f n) : dg (aY.neg f) n :=
 ⟨aBn hf.1,fun i hi => by show K.neg (f.1 i) = _; rw [hf.2 i hi,bM]⟩
theorem wY (F : FD K inv) (c : R) : dg (aY.sub (pX : Pol K) (gV c)) 1:=by
 refine ⟨?_,fun i hi => ?_⟩
 ·show K.add K.one (K.neg K.zero) ≠ _;rw [bM,K.add_zero]; exact F.ne
 ·match i,hi with
  | i + 2,_ => show K.add K.zero (K.neg K.zero) = _; rw [bM,K.add_zero]
def qP (c : R) : Pol K:=aY.add (aY.mul pX (aY.mul pX pX)) (gV c)
theorem aCs (F : FD K inv) : dg (pX : Pol K) 1:=⟨F.ne,fun i hi => by match i,hi with | i + 2,_ => rfl⟩
theorem aFP (F : FD K inv) (c : R) : dg (qP c : Pol K) 3 :=
 wZ (jR F (aCs F) (jR F (aCs F) (aCs F))) fun i hi => by match i,hi with | i + 1,_ => rfl
theorem AH (F : FD K inv) {c k : R} {h : Pol K} (e : aY.mul (aY.sub (pX : Pol K) (gV c)) h = gV k) : k = K.zero:=by
 by_cases h0 : h = aY.zero
 ·rw [h0,aY.mul_zero] at e;exact (congrArg (fun p : Pol K => p.1 0) e).symm
 ·obtain ⟨n,hn⟩:=XB h h0;have:=jR F (wY F c) hn;rw [e] at this;exact absurd (by rw [Nat.add_comm]; rfl) this.1
end
section
variable {A : Type} {K : CR A}
theorem aFU {M N L1 R1 c1 L2 R2 c2 L3 R3 c3 L4 R4 c4 : A} (h1 : L1 = R1) (h2 : L2 = R2) (h3 : L3 = R3) (h4 : L4 = R4) (e : K.add M (K.neg N) = K.add (K.add (K.add (K.mul c1 (K.add L1 (K.neg R1))) (K.mul c2 (K.add L2 (K.neg R2)))) (K.mul c3 (K.add L3 (K.neg R3)))) (K.mul c4 (K.add L4 (K.neg R4)))) : M = N:=by
 apply iG (K:=K);rw [e,dP h1,dP h2,dP h3,dP h4,K.mul_zero,K.mul_zero,K.mul_zero,K.mul_zero,K.add_zero,K.add_zero,K.add_zero]
def op (K : CR A) (X Y x y : A) (S : A → Prop) : A → Prop:=fun z => ∃ s t,S s ∧ S t ∧ z = K.add (K.mul (K.sub X x) s) (K.mul (K.sub Y y) t)
structure Idl (K : CR A) (S : A → Prop) : Prop where
 add : ∀ a b,S a → S b → S (K.add a b)
 mul : ∀ a c,S a → S (K.mul c a)
theorem Idl.neg {S : A → Prop} (h : Idl K S) {a : A} (ha : S a) : S (K.neg a):=by
 have:=h.mul a (K.neg K.one) ha
 rwa [K.neg_mul,K.one_mul] at this
theorem Idl.sub {S : A → Prop} (h : Idl K S) {a b : A} (ha : S a) (hb : S b) : S (K.sub a b):=h.add _ _ ha (h.neg hb)
def Eqv (K : CR A) (S T : A → Prop) : Prop:=∃ a b,a ≠ K.zero ∧ b ≠ K.zero ∧ (∀ s,S s → ∃ t,T t ∧ K.mul a s = K.mul b t) ∧ (∀ t,T t → ∃ s,S s ∧ K.mul a s = K.mul b t)
def Dom (K : CR A) : Prop:=K.one ≠ K.zero ∧ ∀ a b,a ≠ K.zero → b ≠ K.zero → K.mul a b ≠ K.zero
theorem Eqv.refl (D : Dom K) (S : A → Prop) : Eqv K S S:=⟨K.one,K.one,D.1,D.1,fun s h => ⟨s,h,rfl⟩,fun s h => ⟨s,h,rfl⟩⟩
theorem Eqv.symm {S T : A → Prop} (h : Eqv K S T) : Eqv K T S:=by
 obtain ⟨a,b,ha,hb,h1,h2⟩:=h;exact ⟨b,a,hb,ha,fun t ht => by obtain ⟨s,hs,e⟩:=h2 t ht; exact ⟨s,hs,e.symm⟩,fun s hs => by obtain ⟨t,ht,e⟩:=h1 s hs; exact ⟨t,ht,e.symm⟩⟩
theorem Eqv.trans (D : Dom K) {S T U : A → Prop} (h : Eqv K S T) (g : Eqv K T U) : Eqv K S U:=by
 obtain ⟨a,b,ha,hb,h1,h2⟩:=h;obtain ⟨c,d,hc,hd,g1,g2⟩:=g;have key : ∀ s t u,K.mul a s = K.mul b t → K.mul c t = K.mul d u → K.mul (K.mul c a) s = K.mul (K.mul b d) u:=fun s t u e f => by
  rw [K.mul_assoc,e,K.mul_left_comm,f,K.mul_assoc]
 refine ⟨K.mul c a,K.mul b d,D.2 _ _ hc ha,D.2 _ _ hb hd,fun s hs => ?_,fun u hu => ?_⟩
 ·obtain ⟨t,ht,e⟩:=h1 s hs;obtain ⟨u,hu,f⟩:=g1 t ht;exact ⟨u,hu,key s t u e f⟩
 ·obtain ⟨t,ht,f⟩:=g2 u hu;obtain ⟨s,hs,e⟩:=h2 t ht;exact ⟨s,hs,key s t u e f⟩
variable {X Y : A}
theorem KE {x y al be s s2 t t2 : A} (e : K.mul al s = K.mul be t) (f : K.mul al s2 = K.mul be t2) : K.mul al (K.add (K.mul (K.sub X x) s) (K.mul (K.sub Y y) s2)) = K.mul be (K.add (K.mul (K.sub X x) t) (K.mul (K.sub Y y) t2)) :=
 pR (K:=K) (c1:=(K.sub X x)) (c2:=(K.sub Y y)) e f (aN K (bX K [al,X,x,s,Y,y,s2,be,t,t2]) (.add (.mul (.v 0) (.add (.mul (.add (.v 1) (.neg (.v 2))) (.v 3)) (.mul (.add (.v 4) (.neg (.v 5))) (.v 6)))) (.neg (.mul (.v 7) (.add (.mul (.add (.v 1) (.neg (.v 2))) (.v 8)) (.mul (.add (.v 4) (.neg (.v 5))) (.v 9)))))) (.add (.mul (.add (.v 1) (.neg (.v 2))) (.add (.mul (.v 0) (.v 3)) (.neg (.mul (.v 7) (.v 8))))) (.mul (.add (.v 4) (.neg (.v 5))) (.add (.mul (.v 0) (.v 6)) (.neg (.mul (.v 7) (.v 9)))))) (by kernel_rfl))
theorem Eqv.op {S T : A → Prop} (x y : A) (h : Eqv K S T) : Eqv K (op K X Y x y S) (op K X Y x y T):=by
 obtain ⟨a,b,ha,hb,h1,h2⟩:=h;refine ⟨a,b,ha,hb,?_,?_⟩
 ·rintro z ⟨s,s2,hs,hs2,rfl⟩
  obtain ⟨t,ht,e⟩:=h1 s hs;obtain ⟨t2,ht2,f⟩:=h1 s2 hs2;exact ⟨_,⟨t,t2,ht,ht2,rfl⟩,KE e f⟩
 ·rintro z ⟨t,t2,ht,ht2,rfl⟩
  obtain ⟨s,hs,e⟩:=h2 t ht;obtain ⟨s2,hs2,f⟩:=h2 t2 ht2;exact ⟨_,⟨s,s2,hs,hs2,rfl⟩,KE e f⟩
theorem KD {S : A → Prop} (x y x' y' : A) {z : A} (h : op K X Y x y (op K X Y x' y' S) z) : op K X Y x' y' (op K X Y x y S) z:=by
 obtain ⟨_,_,⟨a,bb,ha,hb,rfl⟩,⟨c,d,hc,hd,rfl⟩,rfl⟩:=h;exact ⟨_,_,⟨a,c,ha,hc,rfl⟩,⟨bb,d,hb,hd,rfl⟩,aN K (bX K [X,x,x',a,Y,y',bb,y,c,d]) (.add (.mul (.add (.v 0) (.neg (.v 1))) (.add (.mul (.add (.v 0) (.neg (.v 2))) (.v 3)) (.mul (.add (.v 4) (.neg (.v 5))) (.v 6)))) (.mul (.add (.v 4) (.neg (.v 7))) (.add (.mul (.add (.v 0) (.neg (.v 2))) (.v 8)) (.mul (.add (.v 4) (.neg (.v 5))) (.v 9))))) (.add (.mul (.add (.v 0) (.neg (.v 2))) (.add (.mul (.add (.v 0) (.neg (.v 1))) (.v 3)) (.mul (.add (.v 4) (.neg (.v 7))) (.v 8)))) (.mul (.add (.v 4) (.neg (.v 5))) (.add (.mul (.add (.v 0) (.neg (.v 1))) (.v 6)) (.mul (.add (.v 4) (.neg (.v 7))) (.v 9))))) (by kernel_rfl)⟩
theorem Tc {S : A → Prop} (x y x' y' : A) : op K X Y x y (op K X Y x' y' S) = op K X Y x' y' (op K X Y x y S) :=
 funext fun z => propext ⟨KD x y x' y',KD x' y' x y⟩
theorem Hz {S : A → Prop} (h : Idl K S) (x y : A) : Idl K (op K X Y x y S) where
 add:=by
  rintro _ _ ⟨a,b,ha,hb,rfl⟩ ⟨c,d,hc,hd,rfl⟩
  exact ⟨_,_,h.add a c ha hc,h.add b d hb hd,aN K (bX K [X,x,a,Y,y,b,c,d]) (.add (.add (.mul (.add (.v 0) (.neg (.v 1))) (.v 2)) (.mul (.add (.v 3) (.neg (.v 4))) (.v 5))) (.add (.mul (.add (.v 0) (.neg (.v 1))) (.v 6)) (.mul (.add (.v 3) (.neg (.v 4))) (.v 7)))) (.add (.mul (.add (.v 0) (.neg (.v 1))) (.add (.v 2) (.v 6))) (.mul (.add (.v 3) (.neg (.v 4))) (.add (.v 5) (.v 7)))) (by kernel_rfl)⟩
 mul:=by
  rintro _ c ⟨a,b,ha,hb,rfl⟩
  exact ⟨_,_,h.mul a c ha,h.mul b c hb,aN K (bX K [c,X,x,a,Y,y,b]) (.mul (.v 0) (.add (.mul (.add (.v 1) (.neg (.v 2))) (.v 3)) (.mul (.add (.v 4) (.neg (.v 5))) (.v 6)))) (.add (.mul (.add (.v 1) (.neg (.v 2))) (.mul (.v 0) (.v 3))) (.mul (.add (.v 4) (.neg (.v 5))) (.mul (.v 0) (.v 6)))) (by kernel_rfl)⟩
theorem aAY {b x y k : A} (hY : K.mul Y Y = K.add (K.mul X (K.mul X X)) b) (hy : K.mul y y = K.add (K.mul x (K.mul x x)) b) (hk : K.mul k (K.add y y) = K.one) (D : Dom K) (hX : K.sub X x ≠ K.zero) {S : A → Prop} (h : Idl K S) : Eqv K (op K X Y x y (op K X Y x (K.neg y) S)) S:=by
 refine ⟨K.one,K.sub X x,D.1,hX,?_,?_⟩
 ·rintro _ ⟨_,_,⟨a,bb,ha,hb,rfl⟩,⟨c,d,hc,hd,rfl⟩,rfl⟩
  refine ⟨(K.add (K.add (K.add (K.mul (K.sub X x) a) (K.mul (K.sub Y (K.neg y)) bb)) (K.mul (K.sub Y y) c)) (K.mul (K.add (K.add (K.mul X X) (K.mul x X)) (K.mul x x)) d)),h.add _ _ (h.add _ _ (h.add _ _ (h.mul _ _ ha) (h.mul _ _ hb)) (h.mul _ _ hc)) (h.mul _ _ hd),?_⟩;rw [K.one_mul];exact pR (K:=K) (c1:=d) (c2:=(K.neg d)) hY hy (aN K (bX K [X,x,a,Y,y,bb,c,d,b]) (.add (.add (.mul (.add (.v 0) (.neg (.v 1))) (.add (.mul (.add (.v 0) (.neg (.v 1))) (.v 2)) (.mul (.add (.v 3) (.neg (.neg (.v 4)))) (.v 5)))) (.mul (.add (.v 3) (.neg (.v 4))) (.add (.mul (.add (.v 0) (.neg (.v 1))) (.v 6)) (.mul (.add (.v 3) (.neg (.neg (.v 4)))) (.v 7))))) (.neg (.mul (.add (.v 0) (.neg (.v 1))) (.add (.add (.add (.mul (.add (.v 0) (.neg (.v 1))) (.v 2)) (.mul (.add (.v 3) (.neg (.neg (.v 4)))) (.v 5))) (.mul (.add (.v 3) (.neg (.v 4))) (.v 6))) (.mul (.add (.add (.mul (.v 0) (.v 0)) (.mul (.v 1) (.v 0))) (.mul (.v 1) (.v 1))) (.v 7)))))) (.add (.mul (.v 7) (.add (.mul (.v 3) (.v 3)) (.neg (.add (.mul (.v 0) (.mul (.v 0) (.v 0))) (.v 8))))) (.mul (.neg (.v 7)) (.add (.mul (.v 4) (.v 4)) (.neg (.add (.mul (.v 1) (.mul (.v 1) (.v 1))) (.v 8)))))) (by kernel_rfl))
 ·intro t ht;refine ⟨_,⟨_,_,⟨_,_,h.mul t K.zero ht,h.mul t k ht,rfl⟩,⟨_,_,h.mul t (K.neg k) ht,h.mul t K.zero ht,rfl⟩,rfl⟩,?_⟩;rw [K.one_mul];exact nQ (K:=K) (c1:=(K.mul (K.sub X x) t)) hk (aN K (bX K [X,x,t,Y,y,k]) (.add (.add (.mul (.add (.v 0) (.neg (.v 1))) (.add (.mul (.add (.v 0) (.neg (.v 1))) (.mul .zero (.v 2))) (.mul (.add (.v 3) (.neg (.neg (.v 4)))) (.mul (.v 5) (.v 2))))) (.mul (.add (.v 3) (.neg (.v 4))) (.add (.mul (.add (.v 0) (.neg (.v 1))) (.mul (.neg (.v 5)) (.v 2))) (.mul (.add (.v 3) (.neg (.neg (.v 4)))) (.mul .zero (.v 2)))))) (.neg (.mul (.add (.v 0) (.neg (.v 1))) (.v 2)))) (.mul (.mul (.add (.v 0) (.neg (.v 1))) (.v 2)) (.add (.mul (.v 5) (.add (.v 4) (.v 4))) (.neg .one))) (by kernel_rfl))
theorem Bu {b x1 y1 x2 l : A} (hY : K.mul Y Y = K.add (K.mul X (K.mul X X)) b) (H2 : (K.mul l (K.add y1 (K.add y1 (K.mul l (K.sub x2 x1))))) = (K.add (K.add (K.mul x1 x1) (K.mul x1 x2)) (K.mul x2 x2))) (H3 : (K.mul y1 y1) = (K.add (K.mul x1 (K.mul x1 x1)) b)) : (K.mul (K.sub X x1) (K.mul (K.sub X x2) (K.sub X (K.sub (K.sub (K.mul l l) x1) x2)))) = (K.mul (K.sub (K.sub Y y1) (K.mul l (K.sub X x1))) (K.add (K.sub Y (K.sub (K.mul l (K.sub x1 (K.sub (K.sub (K.mul l l) x1) x2))) y1)) (K.mul l (K.sub X (K.sub (K.sub (K.mul l l) x1) x2))))) :=
 Yz (K:=K) (c1:=(K.neg K.one)) (c2:=K.one) (c3:=(K.sub X x1)) hY H3 H2 (aN K (bX K [X,x1,x2,l,Y,y1,b]) (.add (.mul (.add (.v 0) (.neg (.v 1))) (.mul (.add (.v 0) (.neg (.v 2))) (.add (.v 0) (.neg (.add (.add (.mul (.v 3) (.v 3)) (.neg (.v 1))) (.neg (.v 2))))))) (.neg (.mul (.add (.add (.v 4) (.neg (.v 5))) (.neg (.mul (.v 3) (.add (.v 0) (.neg (.v 1)))))) (.add (.add (.v 4) (.neg (.add (.mul (.v 3) (.add (.v 1) (.neg (.add (.add (.mul (.v 3) (.v 3)) (.neg (.v 1))) (.neg (.v 2)))))) (.neg (.v 5))))) (.mul (.v 3) (.add (.v 0) (.neg (.add (.add (.mul (.v 3) (.v 3)) (.neg (.v 1))) (.neg (.v 2)))))))))) (.add (.add (.mul (.neg .one) (.add (.mul (.v 4) (.v 4)) (.neg (.add (.mul (.v 0) (.mul (.v 0) (.v 0))) (.v 6))))) (.mul .one (.add (.mul (.v 5) (.v 5)) (.neg (.add (.mul (.v 1) (.mul (.v 1) (.v 1))) (.v 6)))))) (.mul (.add (.v 0) (.neg (.v 1))) (.add (.mul (.v 3) (.add (.v 5) (.add (.v 5) (.mul (.v 3) (.add (.v 2) (.neg (.v 1))))))) (.neg (.add (.add (.mul (.v 1) (.v 1)) (.mul (.v 1) (.v 2))) (.mul (.v 2) (.v 2))))))) (by kernel_rfl))
theorem aAX {b x1 y1 x2 l : A} (hY : K.mul Y Y = K.add (K.mul X (K.mul X X)) b) (H2 : (K.mul l (K.add y1 (K.add y1 (K.mul l (K.sub x2 x1))))) = (K.add (K.add (K.mul x1 x1) (K.mul x1 x2)) (K.mul x2 x2))) (H3 : (K.mul y1 y1) = (K.add (K.mul x1 (K.mul x1 x1)) b)) (hk : (∃ k,K.mul k (K.add y1 (K.add y1 (K.mul l (K.sub x2 x1)))) = K.one) ∨ (∃ k,K.mul k (K.sub x2 x1) = K.one)) (hX : K.sub X (K.sub (K.sub (K.mul l l) x1) x2) ≠ K.zero) (hl : (K.sub (K.sub Y y1) (K.mul l (K.sub X x1))) ≠ K.zero) {S : A → Prop} (h : Idl K S) : Eqv K (op K X Y x1 y1 (op K X Y x2 (K.add y1 (K.mul l (K.sub x2 x1))) S)) (op K X Y (K.sub (K.sub (K.mul l l) x1) x2) (K.sub (K.mul l (K.sub x1 (K.sub (K.sub (K.mul l l) x1) x2))) y1) S):=by
 have HC:=Bu (X:=X) (Y:=Y) hY H2 H3;refine ⟨K.sub X (K.sub (K.sub (K.mul l l) x1) x2),(K.sub (K.sub Y y1) (K.mul l (K.sub X x1))),hX,hl,?_,?_⟩
 ·rintro _ ⟨_,_,⟨a,bb,ha,hb,rfl⟩,⟨c,d,hc,hd,rfl⟩,rfl⟩
  exact ⟨_,⟨(K.add (K.add (K.add (K.mul l a) (K.mul (K.add (K.sub X x1) (K.mul l l)) bb)) (K.mul (K.add (K.sub X x2) (K.mul l l)) c)) (K.mul (K.add (K.add (K.add (K.sub (K.sub Y y1) (K.mul l (K.sub X x1))) (K.mul l (K.sub X x1))) (K.mul l (K.sub X x2))) (K.mul l (K.mul l l))) d)),(K.add (K.add (K.add a (K.mul l bb)) (K.mul l c)) (K.mul (K.mul l l) d)),h.add _ _ (h.add _ _ (h.add _ _ (h.mul _ _ ha) (h.mul _ _ hb)) (h.mul _ _ hc)) (h.mul _ _ hd),h.add _ _ (h.add _ _ (h.add _ _ ha (h.mul _ _ hb)) (h.mul _ _ hc)) (h.mul _ _ hd),rfl⟩,nQ (K:=K) (c1:=(K.add (K.add (K.add a (K.mul l bb)) (K.mul l c)) (K.mul (K.mul l l) d))) HC (aN K (bX K [X,l,x1,x2,a,Y,y1,bb,c,d]) (.add (.mul (.add (.v 0) (.neg (.add (.add (.mul (.v 1) (.v 1)) (.neg (.v 2))) (.neg (.v 3))))) (.add (.mul (.add (.v 0) (.neg (.v 2))) (.add (.mul (.add (.v 0) (.neg (.v 3))) (.v 4)) (.mul (.add (.v 5) (.neg (.add (.v 6) (.mul (.v 1) (.add (.v 3) (.neg (.v 2))))))) (.v 7)))) (.mul (.add (.v 5) (.neg (.v 6))) (.add (.mul (.add (.v 0) (.neg (.v 3))) (.v 8)) (.mul (.add (.v 5) (.neg (.add (.v 6) (.mul (.v 1) (.add (.v 3) (.neg (.v 2))))))) (.v 9)))))) (.neg (.mul (.add (.add (.v 5) (.neg (.v 6))) (.neg (.mul (.v 1) (.add (.v 0) (.neg (.v 2)))))) (.add (.mul (.add (.v 0) (.neg (.add (.add (.mul (.v 1) (.v 1)) (.neg (.v 2))) (.neg (.v 3))))) (.add (.add (.add (.mul (.v 1) (.v 4)) (.mul (.add (.add (.v 0) (.neg (.v 2))) (.mul (.v 1) (.v 1))) (.v 7))) (.mul (.add (.add (.v 0) (.neg (.v 3))) (.mul (.v 1) (.v 1))) (.v 8))) (.mul (.add (.add (.add (.add (.add (.v 5) (.neg (.v 6))) (.neg (.mul (.v 1) (.add (.v 0) (.neg (.v 2)))))) (.mul (.v 1) (.add (.v 0) (.neg (.v 2))))) (.mul (.v 1) (.add (.v 0) (.neg (.v 3))))) (.mul (.v 1) (.mul (.v 1) (.v 1)))) (.v 9)))) (.mul (.add (.v 5) (.neg (.add (.mul (.v 1) (.add (.v 2) (.neg (.add (.add (.mul (.v 1) (.v 1)) (.neg (.v 2))) (.neg (.v 3)))))) (.neg (.v 6))))) (.add (.add (.add (.v 4) (.mul (.v 1) (.v 7))) (.mul (.v 1) (.v 8))) (.mul (.mul (.v 1) (.v 1)) (.v 9)))))))) (.mul (.add (.add (.add (.v 4) (.mul (.v 1) (.v 7))) (.mul (.v 1) (.v 8))) (.mul (.mul (.v 1) (.v 1)) (.v 9))) (.add (.mul (.add (.v 0) (.neg (.v 2))) (.mul (.add (.v 0) (.neg (.v 3))) (.add (.v 0) (.neg (.add (.add (.mul (.v 1) (.v 1)) (.neg (.v 2))) (.neg (.v 3))))))) (.neg (.mul (.add (.add (.v 5) (.neg (.v 6))) (.neg (.mul (.v 1) (.add (.v 0) (.neg (.v 2)))))) (.add (.add (.v 5) (.neg (.add (.mul (.v 1) (.add (.v 2) (.neg (.add (.add (.mul (.v 1) (.v 1)) (.neg (.v 2))) (.neg (.v 3)))))) (.neg (.v 6))))) (.mul (.v 1) (.add (.v 0) (.neg (.add (.add (.mul (.v 1) (.v 1)) (.neg (.v 2))) (.neg (.v 3))))))))))) (by kernel_rfl))⟩
 ·rintro _ ⟨u,w,hu,hw,rfl⟩
  have hg : S (K.sub u (K.mul l w)):=h.sub hu (h.mul _ _ hw);have e0 : K.mul (K.sub (K.sub Y y1) (K.mul l (K.sub X x1))) (K.add (K.mul (K.sub X (K.sub (K.sub (K.mul l l) x1) x2)) u) (K.mul (K.sub Y (K.sub (K.mul l (K.sub x1 (K.sub (K.sub (K.mul l l) x1) x2))) y1)) w)) = K.mul (K.sub X (K.sub (K.sub (K.mul l l) x1) x2)) (K.add (K.mul (K.sub (K.sub Y y1) (K.mul l (K.sub X x1))) (K.sub u (K.mul l w))) (K.mul (K.sub X x1) (K.mul (K.sub X x2) w))) :=
   nQ (K:=K) (c1:=(K.neg w)) HC (aN K (bX K [Y,y1,l,X,x1,x2,u,w]) (.add (.mul (.add (.add (.v 0) (.neg (.v 1))) (.neg (.mul (.v 2) (.add (.v 3) (.neg (.v 4)))))) (.add (.mul (.add (.v 3) (.neg (.add (.add (.mul (.v 2) (.v 2)) (.neg (.v 4))) (.neg (.v 5))))) (.v 6)) (.mul (.add (.v 0) (.neg (.add (.mul (.v 2) (.add (.v 4) (.neg (.add (.add (.mul (.v 2) (.v 2)) (.neg (.v 4))) (.neg (.v 5)))))) (.neg (.v 1))))) (.v 7)))) (.neg (.mul (.add (.v 3) (.neg (.add (.add (.mul (.v 2) (.v 2)) (.neg (.v 4))) (.neg (.v 5))))) (.add (.mul (.add (.add (.v 0) (.neg (.v 1))) (.neg (.mul (.v 2) (.add (.v 3) (.neg (.v 4)))))) (.add (.v 6) (.neg (.mul (.v 2) (.v 7))))) (.mul (.add (.v 3) (.neg (.v 4))) (.mul (.add (.v 3) (.neg (.v 5))) (.v 7))))))) (.mul (.neg (.v 7)) (.add (.mul (.add (.v 3) (.neg (.v 4))) (.mul (.add (.v 3) (.neg (.v 5))) (.add (.v 3) (.neg (.add (.add (.mul (.v 2) (.v 2)) (.neg (.v 4))) (.neg (.v 5))))))) (.neg (.mul (.add (.add (.v 0) (.neg (.v 1))) (.neg (.mul (.v 2) (.add (.v 3) (.neg (.v 4)))))) (.add (.add (.v 0) (.neg (.add (.mul (.v 2) (.add (.v 4) (.neg (.add (.add (.mul (.v 2) (.v 2)) (.neg (.v 4))) (.neg (.v 5)))))) (.neg (.v 1))))) (.mul (.v 2) (.add (.v 3) (.neg (.add (.add (.mul (.v 2) (.v 2)) (.neg (.v 4))) (.neg (.v 5))))))))))) (by kernel_rfl))
  generalize hge : (K.sub u (K.mul l w)) = g at hg e0;rw [e0]
  rcases hk with ⟨k,hk⟩ | ⟨k,hk⟩
  ·refine ⟨_,⟨_,_,⟨_,_,h.add _ _ (h.mul g (K.mul k (K.add (K.add X x1) x2)) hg) hw,h.mul g K.zero hg,rfl⟩,⟨_,_,h.mul g K.zero hg,h.mul g (K.neg k) hg,rfl⟩,rfl⟩,congrArg (K.mul _) ?_⟩;exact aFU (K:=K) (c1:=(K.mul (K.sub (K.sub Y y1) (K.mul l (K.sub X x1))) g)) (c2:=(K.neg (K.mul k g))) (c3:=(K.mul k g)) (c4:=(K.mul (K.mul k g) (K.sub X x1))) hk hY H3 H2 (aN K (bX K [X,x1,x2,k,g,w,Y,y1,l,b]) (.add (.add (.mul (.add (.v 0) (.neg (.v 1))) (.add (.mul (.add (.v 0) (.neg (.v 2))) (.add (.mul (.mul (.v 3) (.add (.add (.v 0) (.v 1)) (.v 2))) (.v 4)) (.v 5))) (.mul (.add (.v 6) (.neg (.add (.v 7) (.mul (.v 8) (.add (.v 2) (.neg (.v 1))))))) (.mul .zero (.v 4))))) (.mul (.add (.v 6) (.neg (.v 7))) (.add (.mul (.add (.v 0) (.neg (.v 2))) (.mul .zero (.v 4))) (.mul (.add (.v 6) (.neg (.add (.v 7) (.mul (.v 8) (.add (.v 2) (.neg (.v 1))))))) (.mul (.neg (.v 3)) (.v 4)))))) (.neg (.add (.mul (.add (.add (.v 6) (.neg (.v 7))) (.neg (.mul (.v 8) (.add (.v 0) (.neg (.v 1)))))) (.v 4)) (.mul (.add (.v 0) (.neg (.v 1))) (.mul (.add (.v 0) (.neg (.v 2))) (.v 5)))))) (.add (.add (.add (.mul (.mul (.add (.add (.v 6) (.neg (.v 7))) (.neg (.mul (.v 8) (.add (.v 0) (.neg (.v 1)))))) (.v 4)) (.add (.mul (.v 3) (.add (.v 7) (.add (.v 7) (.mul (.v 8) (.add (.v 2) (.neg (.v 1))))))) (.neg .one))) (.mul (.neg (.mul (.v 3) (.v 4))) (.add (.mul (.v 6) (.v 6)) (.neg (.add (.mul (.v 0) (.mul (.v 0) (.v 0))) (.v 9)))))) (.mul (.mul (.v 3) (.v 4)) (.add (.mul (.v 7) (.v 7)) (.neg (.add (.mul (.v 1) (.mul (.v 1) (.v 1))) (.v 9)))))) (.mul (.mul (.mul (.v 3) (.v 4)) (.add (.v 0) (.neg (.v 1)))) (.add (.mul (.v 8) (.add (.v 7) (.add (.v 7) (.mul (.v 8) (.add (.v 2) (.neg (.v 1))))))) (.neg (.add (.add (.mul (.v 1) (.v 1)) (.mul (.v 1) (.v 2))) (.mul (.v 2) (.v 2))))))) (by kernel_rfl))
  ·refine ⟨_,⟨_,_,⟨_,_,hw,h.mul g k hg,rfl⟩,⟨_,_,h.mul g (K.neg k) hg,h.mul g K.zero hg,rfl⟩,rfl⟩,congrArg (K.mul _) ?_⟩;exact nQ (K:=K) (c1:=(K.mul (K.sub (K.sub Y y1) (K.mul l (K.sub X x1))) g)) hk (aN K (bX K [X,x1,x2,w,Y,y1,l,k,g]) (.add (.add (.mul (.add (.v 0) (.neg (.v 1))) (.add (.mul (.add (.v 0) (.neg (.v 2))) (.v 3)) (.mul (.add (.v 4) (.neg (.add (.v 5) (.mul (.v 6) (.add (.v 2) (.neg (.v 1))))))) (.mul (.v 7) (.v 8))))) (.mul (.add (.v 4) (.neg (.v 5))) (.add (.mul (.add (.v 0) (.neg (.v 2))) (.mul (.neg (.v 7)) (.v 8))) (.mul (.add (.v 4) (.neg (.add (.v 5) (.mul (.v 6) (.add (.v 2) (.neg (.v 1))))))) (.mul .zero (.v 8)))))) (.neg (.add (.mul (.add (.add (.v 4) (.neg (.v 5))) (.neg (.mul (.v 6) (.add (.v 0) (.neg (.v 1)))))) (.v 8)) (.mul (.add (.v 0) (.neg (.v 1))) (.mul (.add (.v 0) (.neg (.v 2))) (.v 3)))))) (.mul (.mul (.add (.add (.v 4) (.neg (.v 5))) (.neg (.mul (.v 6) (.add (.v 0) (.neg (.v 1)))))) (.v 8)) (.add (.mul (.v 7) (.add (.v 2) (.neg (.v 1)))) (.neg .one))) (by kernel_rfl))
end
open Classical
section
variable {R : Type} {K : CR R} {inv : R → R}
def dH (K : CR R) (b : R) : CR (Pol K × Pol K):=(aY (K:=K)).sq (qP b)
def cX : Pol K × Pol K:=(pX,aY.zero)
def cY : Pol K × Pol K:=(aY.zero,aY.one)
def cc (k : R) : Pol K × Pol K:=(gV k,aY.zero)
variable (b : R)
theorem mM (x y : R) : (cc (K.add x y) : Pol K × Pol K) = (dH K b).add (cc x) (cc y):=Prod.ext (UP x y) (aY.zero_add _).symm
theorem Mv (x : R) : (cc (K.neg x) : Pol K × Pol K) = (dH K b).neg (cc x):=Prod.ext (Sw x) (bM aY).symm
theorem xD (x y : R) : (cc (K.sub x y) : Pol K × Pol K) = (dH K b).sub (cc x) (cc y):=by
 show cc (K.add _ _) = (dH K b).add _ _;rw [mM b,Mv b]
theorem lD (x y : R) : (cc (K.mul x y) : Pol K × Pol K) = (dH K b).mul (cc x) (cc y):=by
 refine Prod.ext ?_ ?_
 ·show gV (K.mul x y) = aY.add (aY.mul (gV x) (gV y)) (aY.mul (qP b) (aY.mul aY.zero aY.zero));rw [aY.mul_zero,aY.mul_zero,aY.add_zero,tS]
 ·show aY.zero = aY.add (aY.mul (gV x) aY.zero) (aY.mul aY.zero (gV y));rw [aY.mul_zero,aY.zero_mul,aY.add_zero]
theorem Mu : (cc K.one : Pol K × Pol K) = (dH K b).one:=rfl
theorem aFX : (dH K b).mul cY cY = (dH K b).add ((dH K b).mul cX ((dH K b).mul cX cX)) (cc b):=by
 refine Prod.ext ?_ ?_
 ·show aY.add (aY.mul aY.zero aY.zero) (aY.mul (qP b) (aY.mul aY.one aY.one)) = aY.add (aY.add (aY.mul pX (aY.add (aY.mul pX pX) (aY.mul (qP b) (aY.mul aY.zero aY.zero)))) (aY.mul (qP b) (aY.mul aY.zero (aY.add (aY.mul pX aY.zero) (aY.mul aY.zero pX))))) (gV b);simp only [aY.mul_zero,aY.zero_mul,aY.add_zero,aY.zero_add,aY.mul_one];rfl
 ·show aY.add (aY.mul aY.zero aY.one) (aY.mul aY.one aY.zero) = aY.add (aY.add (aY.mul pX (aY.add (aY.mul pX aY.zero) (aY.mul aY.zero pX))) (aY.mul aY.zero (aY.add (aY.mul pX pX) (aY.mul (qP b) (aY.mul aY.zero aY.zero))))) aY.zero;simp only [aY.mul_zero,aY.zero_mul,aY.add_zero,aY.zero_add,aY.mul_one]
def nrm (f : Pol K × Pol K) : Pol K:=aY.sub (aY.mul f.1 f.1) (aY.mul (qP b) (aY.mul f.2 f.2))
theorem VR (f g : Pol K × Pol K) : nrm b ((dH K b).mul f g) = aY.mul (nrm b f) (nrm b g) :=
 aN aY (bX aY [f.1,g.1,qP b,f.2,g.2]) (.add (.mul (.add (.mul (.v 0) (.v 1)) (.mul (.v 2) (.mul (.v 3) (.v 4)))) (.add (.mul (.v 0) (.v 1)) (.mul (.v 2) (.mul (.v 3) (.v 4))))) (.neg (.mul (.v 2) (.mul (.add (.mul (.v 0) (.v 4)) (.mul (.v 3) (.v 1))) (.add (.mul (.v 0) (.v 4)) (.mul (.v 3) (.v 1))))))) (.mul (.add (.mul (.v 0) (.v 0)) (.neg (.mul (.v 2) (.mul (.v 3) (.v 3))))) (.add (.mul (.v 1) (.v 1)) (.neg (.mul (.v 2) (.mul (.v 4) (.v 4)))))) (by kernel_rfl)
theorem DF (F : FD K inv) (f : Pol K × Pol K) (h : f ≠ (dH K b).zero) : ∃ d,dg (nrm b f) d ∧ d ≠ 1:=by
 have hq : dg (qP b : Pol K) 3:=aFP F b
 by_cases h2 : f.2 = aY.zero
 ·have h1 : f.1 ≠ aY.zero:=fun e => h (Prod.ext e h2)
  obtain ⟨n,hn⟩:=XB _ h1;refine ⟨n + n,?_,by omega⟩;unfold nrm;rw [h2,aY.mul_zero,aY.mul_zero];show dg (aY.add _ (aY.neg aY.zero)) _;rw [bM,aY.add_zero];exact jR F hn hn
 ·obtain ⟨m,hm⟩:=XB _ h2;have hr:=jR F hq (jR F hm hm)
  by_cases h1 : f.1 = aY.zero
  ·refine ⟨3 + (m + m),?_,by omega⟩;unfold nrm;rw [h1,aY.mul_zero];show dg (aY.add _ _) _;rw [aY.zero_add];exact Md hr
  ·obtain ⟨n,hn⟩:=XB _ h1;have hl:=jR F hn hn;have hr':=Md hr
   rcases Nat.lt_or_ge (n + n) (3 + (m + m)) with q | q
   ·refine ⟨3 + (m + m),?_,by omega⟩;show dg (aY.add _ _) _;rw [aY.add_comm];exact wZ hr' fun i hi => hl.2 i (by omega)
   ·refine ⟨n + n,?_,by omega⟩;exact wZ hl fun i hi => hr'.2 i (by omega)
theorem lC (F : FD K inv) : Dom (dH K b):=by
 refine ⟨fun e => F.ne (congrArg (fun z : Pol K × Pol K => z.1.1 0) e),fun f g hf hg e => ?_⟩;obtain ⟨n,hn,_⟩:=DF b F f hf;obtain ⟨m,hm,_⟩:=DF b F g hg;have h:=Me (jR F hn hm);rw [← VR,e] at h;refine h ?_;show aY.sub (aY.mul aY.zero aY.zero) (aY.mul (qP b) (aY.mul aY.zero aY.zero)) = _;rw [aY.mul_zero,aY.mul_zero];exact aY.add_neg _
theorem RP {A : Type} {C : CR A} (D : Dom C) {a s t : A} (ha : a ≠ C.zero) (e : C.mul a s = C.mul a t) : s = t:=by
 apply iG (K:=C)
 by_cases h : C.add s (C.neg t) = C.zero
 ·exact h
 ·exact absurd (by rw [C.mul_add,C.mul_neg,e,C.add_neg]) (D.2 _ _ ha h)
def GB {A : Type} : A → Prop:=fun _ => True
theorem jV {A : Type} (C : CR A) : Idl C GB:=⟨fun _ _ _ _ => trivial,fun _ _ _ => trivial⟩
theorem ML (f : Pol K × Pol K) : (dH K b).mul f (f.1,aY.neg f.2) = (nrm b f,aY.zero):=by
 refine Prod.ext ?_ ?_
 ·exact aN aY (bX aY [f.1,qP b,f.2]) (.add (.mul (.v 0) (.v 0)) (.mul (.v 1) (.mul (.v 2) (.neg (.v 2))))) (.add (.mul (.v 0) (.v 0)) (.neg (.mul (.v 1) (.mul (.v 2) (.v 2))))) (by kernel_rfl)
 ·exact aN aY (bX aY [f.1,f.2]) (.add (.mul (.v 0) (.neg (.v 1))) (.mul (.v 1) (.v 0))) .zero (by kernel_rfl)
theorem Gr {x y : R} (h : K.mul y y = K.add (K.mul x (K.mul x x)) b) : (qP b : Pol K) = aY.add (aY.mul (gV y) (gV y)) (aY.mul (aY.sub pX (gV x)) (aY.add (aY.mul pX pX) (aY.add (aY.mul (gV x) pX) (aY.mul (gV x) (gV x))))):=by
 have e : aY.mul (gV y) (gV y) = aY.add (aY.mul (gV x) (aY.mul (gV x) (gV x))) (gV b : Pol K):=by
  rw [← tS,← tS,← tS,← UP,h]
 rw [e];exact aN aY (bX aY [pX,gV b,gV x]) (.add (.mul (.v 0) (.mul (.v 0) (.v 0))) (.v 1)) (.add (.add (.mul (.v 2) (.mul (.v 2) (.v 2))) (.v 1)) (.mul (.add (.v 0) (.neg (.v 2))) (.add (.mul (.v 0) (.v 0)) (.add (.mul (.v 2) (.v 0)) (.mul (.v 2) (.v 2)))))) (by kernel_rfl)
theorem aEN (F : FD K inv) {x y : R} (h : K.mul y y = K.add (K.mul x (K.mul x x)) b) : ¬ Eqv (dH K b) (op (dH K b) cX cY (cc x) (cc y) GB) GB:=by
 rintro ⟨a,e,ha,he,h1,h2⟩
 have D:=lC (K:=K) b F;obtain ⟨f,hf,e1⟩:=h2 (dH K b).one trivial;rw [(dH K b).mul_one] at e1;have hm : ∀ g,op (dH K b) cX cY (cc x) (cc y) GB g → ∃ t,g = (dH K b).mul f t:=fun g hg => by
  obtain ⟨t,_,e2⟩:=h1 g hg;rw [← e1,(dH K b).mul_assoc] at e2;exact ⟨t,RP D ha e2⟩
 have sz : ∀ z : Pol K × Pol K,(dH K b).sub z (dH K b).zero = z:=fun z => by
  show (dH K b).add z ((dH K b).neg _) = z;rw [bM,(dH K b).add_zero]
 obtain ⟨t,ht⟩:=hm ((dH K b).sub cX (cc x)) ⟨(dH K b).one,(dH K b).zero,trivial,trivial,by rw [(dH K b).mul_one,(dH K b).mul_zero,(dH K b).add_zero]⟩;obtain ⟨t',ht'⟩:=hm ((dH K b).sub cY (cc y)) ⟨(dH K b).zero,(dH K b).one,trivial,trivial,by rw [(dH K b).mul_one,(dH K b).mul_zero,(dH K b).zero_add]⟩;have hX : (dH K b).sub cX (cc x) = (aY.sub pX (gV x),aY.zero):=Prod.ext rfl (by show aY.add aY.zero (aY.neg aY.zero) = _; rw [bM,aY.add_zero]);have hXn : (dH K b).sub cX (cc x) ≠ (dH K b).zero:=fun q => Me (wY (K:=K) F x) (congrArg Prod.fst q)
 have hf0 : f ≠ (dH K b).zero:=fun q => hXn (by rw [ht,q,(dH K b).zero_mul])
 have ht0 : t ≠ (dH K b).zero:=fun q => hXn (by rw [ht,q,(dH K b).mul_zero])
 obtain ⟨n,hn,n1⟩:=DF b F f hf0;obtain ⟨m,hm',m1⟩:=DF b F t ht0;have hnm : n + m = 2:=by
  have e3:=jR F hn hm';rw [← VR,← ht,hX] at e3;have e4 : nrm b (aY.sub pX (gV x),aY.zero) = aY.mul (aY.sub pX (gV x)) (aY.sub (pX : Pol K) (gV x)):=by
   show aY.add (aY.mul _ _) (aY.neg (aY.mul _ (aY.mul aY.zero aY.zero))) = _;rw [aY.mul_zero,aY.mul_zero,bM,aY.add_zero]
  rw [e4] at e3;exact aCr e3 (jR F (wY F x) (wY F x))
 have hc : ∀ p : Pol K,dg p 0 → p = gV (p.1 0):=fun p hp => Pol.ext fun i => by
  cases i with
  | zero => rfl
  | succ i => exact hp.2 _ (by omega)
 have h02 : n = 0 ∨ m = 0:=by omega
 rcases h02 with q0 | q0
 ·subst q0;obtain ⟨s,r,_,_,e5⟩:=(Hz (jV (dH K b)) (cc x) (cc y)).mul f (f.1,aY.neg f.2) hf;rw [(dH K b).mul_comm,ML,hX] at e5;have c1 : nrm b f = aY.add (aY.add (aY.mul (aY.sub pX (gV x)) s.1) (aY.mul (qP b) (aY.mul aY.zero s.2))) (aY.add (aY.mul (aY.add aY.zero (aY.neg (gV y))) r.1) (aY.mul (qP b) (aY.mul (aY.add aY.one (aY.neg aY.zero)) r.2))):=congrArg Prod.fst e5;have c2 : aY.zero = aY.add (aY.add (aY.mul (aY.sub pX (gV x)) s.2) (aY.mul aY.zero s.1)) (aY.add (aY.mul (aY.add aY.zero (aY.neg (gV y))) r.2) (aY.mul (aY.add aY.one (aY.neg aY.zero)) r.1)):=congrArg Prod.snd e5;have hs:=Gr b h;refine hn.1 (AH F (c:=x) (h:=(aY.add s.1 (aY.add (aY.mul (aY.add (aY.mul pX pX) (aY.add (aY.mul (gV x) pX) (aY.mul (gV x) (gV x)))) r.2) (aY.mul (gV y) s.2)))) ?_);rw [← hc _ hn,c1];refine Eq.symm ?_;exact pR (K:=aY) (c1:=(gV y)) (c2:=r.2) c2 hs (aN aY (bX aY [pX,gV x,s.1,qP b,s.2,gV y,r.1,r.2]) (.add (.add (.add (.mul (.add (.v 0) (.neg (.v 1))) (.v 2)) (.mul (.v 3) (.mul .zero (.v 4)))) (.add (.mul (.add .zero (.neg (.v 5))) (.v 6)) (.mul (.v 3) (.mul (.add .one (.neg .zero)) (.v 7))))) (.neg (.mul (.add (.v 0) (.neg (.v 1))) (.add (.v 2) (.add (.mul (.add (.mul (.v 0) (.v 0)) (.add (.mul (.v 1) (.v 0)) (.mul (.v 1) (.v 1)))) (.v 7)) (.mul (.v 5) (.v 4))))))) (.add (.mul (.v 5) (.add .zero (.neg (.add (.add (.mul (.add (.v 0) (.neg (.v 1))) (.v 4)) (.mul .zero (.v 2))) (.add (.mul (.add .zero (.neg (.v 5))) (.v 7)) (.mul (.add .one (.neg .zero)) (.v 6))))))) (.mul (.v 7) (.add (.v 3) (.neg (.add (.mul (.v 5) (.v 5)) (.mul (.add (.v 0) (.neg (.v 1))) (.add (.mul (.v 0) (.v 0)) (.add (.mul (.v 1) (.v 0)) (.mul (.v 1) (.v 1)))))))))) (by kernel_rfl))
 ·subst q0;have e6 : (dH K b).mul ((dH K b).sub cX (cc x)) ((dH K b).mul t' (t.1,aY.neg t.2)) = (dH K b).mul ((dH K b).sub cY (cc y)) (nrm b t,aY.zero):=by
   rw [← ML,ht,ht'];generalize ((t.1,aY.neg t.2) : Pol K × Pol K) = w;exact aN (dH K b) (bX (dH K b) [f,t,t',w]) (.mul (.mul (.v 0) (.v 1)) (.mul (.v 2) (.v 3))) (.mul (.mul (.v 0) (.v 2)) (.mul (.v 1) (.v 3))) (by kernel_rfl)
  rw [hX] at e6;generalize (dH K b).mul t' (t.1,aY.neg t.2) = w at e6;have c2 : aY.add (aY.mul (aY.sub pX (gV x)) w.2) (aY.mul aY.zero w.1) = aY.add (aY.mul (aY.add aY.zero (aY.neg (gV y))) aY.zero) (aY.mul (aY.add aY.one (aY.neg aY.zero)) (nrm b t)):=congrArg Prod.snd e6;rw [aY.zero_mul,aY.add_zero,aY.mul_zero,aY.zero_add,bM,aY.add_zero,aY.one_mul,hc _ hm'] at c2;exact hm'.1 (AH F c2)
end
structure EC {R : Type} (K : CR R) (inv : R → R) (b : R) : Prop where
 F : FD K inv
 two : K.add K.one K.one ≠ K.zero
 odd : ∀ x,K.add (K.mul x (K.mul x x)) b ≠ K.zero
section
variable {R : Type} (K : CR R) (inv : R → R) (b : R)
abbrev Pt (R : Type):=Option (R × R)
def On : Pt R → Prop
 | none => True
 | some p => K.mul p.2 p.2 = K.add (K.mul p.1 (K.mul p.1 p.1)) b
def Yd : Pt R → Pt R
 | none => none
 | some p => some (p.1,K.neg p.2)
def fE (x1 y1 x2 y2 : R) : R :=
 if x1 = x2 then K.mul (K.add (K.add (K.mul x1 x1) (K.mul x1 x1)) (K.mul x1 x1)) (inv (K.add y1 y2)) else K.mul (K.sub y2 y1) (inv (K.sub x2 x1))
def sx (l x1 x2 : R) : R:=K.sub (K.sub (K.mul l l) x1) x2
def sy (l x1 y1 x2 : R) : R:=K.sub (K.mul l (K.sub x1 (sx K l x1 x2))) y1
def sL : Pt R → Pt R → Pt R
 | none,q => q
 | some p,none => some p
 | some p,some q =>
  if p.1 = q.1 ∧ K.add p.2 q.2 = K.zero then none
  else some (sx K (fE K inv p.1 p.2 q.1 q.2) p.1 q.1,sy K (fE K inv p.1 p.2 q.1 q.2) p.1 p.2 q.1)
variable {K} {inv} {b}
theorem oU {p q : R × R} (h : p.1 = q.1 ∧ K.add p.2 q.2 = K.zero) : sL K inv (some p) (some q) = none:=if_pos h
theorem kV {p q : R × R} (h : ¬ (p.1 = q.1 ∧ K.add p.2 q.2 = K.zero)) : sL K inv (some p) (some q) = some (sx K (fE K inv p.1 p.2 q.1 q.2) p.1 q.1,sy K (fE K inv p.1 p.2 q.1 q.2) p.1 p.2 q.1):=if_neg h
theorem gF {x y : R} (h : K.sub x y = K.zero) : x = y:=iG h
theorem BT {x y : R} (h : x ≠ y) : K.sub x y ≠ K.zero:=fun e => h (gF e)
theorem EC.dbl_ne (E : EC K inv b) {y : R} (h : y ≠ K.zero) : K.add y y ≠ K.zero:=fun e => by
 refine E.F.mul_ne E.two h ?_;rw [K.add_mul,K.one_mul,e]
theorem EC.y_ne (E : EC K inv b) {x y : R} (h : K.mul y y = K.add (K.mul x (K.mul x x)) b) : y ≠ K.zero:=fun e => by
 rw [e,K.mul_zero] at h;exact E.odd x h.symm
structure Slope (K : CR R) (x1 y1 x2 y2 l : R) : Prop where
 h1 : y2 = K.add y1 (K.mul l (K.sub x2 x1))
 h2 : K.mul l (K.add y1 y2) = K.add (K.add (K.mul x1 x1) (K.mul x1 x2)) (K.mul x2 x2)
 hk : (∃ k,K.mul k (K.add y1 y2) = K.one) ∨ (∃ k,K.mul k (K.sub x2 x1) = K.one)
theorem GP (E : EC K inv b) {x1 y1 x2 y2 : R} (hp : K.mul y1 y1 = K.add (K.mul x1 (K.mul x1 x1)) b) (hq : K.mul y2 y2 = K.add (K.mul x2 (K.mul x2 x2)) b) (hn : ¬ (x1 = x2 ∧ K.add y1 y2 = K.zero)) : Slope K x1 y1 x2 y2 (fE K inv x1 y1 x2 y2):=by
 unfold fE
 by_cases hx : x1 = x2
 ·subst hx;rw [if_pos rfl];have hy : K.add y1 y2 ≠ K.zero:=fun e => hn ⟨rfl,e⟩
  have hi:=E.F.inv _ hy;have e : y1 = y2:=by
   refine gF (K:=K) (E.F.zd (a:=K.add y1 y2) ?_ hy);have e0 : K.mul (K.add y1 y2) (K.sub y1 y2) = K.sub (K.mul y1 y1) (K.mul y2 y2):=aN K (bX K [y1,y2]) (.mul (.add (.v 0) (.v 1)) (.add (.v 0) (.neg (.v 1)))) (.add (.mul (.v 0) (.v 0)) (.neg (.mul (.v 1) (.v 1)))) (by kernel_rfl);rw [e0,hp,hq];exact K.add_neg _
  subst e;generalize inv (K.add y1 y1) = k at hi;refine ⟨aN K (bX K [y1,x1,k]) (.v 0) (.add (.v 0) (.mul (.mul (.add (.add (.mul (.v 1) (.v 1)) (.mul (.v 1) (.v 1))) (.mul (.v 1) (.v 1))) (.v 2)) (.add (.v 1) (.neg (.v 1))))) (by kernel_rfl),nQ (K:=K) (c1:=(K.add (K.add (K.mul x1 x1) (K.mul x1 x1)) (K.mul x1 x1))) hi (aN K (bX K [x1,k,y1]) (.add (.mul (.mul (.add (.add (.mul (.v 0) (.v 0)) (.mul (.v 0) (.v 0))) (.mul (.v 0) (.v 0))) (.v 1)) (.add (.v 2) (.v 2))) (.neg (.add (.add (.mul (.v 0) (.v 0)) (.mul (.v 0) (.v 0))) (.mul (.v 0) (.v 0))))) (.mul (.add (.add (.mul (.v 0) (.v 0)) (.mul (.v 0) (.v 0))) (.mul (.v 0) (.v 0))) (.add (.mul (.add (.v 2) (.v 2)) (.v 1)) (.neg .one))) (by kernel_rfl)),Or.inl ⟨k,by rw [K.mul_comm,hi]⟩⟩
 ·rw [if_neg hx];have hd : K.sub x2 x1 ≠ K.zero:=BT fun e => hx e.symm
  have hi:=E.F.inv _ hd;generalize inv (K.sub x2 x1) = k at hi;refine ⟨nQ (K:=K) (c1:=(K.neg (K.sub y2 y1))) hi (aN K (bX K [y2,y1,k,x2,x1]) (.add (.v 0) (.neg (.add (.v 1) (.mul (.mul (.add (.v 0) (.neg (.v 1))) (.v 2)) (.add (.v 3) (.neg (.v 4))))))) (.mul (.neg (.add (.v 0) (.neg (.v 1)))) (.add (.mul (.add (.v 3) (.neg (.v 4))) (.v 2)) (.neg .one))) (by kernel_rfl)),?_,Or.inr ⟨k,by rw [K.mul_comm,hi]⟩⟩;refine E.F.cancel hd ?_;exact Yz (K:=K) (c1:=(K.mul (K.sub y2 y1) (K.add y1 y2))) (c2:=(K.neg K.one)) (c3:=K.one) hi hp hq (aN K (bX K [x2,x1,y2,y1,k,b]) (.add (.mul (.add (.v 0) (.neg (.v 1))) (.mul (.mul (.add (.v 2) (.neg (.v 3))) (.v 4)) (.add (.v 3) (.v 2)))) (.neg (.mul (.add (.v 0) (.neg (.v 1))) (.add (.add (.mul (.v 1) (.v 1)) (.mul (.v 1) (.v 0))) (.mul (.v 0) (.v 0)))))) (.add (.add (.mul (.mul (.add (.v 2) (.neg (.v 3))) (.add (.v 3) (.v 2))) (.add (.mul (.add (.v 0) (.neg (.v 1))) (.v 4)) (.neg .one))) (.mul (.neg .one) (.add (.mul (.v 3) (.v 3)) (.neg (.add (.mul (.v 1) (.mul (.v 1) (.v 1))) (.v 5)))))) (.mul .one (.add (.mul (.v 2) (.v 2)) (.neg (.add (.mul (.v 0) (.mul (.v 0) (.v 0))) (.v 5)))))) (by kernel_rfl))
theorem On.sum {x1 y1 x2 y2 l : R} (hp : K.mul y1 y1 = K.add (K.mul x1 (K.mul x1 x1)) b) (h : Slope K x1 y1 x2 y2 l) : On K b (some (sx K l x1 x2,sy K l x1 y1 x2)):=by
 obtain ⟨h1,h2,_⟩:=h;subst h1;show K.mul (K.sub (K.mul l (K.sub x1 (K.sub (K.sub (K.mul l l) x1) x2))) y1) (K.sub (K.mul l (K.sub x1 (K.sub (K.sub (K.mul l l) x1) x2))) y1) = K.add (K.mul (K.sub (K.sub (K.mul l l) x1) x2) (K.mul (K.sub (K.sub (K.mul l l) x1) x2) (K.sub (K.sub (K.mul l l) x1) x2))) b;exact pR (K:=K) (c1:=K.one) (c2:=(K.sub (K.sub (K.sub (K.mul l l) x1) x2) x1)) hp h2 (aN K (bX K [l,x1,x2,y1,b]) (.add (.mul (.add (.mul (.v 0) (.add (.v 1) (.neg (.add (.add (.mul (.v 0) (.v 0)) (.neg (.v 1))) (.neg (.v 2)))))) (.neg (.v 3))) (.add (.mul (.v 0) (.add (.v 1) (.neg (.add (.add (.mul (.v 0) (.v 0)) (.neg (.v 1))) (.neg (.v 2)))))) (.neg (.v 3)))) (.neg (.add (.mul (.add (.add (.mul (.v 0) (.v 0)) (.neg (.v 1))) (.neg (.v 2))) (.mul (.add (.add (.mul (.v 0) (.v 0)) (.neg (.v 1))) (.neg (.v 2))) (.add (.add (.mul (.v 0) (.v 0)) (.neg (.v 1))) (.neg (.v 2))))) (.v 4)))) (.add (.mul .one (.add (.mul (.v 3) (.v 3)) (.neg (.add (.mul (.v 1) (.mul (.v 1) (.v 1))) (.v 4))))) (.mul (.add (.add (.add (.mul (.v 0) (.v 0)) (.neg (.v 1))) (.neg (.v 2))) (.neg (.v 1))) (.add (.mul (.v 0) (.add (.v 3) (.add (.v 3) (.mul (.v 0) (.add (.v 2) (.neg (.v 1))))))) (.neg (.add (.add (.mul (.v 1) (.v 1)) (.mul (.v 1) (.v 2))) (.mul (.v 2) (.v 2))))))) (by kernel_rfl))
theorem On.neg : ∀ {p : Pt R},On K b p → On K b (Yd K p)
 | none,_ => trivial
 | some p,h => by
  show K.mul (K.neg p.2) (K.neg p.2) = _;rw [K.neg_mul,K.mul_neg,K.neg_neg];exact h
theorem On.add (E : EC K inv b) : ∀ {p q : Pt R},On K b p → On K b q → On K b (sL K inv p q)
 | none,_,_,h => h
 | some _,none,h,_ => h
 | some p,some q,hp,hq => by
  by_cases hn : p.1 = q.1 ∧ K.add p.2 q.2 = K.zero
  ·rw [oU hn]; trivial
  ·rw [kV hn];exact On.sum hp (GP E hp hq hn)
def Bh (K : CR R) (b : R) (p : Pt R) (S : Pol K × Pol K → Prop) : Pol K × Pol K → Prop :=
 match p with
 | none => S
 | some p => op (dH K b) cX cY (cc p.1) (cc p.2) S
theorem Ia (p q : Pt R) (S : Pol K × Pol K → Prop) : Bh K b p (Bh K b q S) = Bh K b q (Bh K b p S):=by
 cases p with
 | none => rfl
 | some p => cases q with
  | none => rfl
  | some q => exact Tc _ _ _ _
theorem Td {S : Pol K × Pol K → Prop} (h : Idl (dH K b) S) (p : Pt R) : Idl (dH K b) (Bh K b p S):=by
 cases p with
 | none => exact h
 | some p => exact Hz h _ _
theorem UU {S T : Pol K × Pol K → Prop} (h : Eqv (dH K b) S T) (p : Pt R) : Eqv (dH K b) (Bh K b p S) (Bh K b p T):=by
 cases p with
 | none => exact h
 | some p => exact h.op _ _
theorem aGu (F : FD K inv) (c : R) : (dH K b).sub cX (cc c) ≠ (dH K b).zero:=fun q => Me (wY (K:=K) F c) (congrArg Prod.fst q)
theorem aCp (F : FD K inv) (x1 y1 l : R) : (dH K b).sub ((dH K b).sub cY (cc y1)) ((dH K b).mul (cc l) ((dH K b).sub cX (cc x1))) ≠ (dH K b).zero:=fun q => by
 have e : K.add (K.add K.one (K.neg K.zero)) (K.neg (K.add (K.mul l (K.add K.zero (K.neg K.zero))) (K.mul K.zero (K.add K.zero (K.neg x1))))) = K.zero:=congrArg (fun z : Pol K × Pol K => z.2.1 0) q;rw [bM,K.add_zero,K.add_zero,K.mul_zero,K.zero_mul,K.add_zero,bM,K.add_zero] at e;exact F.ne e
theorem jH (E : EC K inv b) {S : Pol K × Pol K → Prop} (hS : Idl (dH K b) S) : ∀ {p q : Pt R},On K b p → On K b q → Eqv (dH K b) (Bh K b p (Bh K b q S)) (Bh K b (sL K inv p q) S)
 | none,_,_,_ => Eqv.refl (lC b E.F) _
 | some _,none,_,_ => Eqv.refl (lC b E.F) _
 | some ⟨x1,y1⟩,some ⟨x2,y2⟩,hp,hq => by
  by_cases hn : x1 = x2 ∧ K.add y1 y2 = K.zero
  ·rw [oU hn];obtain ⟨rfl,hy⟩:=hn;have e : y2 = K.neg y1:=by
    apply K.add_cancel (a:=y1);rw [hy,K.add_neg]
   subst e;show Eqv (dH K b) (op (dH K b) cX cY (cc x1) (cc y1) (op (dH K b) cX cY (cc x1) (cc (K.neg y1)) S)) S;have h0:=E.F.inv _ (E.dbl_ne (E.y_ne hp));rw [Mv b];refine aAY (b:=cc b) (k:=cc (inv (K.add y1 y1))) (aFX b) ?_ ?_ (lC b E.F) (aGu E.F x1) hS
   ·rw [← lD,← lD,← lD,← mM];exact congrArg cc hp
   ·rw [← mM,← lD,K.mul_comm,h0];rfl
  ·rw [kV hn];have h:=GP E hp hq hn;dsimp only at h ⊢;generalize fE K inv x1 y1 x2 y2 = l at h;obtain ⟨h1,h2,hk⟩:=h;subst h1;show Eqv (dH K b) (op (dH K b) cX cY (cc x1) (cc y1) (op (dH K b) cX cY (cc x2) (cc (K.add y1 (K.mul l (K.sub x2 x1)))) S)) (op (dH K b) cX cY (cc (sx K l x1 x2)) (cc (sy K l x1 y1 x2)) S);unfold sy sx;have hX:=aGu (K:=K) (b:=b) E.F (sx K l x1 x2);have hl:=aCp (K:=K) (b:=b) E.F x1 y1 l;unfold sx at hX;simp only [mM b,lD b,xD b] at hX ⊢;refine aAX (b:=cc b) (aFX b) ?_ ?_ ?_ hX hl hS
   ·have:=congrArg (cc (K:=K)) h2;simpa only [mM b,lD b,xD b] using this
   ·have:=congrArg (cc (K:=K)) hp;simpa only [mM b,lD b,xD b] using this
   ·rcases hk with ⟨k,hk⟩ | ⟨k,hk⟩
    ·refine Or.inl ⟨cc k,?_⟩;have:=congrArg (cc (K:=K)) hk;simpa only [mM b,lD b,xD b,Mu b] using this
    ·refine Or.inr ⟨cc k,?_⟩;have:=congrArg (cc (K:=K)) hk;simpa only [mM b,lD b,xD b,Mu b] using this
theorem UM (p : Pt R) : sL K inv (Yd K p) p = none:=by
 cases p with
 | none => rfl
 | some p => exact if_pos ⟨rfl,K.neg_add _⟩
theorem Gs {p q : Pt R} (h : sL K inv (Yd K p) q = none) : q = p:=by
 cases p with
 | none => exact h
 | some p => cases q with
  | none => cases h
  | some q =>
   by_cases hh : p.1 = q.1 ∧ K.add (K.neg p.2) q.2 = K.zero
   ·obtain ⟨h1,h2⟩:=hh;refine congrArg some (Prod.ext h1.symm ?_);apply K.add_cancel (a:=K.neg p.2);exact h2.trans (K.neg_add p.2).symm
   ·have e : sL K inv (Yd K (some p)) (some q) = some _:=kV (p:=(p.1,K.neg p.2)) (q:=q) hh;rw [e] at h;cases h
theorem aAZ (E : EC K inv b) {p : Pt R} (hp : On K b p) (h : Eqv (dH K b) (Bh K b p GB) GB) : p = none:=by
 cases p with
 | none => rfl
 | some p => exact absurd h (aEN b E.F hp)
theorem UT (E : EC K inv b) {p q : Pt R} (hp : On K b p) (hq : On K b q) (h : Eqv (dH K b) (Bh K b p GB) (Bh K b q GB)) : p = q:=by
 have D:=lC (K:=K) b E.F;have h1:=UU h (Yd K q);have a1:=jH E (jV (dH K b)) hq.neg hp;have a2:=jH E (jV (dH K b)) hq.neg hq;rw [UM] at a2;exact Gs (aAZ E (hq.neg.add E hp) (a1.symm.trans D (h1.trans D a2)))
theorem Gt (E : EC K inv b) {p q : Pt R} (hp : On K b p) (hq : On K b q) : sL K inv p q = sL K inv q p:=by
 have D:=lC (K:=K) b E.F;refine UT E (hp.add E hq) (hq.add E hp) ?_;refine (jH E (jV (dH K b)) hp hq).symm.trans D ?_;rw [Ia];exact jH E (jV (dH K b)) hq hp
theorem Ay (E : EC K inv b) {p q r : Pt R} (hp : On K b p) (hq : On K b q) (hr : On K b r) : sL K inv (sL K inv p q) r = sL K inv p (sL K inv q r):=by
 have D:=lC (K:=K) b E.F;have hu:=jV (dH K b);refine UT E ((hp.add E hq).add E hr) (hp.add E (hq.add E hr)) ?_;refine (jH E hu (hp.add E hq) hr).symm.trans D ?_;refine (jH E (Td hu r) hp hq).symm.trans D ?_;refine (UU (jH E hu hq hr) p).trans D ?_;exact jH E hu hp (hq.add E hr)
end
structure AG (G : Type) where
 add : G → G → G
 neg : G → G
 zero : G
 assoc : ∀ a b c,add (add a b) c = add a (add b c)
 comm : ∀ a b,add a b = add b a
 zadd : ∀ a,add zero a = a
 nadd : ∀ a,add (neg a) a = zero
def EC.grp {R : Type} {K : CR R} {inv : R → R} {b : R} (E : EC K inv b) : AG {p : Pt R // On K b p} where
 add p q:=⟨sL K inv p.1 q.1,p.2.add E q.2⟩
 neg p:=⟨Yd K p.1,p.2.neg⟩
 zero:=⟨none,trivial⟩
 assoc p q r:=Subtype.ext (Ay E p.2 q.2 r.2)
 comm p q:=Subtype.ext (Gt E p.2 q.2)
 zadd p:=rfl
 nadd p:=Subtype.ext (UM p.1)
section
variable {R : Type} (K : CR R) (inv : R → R)
abbrev Jc (R : Type):=R × R × R
def gC (p : Jc R) : Pt R:=if p.2.2 = K.zero then none else some (K.mul p.1 (K.mul (inv p.2.2) (inv p.2.2)),K.mul p.2.1 (K.mul (K.mul (inv p.2.2) (inv p.2.2)) (inv p.2.2)))
def dSl (p : Jc R) : R:=K.add (K.add (K.mul p.1 p.1) (K.mul p.1 p.1)) (K.mul p.1 p.1)
def dTw (p : Jc R) : R:=K.add (K.mul p.2.1 p.2.1) (K.mul p.2.1 p.2.1)
def dFo (p : Jc R) : R:=K.add (dTw K p) (dTw K p)
def dBa (p : Jc R) : R:=K.mul p.1 (dFo K p)
def dX (p : Jc R) : R:=K.sub (K.mul (dSl K p) (dSl K p)) (K.add (dBa K p) (dBa K p))
def dY (p : Jc R) : R:=K.sub (K.mul (dSl K p) (K.sub (dBa K p) (dX K p))) (K.mul (dFo K p) (dTw K p))
def eN (p : Jc R) : Jc R:=(dX K p,dY K p,K.mul (K.add p.2.1 p.2.1) p.2.2)
def yH (p q : Jc R) : R:=K.mul p.1 (K.mul q.2.2 q.2.2)
def tI (p q : Jc R) : R:=K.mul p.2.1 (K.mul (K.mul q.2.2 q.2.2) q.2.2)
def uB (p q : Jc R) : R:=K.sub (yH K q p) (yH K p q)
def NG (p q : Jc R) : R:=K.sub (tI K q p) (tI K p q)
def sX (px a up : R) : R:=K.sub (K.sub (K.mul up up) (K.mul (K.mul a a) a)) (K.add (K.mul px (K.mul a a)) (K.mul px (K.mul a a)))
def sY (px py a up : R) : R:=K.sub (K.mul up (K.sub (K.mul px (K.mul a a)) (sX K px a up))) (K.mul py (K.mul (K.mul a a) a))
def DS (p q : Jc R) : Jc R:=(sX K (yH K p q) (uB K p q) (NG K p q),sY K (yH K p q) (tI K p q) (uB K p q) (NG K p q),K.mul (K.mul p.2.2 q.2.2) (uB K p q))
def fJ (p q : Jc R) : Jc R :=
 if p.2.2 = K.zero then q else if q.2.2 = K.zero then p else if uB K p q = K.zero ∧ NG K p q = K.zero then eN K p else DS K p q
def rplus (p q : Jc R) : Jc R :=
 if p.2.2 = K.zero then q else if q.2.2 = K.zero then p else if uB K p q = K.zero ∧ NG K p q = K.zero then eN K p else if uB K p q = K.zero then (K.one,K.one,K.zero) else DS K p q
variable {K} {inv} {b : R}
theorem cQ {p : Jc R} (h : p.2.2 = K.zero) : gC K inv p = none:=if_pos h
theorem dF {p : Jc R} (h : p.2.2 ≠ K.zero) : gC K inv p = some (K.mul p.1 (K.mul (inv p.2.2) (inv p.2.2)),K.mul p.2.1 (K.mul (K.mul (inv p.2.2) (inv p.2.2)) (inv p.2.2))):=if_neg h
theorem zE (E : EC K inv b) {x y l : R} (hy : K.add y y ≠ K.zero) (h : K.mul l (K.add y y) = K.add (K.add (K.mul x x) (K.mul x x)) (K.mul x x)) : fE K inv x y x y = l:=by
 unfold fE;rw [if_pos rfl];refine E.F.cancel hy ?_;have hi:=E.F.inv _ hy;generalize inv (K.add y y) = k at hi;exact pR (K:=K) (c1:=(K.add (K.add (K.mul x x) (K.mul x x)) (K.mul x x))) (c2:=(K.neg K.one)) hi h (aN K (bX K [y,x,k,l]) (.add (.mul (.add (.v 0) (.v 0)) (.mul (.add (.add (.mul (.v 1) (.v 1)) (.mul (.v 1) (.v 1))) (.mul (.v 1) (.v 1))) (.v 2))) (.neg (.mul (.add (.v 0) (.v 0)) (.v 3)))) (.add (.mul (.add (.add (.mul (.v 1) (.v 1)) (.mul (.v 1) (.v 1))) (.mul (.v 1) (.v 1))) (.add (.mul (.add (.v 0) (.v 0)) (.v 2)) (.neg .one))) (.mul (.neg .one) (.add (.mul (.v 3) (.add (.v 0) (.v 0))) (.neg (.add (.add (.mul (.v 1) (.v 1)) (.mul (.v 1) (.v 1))) (.mul (.v 1) (.v 1))))))) (by kernel_rfl))
theorem sH (E : EC K inv b) {x1 y1 x2 y2 l : R} (hx : x1 ≠ x2) (h : K.mul l (K.sub x2 x1) = K.sub y2 y1) : fE K inv x1 y1 x2 y2 = l:=by
 unfold fE;rw [if_neg hx];have hd : K.sub x2 x1 ≠ K.zero:=BT fun e => hx e.symm
 have hi:=E.F.inv _ hd;refine E.F.cancel hd ?_;generalize inv (K.sub x2 x1) = k at hi;exact pR (K:=K) (c1:=(K.sub y2 y1)) (c2:=(K.neg K.one)) hi h (aN K (bX K [x2,x1,y2,y1,k,l]) (.add (.mul (.add (.v 0) (.neg (.v 1))) (.mul (.add (.v 2) (.neg (.v 3))) (.v 4))) (.neg (.mul (.add (.v 0) (.neg (.v 1))) (.v 5)))) (.add (.mul (.add (.v 2) (.neg (.v 3))) (.add (.mul (.add (.v 0) (.neg (.v 1))) (.v 4)) (.neg .one))) (.mul (.neg .one) (.add (.mul (.v 5) (.add (.v 0) (.neg (.v 1)))) (.neg (.add (.v 2) (.neg (.v 3))))))) (by kernel_rfl))
theorem WD (E : EC K inv b) {p : Jc R} (hp : On K b (gC K inv p)) : gC K inv (eN K p) = sL K inv (gC K inv p) (gC K inv p):=by
 obtain ⟨x,y,z⟩:=p
 by_cases hz : z = K.zero
 ·have h1 : gC K inv (x,y,z) = none:=cQ hz;rw [h1];refine cQ ?_;show K.mul (K.add y y) z = K.zero;rw [hz,K.mul_zero]
 ·have h1:=dF (K:=K) (inv:=inv) (p:=(x,y,z)) hz;rw [h1] at hp ⊢;dsimp only at hp ⊢;have hi:=E.F.inv z hz;generalize inv z = i at hi hp ⊢;have hY:=E.y_ne (show K.mul (K.mul y (K.mul (K.mul i i) i)) (K.mul y (K.mul (K.mul i i) i)) = _ from hp);have hy : y ≠ K.zero:=fun e => hY (by rw [e,K.zero_mul])
  have hyy:=E.dbl_ne hy;have hz3 : K.mul (K.add y y) z ≠ K.zero:=E.F.mul_ne hyy hz;have h3:=dF (K:=K) (inv:=inv) (p:=eN K (x,y,z)) hz3;rw [h3];show some (K.mul (dX K (x,y,z)) (K.mul (inv (K.mul (K.add y y) z)) (inv (K.mul (K.add y y) z))),K.mul (dY K (x,y,z)) (K.mul (K.mul (inv (K.mul (K.add y y) z)) (inv (K.mul (K.add y y) z))) (inv (K.mul (K.add y y) z)))) = _;have hj:=E.F.inv _ hz3;generalize inv (K.mul (K.add y y) z) = j at hj ⊢;have e : i = K.mul (K.add y y) j:=pR (K:=K) (c1:=(K.neg i)) (c2:=(K.mul (K.add y y) j)) hj hi (aN K (bX K [i,y,j,z]) (.add (.v 0) (.neg (.mul (.add (.v 1) (.v 1)) (.v 2)))) (.add (.mul (.neg (.v 0)) (.add (.mul (.mul (.add (.v 1) (.v 1)) (.v 3)) (.v 2)) (.neg .one))) (.mul (.mul (.add (.v 1) (.v 1)) (.v 2)) (.add (.mul (.v 3) (.v 0)) (.neg .one)))) (by kernel_rfl));subst e;have hYY:=E.dbl_ne hY;rw [kV (fun h => hYY h.2)];dsimp only;have hs:=zE (l:=(K.mul (K.add (K.add (K.mul x x) (K.mul x x)) (K.mul x x)) j)) (x:=(K.mul x (K.mul (K.mul (K.add y y) j) (K.mul (K.add y y) j)))) E hYY (aN K (bX K [x,j,y]) (.mul (.mul (.add (.add (.mul (.v 0) (.v 0)) (.mul (.v 0) (.v 0))) (.mul (.v 0) (.v 0))) (.v 1)) (.add (.mul (.v 2) (.mul (.mul (.mul (.add (.v 2) (.v 2)) (.v 1)) (.mul (.add (.v 2) (.v 2)) (.v 1))) (.mul (.add (.v 2) (.v 2)) (.v 1)))) (.mul (.v 2) (.mul (.mul (.mul (.add (.v 2) (.v 2)) (.v 1)) (.mul (.add (.v 2) (.v 2)) (.v 1))) (.mul (.add (.v 2) (.v 2)) (.v 1)))))) (.add (.add (.mul (.mul (.v 0) (.mul (.mul (.add (.v 2) (.v 2)) (.v 1)) (.mul (.add (.v 2) (.v 2)) (.v 1)))) (.mul (.v 0) (.mul (.mul (.add (.v 2) (.v 2)) (.v 1)) (.mul (.add (.v 2) (.v 2)) (.v 1))))) (.mul (.mul (.v 0) (.mul (.mul (.add (.v 2) (.v 2)) (.v 1)) (.mul (.add (.v 2) (.v 2)) (.v 1)))) (.mul (.v 0) (.mul (.mul (.add (.v 2) (.v 2)) (.v 1)) (.mul (.add (.v 2) (.v 2)) (.v 1)))))) (.mul (.mul (.v 0) (.mul (.mul (.add (.v 2) (.v 2)) (.v 1)) (.mul (.add (.v 2) (.v 2)) (.v 1)))) (.mul (.v 0) (.mul (.mul (.add (.v 2) (.v 2)) (.v 1)) (.mul (.add (.v 2) (.v 2)) (.v 1)))))) (by kernel_rfl));rw [hs];refine congrArg some (Prod.ext ?_ ?_)
  ·exact aN K (bX K [x,y,j]) (.mul (.add (.mul (.add (.add (.mul (.v 0) (.v 0)) (.mul (.v 0) (.v 0))) (.mul (.v 0) (.v 0))) (.add (.add (.mul (.v 0) (.v 0)) (.mul (.v 0) (.v 0))) (.mul (.v 0) (.v 0)))) (.neg (.add (.mul (.v 0) (.add (.add (.mul (.v 1) (.v 1)) (.mul (.v 1) (.v 1))) (.add (.mul (.v 1) (.v 1)) (.mul (.v 1) (.v 1))))) (.mul (.v 0) (.add (.add (.mul (.v 1) (.v 1)) (.mul (.v 1) (.v 1))) (.add (.mul (.v 1) (.v 1)) (.mul (.v 1) (.v 1)))))))) (.mul (.v 2) (.v 2))) (.add (.add (.mul (.mul (.add (.add (.mul (.v 0) (.v 0)) (.mul (.v 0) (.v 0))) (.mul (.v 0) (.v 0))) (.v 2)) (.mul (.add (.add (.mul (.v 0) (.v 0)) (.mul (.v 0) (.v 0))) (.mul (.v 0) (.v 0))) (.v 2))) (.neg (.mul (.v 0) (.mul (.mul (.add (.v 1) (.v 1)) (.v 2)) (.mul (.add (.v 1) (.v 1)) (.v 2)))))) (.neg (.mul (.v 0) (.mul (.mul (.add (.v 1) (.v 1)) (.v 2)) (.mul (.add (.v 1) (.v 1)) (.v 2)))))) (by kernel_rfl)
  ·exact aN K (bX K [x,y,j]) (.mul (.add (.mul (.add (.add (.mul (.v 0) (.v 0)) (.mul (.v 0) (.v 0))) (.mul (.v 0) (.v 0))) (.add (.mul (.v 0) (.add (.add (.mul (.v 1) (.v 1)) (.mul (.v 1) (.v 1))) (.add (.mul (.v 1) (.v 1)) (.mul (.v 1) (.v 1))))) (.neg (.add (.mul (.add (.add (.mul (.v 0) (.v 0)) (.mul (.v 0) (.v 0))) (.mul (.v 0) (.v 0))) (.add (.add (.mul (.v 0) (.v 0)) (.mul (.v 0) (.v 0))) (.mul (.v 0) (.v 0)))) (.neg (.add (.mul (.v 0) (.add (.add (.mul (.v 1) (.v 1)) (.mul (.v 1) (.v 1))) (.add (.mul (.v 1) (.v 1)) (.mul (.v 1) (.v 1))))) (.mul (.v 0) (.add (.add (.mul (.v 1) (.v 1)) (.mul (.v 1) (.v 1))) (.add (.mul (.v 1) (.v 1)) (.mul (.v 1) (.v 1))))))))))) (.neg (.mul (.add (.add (.mul (.v 1) (.v 1)) (.mul (.v 1) (.v 1))) (.add (.mul (.v 1) (.v 1)) (.mul (.v 1) (.v 1)))) (.add (.mul (.v 1) (.v 1)) (.mul (.v 1) (.v 1)))))) (.mul (.mul (.v 2) (.v 2)) (.v 2))) (.add (.mul (.mul (.add (.add (.mul (.v 0) (.v 0)) (.mul (.v 0) (.v 0))) (.mul (.v 0) (.v 0))) (.v 2)) (.add (.mul (.v 0) (.mul (.mul (.add (.v 1) (.v 1)) (.v 2)) (.mul (.add (.v 1) (.v 1)) (.v 2)))) (.neg (.add (.add (.mul (.mul (.add (.add (.mul (.v 0) (.v 0)) (.mul (.v 0) (.v 0))) (.mul (.v 0) (.v 0))) (.v 2)) (.mul (.add (.add (.mul (.v 0) (.v 0)) (.mul (.v 0) (.v 0))) (.mul (.v 0) (.v 0))) (.v 2))) (.neg (.mul (.v 0) (.mul (.mul (.add (.v 1) (.v 1)) (.v 2)) (.mul (.add (.v 1) (.v 1)) (.v 2)))))) (.neg (.mul (.v 0) (.mul (.mul (.add (.v 1) (.v 1)) (.v 2)) (.mul (.add (.v 1) (.v 1)) (.v 2))))))))) (.neg (.mul (.v 1) (.mul (.mul (.mul (.add (.v 1) (.v 1)) (.v 2)) (.mul (.add (.v 1) (.v 1)) (.v 2))) (.mul (.add (.v 1) (.v 1)) (.v 2)))))) (by kernel_rfl)
theorem wI (E : EC K inv b) {p q : Jc R} (hp : p.2.2 ≠ K.zero) (hq : q.2.2 ≠ K.zero) : ∃ w,K.mul (K.mul p.2.2 q.2.2) w = K.one ∧ gC K inv p = some (K.mul (yH K p q) (K.mul w w),K.mul (tI K p q) (K.mul (K.mul w w) w)) ∧ gC K inv q = some (K.mul (yH K q p) (K.mul w w),K.mul (tI K q p) (K.mul (K.mul w w) w)):=by
 obtain ⟨x1,y1,z1⟩:=p;obtain ⟨x2,y2,z2⟩:=q;have h1:=E.F.inv z1 hp;have h2:=E.F.inv z2 hq;rw [dF hp,dF hq];dsimp only at *;generalize inv z1 = i at h1 ⊢;generalize inv z2 = j at h2 ⊢;refine ⟨K.mul i j,?_,congrArg some (Prod.ext ?_ ?_),congrArg some (Prod.ext ?_ ?_)⟩
 ·exact pR (K:=K) (c1:=(K.mul z2 j)) (c2:=K.one) h1 h2 (aN K (bX K [z1,z2,i,j]) (.add (.mul (.mul (.v 0) (.v 1)) (.mul (.v 2) (.v 3))) (.neg .one)) (.add (.mul (.mul (.v 1) (.v 3)) (.add (.mul (.v 0) (.v 2)) (.neg .one))) (.mul .one (.add (.mul (.v 1) (.v 3)) (.neg .one)))) (by kernel_rfl))
 ·exact nQ (K:=K) (c1:=(K.mul (K.neg (K.mul x1 (K.mul i i))) (K.add (K.mul z2 j) K.one))) h2 (aN K (bX K [x1,i,z2,j]) (.add (.mul (.v 0) (.mul (.v 1) (.v 1))) (.neg (.mul (.mul (.v 0) (.mul (.v 2) (.v 2))) (.mul (.mul (.v 1) (.v 3)) (.mul (.v 1) (.v 3)))))) (.mul (.mul (.neg (.mul (.v 0) (.mul (.v 1) (.v 1)))) (.add (.mul (.v 2) (.v 3)) .one)) (.add (.mul (.v 2) (.v 3)) (.neg .one))) (by kernel_rfl))
 ·exact nQ (K:=K) (c1:=(K.mul (K.neg (K.mul y1 (K.mul (K.mul i i) i))) (K.add (K.add (K.mul (K.mul z2 j) (K.mul z2 j)) (K.mul z2 j)) K.one))) h2 (aN K (bX K [y1,i,z2,j]) (.add (.mul (.v 0) (.mul (.mul (.v 1) (.v 1)) (.v 1))) (.neg (.mul (.mul (.v 0) (.mul (.mul (.v 2) (.v 2)) (.v 2))) (.mul (.mul (.mul (.v 1) (.v 3)) (.mul (.v 1) (.v 3))) (.mul (.v 1) (.v 3)))))) (.mul (.mul (.neg (.mul (.v 0) (.mul (.mul (.v 1) (.v 1)) (.v 1)))) (.add (.add (.mul (.mul (.v 2) (.v 3)) (.mul (.v 2) (.v 3))) (.mul (.v 2) (.v 3))) .one)) (.add (.mul (.v 2) (.v 3)) (.neg .one))) (by kernel_rfl))
 ·exact nQ (K:=K) (c1:=(K.mul (K.neg (K.mul x2 (K.mul j j))) (K.add (K.mul z1 i) K.one))) h1 (aN K (bX K [x2,j,z1,i]) (.add (.mul (.v 0) (.mul (.v 1) (.v 1))) (.neg (.mul (.mul (.v 0) (.mul (.v 2) (.v 2))) (.mul (.mul (.v 3) (.v 1)) (.mul (.v 3) (.v 1)))))) (.mul (.mul (.neg (.mul (.v 0) (.mul (.v 1) (.v 1)))) (.add (.mul (.v 2) (.v 3)) .one)) (.add (.mul (.v 2) (.v 3)) (.neg .one))) (by kernel_rfl))
 ·exact nQ (K:=K) (c1:=(K.mul (K.neg (K.mul y2 (K.mul (K.mul j j) j))) (K.add (K.add (K.mul (K.mul z1 i) (K.mul z1 i)) (K.mul z1 i)) K.one))) h1 (aN K (bX K [y2,j,z1,i]) (.add (.mul (.v 0) (.mul (.mul (.v 1) (.v 1)) (.v 1))) (.neg (.mul (.mul (.v 0) (.mul (.mul (.v 2) (.v 2)) (.v 2))) (.mul (.mul (.mul (.v 3) (.v 1)) (.mul (.v 3) (.v 1))) (.mul (.v 3) (.v 1)))))) (.mul (.mul (.neg (.mul (.v 0) (.mul (.mul (.v 1) (.v 1)) (.v 1)))) (.add (.add (.mul (.mul (.v 2) (.v 3)) (.mul (.v 2) (.v 3))) (.mul (.v 2) (.v 3))) .one)) (.add (.mul (.v 2) (.v 3)) (.neg .one))) (by kernel_rfl))
theorem Mt (E : EC K inv b) {px py qx qy w zz j : R} (hw : K.mul zz w = K.one) (ha : K.sub qx px ≠ K.zero) (hj : K.mul (K.mul zz (K.sub qx px)) j = K.one) :
  sL K inv (some (K.mul px (K.mul w w),K.mul py (K.mul (K.mul w w) w))) (some (K.mul qx (K.mul w w),K.mul qy (K.mul (K.mul w w) w))) = some (K.mul (sX K px (K.sub qx px) (K.sub qy py)) (K.mul j j),K.mul (sY K px py (K.sub qx px) (K.sub qy py)) (K.mul (K.mul j j) j)):=by
 have hw0 : w ≠ K.zero:=fun e => E.F.ne (by rw [← hw,e,K.mul_zero])
 have e : w = K.mul (K.sub qx px) j:=pR (K:=K) (c1:=(K.neg w)) (c2:=(K.mul (K.sub qx px) j)) hj hw (aN K (bX K [w,qx,px,j,zz]) (.add (.v 0) (.neg (.mul (.add (.v 1) (.neg (.v 2))) (.v 3)))) (.add (.mul (.neg (.v 0)) (.add (.mul (.mul (.v 4) (.add (.v 1) (.neg (.v 2)))) (.v 3)) (.neg .one))) (.mul (.mul (.add (.v 1) (.neg (.v 2))) (.v 3)) (.add (.mul (.v 4) (.v 0)) (.neg .one)))) (by kernel_rfl));have hx : K.mul px (K.mul w w) ≠ K.mul qx (K.mul w w):=fun h => by
  refine E.F.mul_ne ha (E.F.mul_ne hw0 hw0) ?_;have : K.mul (K.sub qx px) (K.mul w w) = K.sub (K.mul qx (K.mul w w)) (K.mul px (K.mul w w)):=aN K (bX K [qx,px,w]) (.mul (.add (.v 0) (.neg (.v 1))) (.mul (.v 2) (.v 2))) (.add (.mul (.v 0) (.mul (.v 2) (.v 2))) (.neg (.mul (.v 1) (.mul (.v 2) (.v 2))))) (by kernel_rfl);rw [this,h];exact K.add_neg _
 rw [kV (fun h => hx h.1)];dsimp only;have hs:=sH (l:=(K.mul (K.sub qy py) j)) (y1:=K.mul py (K.mul (K.mul w w) w)) (y2:=K.mul qy (K.mul (K.mul w w) w)) E hx (by
  subst e;exact aN K (bX K [qy,py,j,qx,px]) (.mul (.mul (.add (.v 0) (.neg (.v 1))) (.v 2)) (.add (.mul (.v 3) (.mul (.mul (.add (.v 3) (.neg (.v 4))) (.v 2)) (.mul (.add (.v 3) (.neg (.v 4))) (.v 2)))) (.neg (.mul (.v 4) (.mul (.mul (.add (.v 3) (.neg (.v 4))) (.v 2)) (.mul (.add (.v 3) (.neg (.v 4))) (.v 2))))))) (.add (.mul (.v 0) (.mul (.mul (.mul (.add (.v 3) (.neg (.v 4))) (.v 2)) (.mul (.add (.v 3) (.neg (.v 4))) (.v 2))) (.mul (.add (.v 3) (.neg (.v 4))) (.v 2)))) (.neg (.mul (.v 1) (.mul (.mul (.mul (.add (.v 3) (.neg (.v 4))) (.v 2)) (.mul (.add (.v 3) (.neg (.v 4))) (.v 2))) (.mul (.add (.v 3) (.neg (.v 4))) (.v 2)))))) (by kernel_rfl))
 rw [hs];subst e;refine congrArg some (Prod.ext ?_ ?_)
 ·exact aN K (bX K [qy,py,j,px,qx]) (.add (.add (.mul (.mul (.add (.v 0) (.neg (.v 1))) (.v 2)) (.mul (.add (.v 0) (.neg (.v 1))) (.v 2))) (.neg (.mul (.v 3) (.mul (.mul (.add (.v 4) (.neg (.v 3))) (.v 2)) (.mul (.add (.v 4) (.neg (.v 3))) (.v 2)))))) (.neg (.mul (.v 4) (.mul (.mul (.add (.v 4) (.neg (.v 3))) (.v 2)) (.mul (.add (.v 4) (.neg (.v 3))) (.v 2)))))) (.mul (.add (.add (.mul (.add (.v 0) (.neg (.v 1))) (.add (.v 0) (.neg (.v 1)))) (.neg (.mul (.mul (.add (.v 4) (.neg (.v 3))) (.add (.v 4) (.neg (.v 3)))) (.add (.v 4) (.neg (.v 3)))))) (.neg (.add (.mul (.v 3) (.mul (.add (.v 4) (.neg (.v 3))) (.add (.v 4) (.neg (.v 3))))) (.mul (.v 3) (.mul (.add (.v 4) (.neg (.v 3))) (.add (.v 4) (.neg (.v 3)))))))) (.mul (.v 2) (.v 2))) (by kernel_rfl)
 ·exact aN K (bX K [qy,py,j,px,qx]) (.add (.mul (.mul (.add (.v 0) (.neg (.v 1))) (.v 2)) (.add (.mul (.v 3) (.mul (.mul (.add (.v 4) (.neg (.v 3))) (.v 2)) (.mul (.add (.v 4) (.neg (.v 3))) (.v 2)))) (.neg (.add (.add (.mul (.mul (.add (.v 0) (.neg (.v 1))) (.v 2)) (.mul (.add (.v 0) (.neg (.v 1))) (.v 2))) (.neg (.mul (.v 3) (.mul (.mul (.add (.v 4) (.neg (.v 3))) (.v 2)) (.mul (.add (.v 4) (.neg (.v 3))) (.v 2)))))) (.neg (.mul (.v 4) (.mul (.mul (.add (.v 4) (.neg (.v 3))) (.v 2)) (.mul (.add (.v 4) (.neg (.v 3))) (.v 2))))))))) (.neg (.mul (.v 1) (.mul (.mul (.mul (.add (.v 4) (.neg (.v 3))) (.v 2)) (.mul (.add (.v 4) (.neg (.v 3))) (.v 2))) (.mul (.add (.v 4) (.neg (.v 3))) (.v 2)))))) (.mul (.add (.mul (.add (.v 0) (.neg (.v 1))) (.add (.mul (.v 3) (.mul (.add (.v 4) (.neg (.v 3))) (.add (.v 4) (.neg (.v 3))))) (.neg (.add (.add (.mul (.add (.v 0) (.neg (.v 1))) (.add (.v 0) (.neg (.v 1)))) (.neg (.mul (.mul (.add (.v 4) (.neg (.v 3))) (.add (.v 4) (.neg (.v 3)))) (.add (.v 4) (.neg (.v 3)))))) (.neg (.add (.mul (.v 3) (.mul (.add (.v 4) (.neg (.v 3))) (.add (.v 4) (.neg (.v 3))))) (.mul (.v 3) (.mul (.add (.v 4) (.neg (.v 3))) (.add (.v 4) (.neg (.v 3))))))))))) (.neg (.mul (.v 1) (.mul (.mul (.add (.v 4) (.neg (.v 3))) (.add (.v 4) (.neg (.v 3)))) (.add (.v 4) (.neg (.v 3))))))) (.mul (.mul (.v 2) (.v 2)) (.v 2))) (by kernel_rfl)
theorem BX (E : EC K inv b) {y1 y2 : R} (h : K.mul y1 y1 = K.mul y2 y2) (hn : y1 ≠ y2) : K.add y1 y2 = K.zero:=by
 refine E.F.zd (a:=K.sub y1 y2) ?_ (BT hn);have : K.mul (K.sub y1 y2) (K.add y1 y2) = K.sub (K.mul y1 y1) (K.mul y2 y2):=aN K (bX K [y1,y2]) (.mul (.add (.v 0) (.neg (.v 1))) (.add (.v 0) (.v 1))) (.add (.mul (.v 0) (.v 0)) (.neg (.mul (.v 1) (.v 1)))) (by kernel_rfl);rw [this,h];exact K.add_neg _
theorem Uk (E : EC K inv b) {p q : Jc R} (hp : On K b (gC K inv p)) (hq : On K b (gC K inv q)) (h1 : p.2.2 ≠ K.zero) (h2 : q.2.2 ≠ K.zero) (hn : ¬ (uB K p q = K.zero ∧ NG K p q = K.zero)) :
  gC K inv (DS K p q) = sL K inv (gC K inv p) (gC K inv q):=by
 obtain ⟨w,hw,e1,e2⟩:=wI (K:=K) (inv:=inv) E h1 h2;rw [e1] at hp;rw [e2] at hq;rw [e1,e2]
 by_cases ha : uB K p q = K.zero
 ·have hx : yH K q p = yH K p q:=gF ha;have hu : NG K p q ≠ K.zero:=fun e => hn ⟨ha,e⟩
  have hw0 : w ≠ K.zero:=fun e => E.F.ne (by rw [← hw,e,K.mul_zero])
  have hy : K.mul (tI K p q) (K.mul (K.mul w w) w) ≠ K.mul (tI K q p) (K.mul (K.mul w w) w):=fun h => by
   refine E.F.mul_ne hu (E.F.mul_ne (E.F.mul_ne hw0 hw0) hw0) ?_;show K.mul (K.sub (tI K q p) (tI K p q)) _ = _;have e0 : ∀ s t c : R,K.mul (K.sub s t) c = K.sub (K.mul s c) (K.mul t c):=fun s t c => aN K (bX K [s,t,c]) (.mul (.add (.v 0) (.neg (.v 1))) (.v 2)) (.add (.mul (.v 0) (.v 2)) (.neg (.mul (.v 1) (.v 2)))) (by kernel_rfl)
   rw [e0,h];exact K.add_neg _
  rw [hx] at hq ⊢;have ho:=BX (y1:=K.mul (tI K p q) (K.mul (K.mul w w) w)) (y2:=K.mul (tI K q p) (K.mul (K.mul w w) w)) E ((show K.mul _ _ = _ from hp).trans (show K.mul _ _ = _ from hq).symm) hy;rw [oU (p:=(K.mul (yH K p q) (K.mul w w),K.mul (tI K p q) (K.mul (K.mul w w) w))) (q:=(K.mul (yH K p q) (K.mul w w),K.mul (tI K q p) (K.mul (K.mul w w) w))) ⟨rfl,ho⟩];refine cQ ?_;show K.mul (K.mul p.2.2 q.2.2) (uB K p q) = K.zero;rw [ha,K.mul_zero]
 ·have hz : K.mul (K.mul p.2.2 q.2.2) (uB K p q) ≠ K.zero:=E.F.mul_ne (E.F.mul_ne h1 h2) ha;have hj:=E.F.inv _ hz;refine (dF (p:=DS K p q) hz).trans ?_;exact (Mt E hw ha hj).symm
theorem LH (E : EC K inv b) {p q : Jc R} (hp : On K b (gC K inv p)) (hq : On K b (gC K inv q)) : gC K inv (fJ K p q) = sL K inv (gC K inv p) (gC K inv q):=by
 unfold fJ
 by_cases h1 : p.2.2 = K.zero
 ·rw [if_pos h1,cQ h1]; rfl
 ·rw [if_neg h1]
  by_cases h2 : q.2.2 = K.zero
  ·rw [if_pos h2,cQ h2,dF h1]; rfl
  ·rw [if_neg h2]
   by_cases h3 : uB K p q = K.zero ∧ NG K p q = K.zero
   ·rw [if_pos h3];obtain ⟨w,hw,e1,e2⟩:=wI (K:=K) (inv:=inv) E h1 h2;have hx : yH K q p = yH K p q:=gF h3.1;have hy : tI K q p = tI K p q:=gF h3.2;rw [WD E hp];rw [hx,hy] at e2;rw [e2,e1]
   ·rw [if_neg h3];exact Uk E hp hq h1 h2 h3
theorem Bv (E : EC K inv b) {p q : Jc R} (hp : On K b (gC K inv p)) (hq : On K b (gC K inv q)) : gC K inv (rplus K p q) = sL K inv (gC K inv p) (gC K inv q):=by
 rw [← LH E hp hq];unfold rplus fJ
 by_cases h1 : p.2.2 = K.zero
 ·rw [if_pos h1,if_pos h1]
 ·rw [if_neg h1,if_neg h1]
  by_cases h2 : q.2.2 = K.zero
  ·rw [if_pos h2,if_pos h2]
  ·rw [if_neg h2,if_neg h2]
   by_cases h3 : uB K p q = K.zero ∧ NG K p q = K.zero
   ·rw [if_pos h3,if_pos h3]
   ·rw [if_neg h3,if_neg h3]
    by_cases h4 : uB K p q = K.zero
    ·rw [if_pos h4,cQ rfl];refine (cQ ?_).symm;show K.mul (K.mul p.2.2 q.2.2) (uB K p q) = K.zero;rw [h4,K.mul_zero]
    ·rw [if_neg h4]
def DU (K : CR R) (p : Jc R) : Jc R:=(p.1,K.sub K.zero p.2.1,p.2.2)
theorem Ul (p : Jc R) : gC K inv (DU K p) = Yd K (gC K inv p):=by
 by_cases h : p.2.2 = K.zero
 ·rw [cQ h,cQ (p:=DU K p) h]; rfl
 ·rw [dF h,dF (p:=DU K p) h];refine congrArg some (Prod.ext rfl ?_);show K.mul (K.sub K.zero p.2.1) _ = K.neg (K.mul p.2.1 _);rw [← K.neg_mul];congr 1;exact K.zero_add _
end
open Go.RowKit
theorem Dl {x y : Fq} (h : w4 x.1 = w4 y.1) : x = y:=by
 unfold w4 at h;simp only [List.cons.injEq,Value.int.injEq,true_and,and_true,Int.ofNat_inj] at h;apply Fin.ext;rw [← aZ x.2,← aZ y.2,h.1,h.2.1,h.2.2.1,h.2.2.2]
theorem MB : ∀ (l m : List Fq),aA (l.map .f) = aA (m.map .f) → l = m
 | [],[],_ => rfl
 | a :: r,b :: s,h => by
  have h' : w4 a.1 ++ aA (r.map .f) = w4 b.1 ++ aA (s.map .f):=h;obtain ⟨h1,h2⟩:=List.append_inj h' rfl;rw [Dl h1,MB r s h2]
 | [],b :: s,h => by cases h
 | a :: r,[],h => by cases h
theorem RN {a b : Fq} (h : aA [.f a] = aA [.f b]) : a = b:=Dl (by
 have h' : w4 a.1 ++ [] = w4 b.1 ++ []:=h
 rwa [List.append_nil,List.append_nil] at h')
theorem aCq {a b : Q2} (h : aA (e2 a) = aA (e2 b)) : a = b:=by
 have:=MB [a.1,a.2] [b.1,b.2] h;simp only [List.cons.injEq,and_true] at this;exact Prod.ext this.1 this.2
def vp : At → Option (List Prop × Fq)
 | .f x => some ([],x)
 | .q x => some ([wv x < FP.M],m1 x)
 | .c _ => none
theorem TM {a : At} {p : List Prop} {x : Fq} (h : vp a = some (p,x)) (hp : aL p) : ∃ n : Nat,aA [a] = aA (q1 n) ∧ m1 n = x ∧ wv n < FP.M:=by
 cases a with
 | f y => cases h; exact ⟨x.1,rfl,Yp x,by unfold wv; rw [aZ x.2]; exact x.2⟩
 | q y => cases h; exact ⟨_,rfl,rfl,hp.1⟩
 | c v => cases h
def g2p (op : Fq → Fq → RV) : gE
 | [.v (.fl [a]),.v (.fl [b])] => match vp a,vp b with
  | some (p,x),some (q,y) => some (p ++ q,op x y)
  | _,_ => none
 | _ => none
theorem RJ {P : Program} {f : FuncId} {op : Fq → Fq → RV} (h : ∀ a b : Nat,wv a < FP.M → wv b < FP.M → ∀ args w,bD w [.v (.fl (q1 a)),.v (.fl (q1 b))] args → Good P f (op (m1 a) (m1 b)) args w) :
  ∀ cs pre r,g2p op cs = some (pre,r) → aL pre → ∀ (args : List Value) (w : World),bD w cs args → Good P f r args w:=by
 intro cs pre r hg hp args w ha;unfold g2p at hg;split at hg
 ·rename_i a b;split at hg
  ·rename_i p x q y hx hy;cases hg;obtain ⟨p1,p2⟩:=aW.1 hp;obtain ⟨n,e1,rfl,hn⟩:=TM hx p1;obtain ⟨m,e2,rfl,hm⟩:=TM hy p2;refine h n m hn hm args w ?_
   match args,ha with
   | [v,u],ha =>
    have h1 : v = .agg (aA [a]).toArray:=ha.1;have h2 : u = .agg (aA [b]).toArray:=ha.2.1;rw [e1] at h1;rw [e2] at h2;exact ⟨h1,h2,trivial⟩
   | [],ha => exact ha.elim
   | [_],ha => exact ha.2.elim
   | _ :: _ :: _ :: _,ha => exact ha.2.2.elim
  ·cases hg
 ·cases hg
def gF2 (op : Fq → Fq → Fq) : gE
 | [.v (.im (.int .i64 (.ofNat 1))),.v (.fl [a]),.v (.fl [b])] => match vp a,vp b with
  | some (p,x),some (q,y) => some (p ++ q,.many [.fl (e1 (op x y)),.im (.int .i64 0)])
  | _,_ => none
 | _ => none
theorem RH {f : FuncId} {op : Fq → Fq → Fq} (h : ∀ (a b : Nat) (w : World),wv a < FP.M → wv b < FP.M → Calls prog f #[.int .i64 1,.agg (aA (q1 a)).toArray,.agg (aA (q1 b)).toArray] w (FT 0 (op (m1 a) (m1 b)).1 w)) :
  ∀ cs pre r,gF2 op cs = some (pre,r) → aL pre → ∀ (args : List Value) (w : World),bD w cs args → Good prog f r args w:=by
 intro cs pre r hg hp args w ha;unfold gF2 at hg;split at hg
 ·rename_i a b;split at hg
  ·rename_i p x q y hx hy;cases hg;obtain ⟨p1,p2⟩:=aW.1 hp;obtain ⟨n,e1,rfl,hn⟩:=TM hx p1;obtain ⟨m,e2,rfl,hm⟩:=TM hy p2
   match args,ha with
   | [t,v,u],ha =>
    have h0 : t = .int .i64 1:=ha.1;have h1 : v = .agg (aA [a]).toArray:=ha.2.1;have h2 : u = .agg (aA [b]).toArray:=ha.2.2.1;rw [e1] at h1;rw [e2] at h2;subst h0; subst h1; subst h2;refine (h n m w hn hm).mono ?_
    rintro e w' ⟨s0,s1,s2,s3,rfl,hs,hv,hb⟩
    obtain ⟨rfl,rfl,rfl,rfl⟩:=fG hs (gM (op (m1 n) (m1 m)).2) hv;exact ⟨rfl,hb⟩
   | [],ha => exact ha.elim
   | [_],ha => exact ha.2.elim
   | [_,_],ha => exact ha.2.2.elim
   | _ :: _ :: _ :: _ :: _,ha => exact ha.2.2.2.elim
  ·cases hg
 ·cases hg
theorem aFJ (a b : Nat) (w : World) (ha : wv a < FP.M) (hb : wv b < FP.M) : Calls prog 82 #[.int .i64 1,.agg (aA (q1 a)).toArray,.agg (aA (q1 b)).toArray] w (FT 0 (F1.add (m1 a) (m1 b)).1 w):=by
 have e : (F1.add (m1 a) (m1 b)).1 = (wv a + wv b) % FP.M:=(Nat.add_mod _ _ _).symm;rw [e];exact WU 1 FP fW _ _ _ _ _ _ _ _ (bR a) (bR b) ha hb w
theorem aFI (a b : Nat) (w : World) (ha : wv a < FP.M) (hb : wv b < FP.M) : Calls prog 165 #[.int .i64 1,.agg (aA (q1 a)).toArray,.agg (aA (q1 b)).toArray] w (FT 0 (F1.mul (m1 a) (m1 b)).1 w):=by
 have e : (F1.mul (m1 a) (m1 b)).1 = (wv a * wv b) % FP.M:=(Nat.mul_mod _ _ _).symm;rw [e];exact WQ 1 FP fW _ _ _ _ _ _ _ _ (bR a) (bR b) ha hb w
theorem aFH (a b : Nat) (w : World) (ha : wv a < FP.M) (hb : wv b < FP.M) : Calls prog 166 #[.int .i64 1,.agg (aA (q1 a)).toArray,.agg (aA (q1 b)).toArray] w (FT 0 (F1.sub (m1 a) (m1 b)).1 w):=by
 have e : (F1.sub (m1 a) (m1 b)).1 = (wv a + FP.M - wv b) % FP.M:=by
  show (wv a % FP.M + (0 + FP.M - wv b % FP.M) % FP.M) % FP.M = _;rw [Nat.mod_eq_of_lt ha,Nat.mod_eq_of_lt hb,Nat.add_mod_mod];congr 1;omega
 rw [e];exact WN 1 FP fW _ _ _ _ _ _ _ _ (bR a) (bR b) ha hb w
def aBW (d : Bool) : gE
 | [.v (.im (.int .i64 (.ofNat 1))),.v (.fl l)] => match PT l with
  | some x => bif d then some ([wv x < FP.M],.one (.im (.int .i64 0))) else some ([¬ wv x < FP.M],.one (.im (.int .i64 21)))
  | none => none
 | _ => none
theorem Vd (d : Bool) : ∀ cs pre r,aBW d cs = some (pre,r) → aL pre → ∀ (args : List Value) (w : World),bD w cs args → Good prog 162 r args w:=by
 intro cs pre r hg hp args w ha;unfold aBW at hg;split at hg
 ·rename_i l;split at hg
  ·rename_i x hx
   match args,ha with
   | [v,u],ha =>
    have h1 : v = .int .i64 1:=ha.1;have h2 : u = .agg (aA l).toArray:=ha.2.1;rw [fU l x hx] at h2;subst h1; subst h2;cases d
    ·cases hg;exact wX 1 21 _ _ _ _ (bR x) (Or.inr ⟨FP,fW,hp.1,rfl⟩) w
    ·cases hg;exact AO 1 FP fW _ _ _ _ (bR x) hp.1 w
   | [],ha => exact ha.elim
   | [_],ha => exact ha.2.elim
   | _ :: _ :: _ :: _,ha => exact ha.2.2.elim
  ·cases hg
 ·cases hg
def Ol (d : Bool) : Tab:=(yE true).add 82 (gF2 F1.add)
theorem Ti (d : Bool) : TabOk prog (Ol d):=(Il true).ad func82 (RH aFJ)
def Oh (d : Bool) : Tab:=(Ol d).add 165 (gF2 F1.mul)
theorem Tf (d : Bool) : TabOk prog (Oh d):=(Ti d).ad func165 (RH aFI)
def Og (d : Bool) : Tab:=(Oh d).add 166 (gF2 F1.sub)
theorem Te (d : Bool) : TabOk prog (Og d):=(Tf d).ad func166 (RH aFH)
def SS (d : Bool) : Tab:=(Og d).add 162 (aBW d)
theorem VE (d : Bool) : TabOk prog (SS d):=(Te d).ad func162 (Vd d)
theorem Gc (d : Bool) (x y : N2) : dL prog (SS d) qN (fun _ => true) f63 40 [.v (.fl (q2 x)),.v (.fl (q2 y))] = some ([],.one (.fl (e2 (F2.add (m2 x) (m2 y))))):=by kernel_rfl
def TB (d : Bool) : Tab:=(SS d).add 63 (g2 sI sI (fun x y => ([],.one (.fl (e2 (F2.add x y))))))
theorem VO (d : Bool) : TabOk prog (TB d):=(VE d).ad func63 (mG cO cO fun x y hp args w ha => aV aG (VE d) cG func63 (Gc d x y) hp ha)
theorem Fy (d : Bool) (x y : N2) : dL prog (TB d) qN (fun _ => true) f105 40 [.v (.fl (q2 x)),.v (.fl (q2 y))] = some ([],.one (.fl (e2 (F2.sub (m2 x) (m2 y))))):=by kernel_rfl
def SX (d : Bool) : Tab:=(TB d).add 105 (g2 sI sI (fun x y => ([],.one (.fl (e2 (F2.sub x y))))))
theorem VK (d : Bool) : TabOk prog (SX d):=(VO d).ad func105 (mG cO cO fun x y hp args w ha => aV aG (VO d) cG func105 (Fy d x y) hp ha)
theorem Ao (d : Bool) (x : N2) : dL prog (SX d) qN (fun _ => true) f90 40 [.v (.fl (q2 x))] = some ([],.one (.fl (e2 (cE (m2 x))))):=by kernel_rfl
def FM (d : Bool) : Tab:=(SX d).add 90 (g1 sI (fun x => ([],.one (.fl (e2 (cE x))))))
theorem KP (d : Bool) : TabOk prog (FM d):=(VK d).ad func90 (jQ cO fun x hp args w ha => aV aG (VK d) cG func90 (Ao d x) hp ha)
theorem YY (d : Bool) (x y : Nat) : dL prog (FM d) qN (fun _ => true) f232 40 [.v (.fl (q1 x)),.v (.fl (q1 y))] = some ([wv x < FP.M,wv y < FP.M],.one (.fl (e1 (F1.add (m1 x) (m1 y))))):=by kernel_rfl
def FE (d : Bool) : Tab:=(FM d).add 232 (g2p fun x y => .one (.fl (e1 (F1.add x y))))
theorem KJ (d : Bool) : TabOk prog (FE d):=(KP d).ad func232 (RJ fun x y hx hy args w ha => aV aG (KP d) cG func232 (YY d x y) ⟨hx,hy,trivial⟩ ha)
theorem OP (d : Bool) (x y : Nat) : dL prog (FE d) qN (fun _ => true) f230 40 [.v (.fl (q1 x)),.v (.fl (q1 y))] = some ([wv x < FP.M,wv y < FP.M],.one (.fl (e1 (F1.sub (m1 x) (m1 y))))):=by kernel_rfl
def xW (d : Bool) : Tab:=(FE d).add 230 (g2p fun x y => .one (.fl (e1 (F1.sub x y))))
theorem zW (d : Bool) : TabOk prog (xW d):=(KJ d).ad func230 (RJ fun x y hx hy args w ha => aV aG (KJ d) cG func230 (OP d x y) ⟨hx,hy,trivial⟩ ha)
theorem OO (d : Bool) (x y : Nat) : dL prog (xW d) qN (fun _ => true) f233 40 [.v (.fl (q1 x)),.v (.fl (q1 y))] = some ([wv x < FP.M,wv y < FP.M],.one (.fl (e1 (F1.mul (m1 x) (m1 y))))):=by kernel_rfl
def xV (d : Bool) : Tab:=(xW d).add 233 (g2p fun x y => .one (.fl (e1 (F1.mul x y))))
theorem zV (d : Bool) : TabOk prog (xV d):=(zW d).ad func233 (RJ fun x y hx hy args w ha => aV aG (zW d) cG func233 (OO d x y) ⟨hx,hy,trivial⟩ ha)
theorem Ez (d : Bool) (x : Nat) : dL prog (xV d) qN (fun _ => true) f231 40 [.v (.fl (q1 x))] = some ([],.one (.fl (e1 F1.one))):=by kernel_rfl
def SK (d : Bool) : Tab:=(xV d).add 231 (g1 rv1 (fun x => ([],.one (.fl (e1 F1.one)))))
theorem UX (d : Bool) : TabOk prog (SK d):=(zV d).ad func231 (jQ Et fun x hp args w ha => aV aG (zV d) cG func231 (Ez d x) hp ha)
theorem Fb (d : Bool) (x : Nat) : dL prog (SK d) qN (fun _ => true) f228 40 [.v (.fl (q1 x))] = some ([],.one (.fl (e1 (fm 3)))):=by kernel_rfl
def SM (d : Bool) : Tab:=(SK d).add 228 (g1 rv1 (fun x => ([],.one (.fl (e1 (fm 3))))))
theorem UZ (d : Bool) : TabOk prog (SM d):=(UX d).ad func228 (jQ Et fun x hp args w ha => aV aG (UX d) cG func228 (Fb d x) hp ha)
theorem Fa (d : Bool) (x : Fq) : dL prog (SM d) qN (fun _ => true) f229 40 [.v (.fl (e1 x))] = some ([x ≠ F1.zero],.one (.fl (e1 (gY x)))):=by kernel_rfl
def FF (d : Bool) : Tab:=(SM d).add 229 (g1 zK (fun x => ([x ≠ F1.zero],.one (.fl (e1 (gY x))))))
theorem CY (d : Bool) : TabOk prog (FF d):=(UZ d).ad func229 (cM dK fun x hp args w ha => aV aG (UZ d) cG func229 (Fa d x) hp ha)
theorem OQ (x : Nat) : dL prog (FF true) qN (fun _ => true) f225 40 [.v (.fl (q1 x))] = some ([wv x < FP.M],.one (.im (.bool true))):=by kernel_rfl
theorem OR (x : Nat) : dL prog (FF false) qN (fun _ => true) f225 40 [.v (.fl (q1 x))] = some ([¬ wv x < FP.M],.one (.im (.bool false))):=by kernel_rfl
def aBi (d : Bool) (x : Nat) : List Prop × RV:=bif d then ([wv x < FP.M],.one (.im (.bool true))) else ([¬ wv x < FP.M],.one (.im (.bool false)))
theorem Tm (d : Bool) (x : Nat) (hp : aL (aBi d x).1) (args : List Value) (w : World) (ha : bD w [.v (.fl (q1 x))] args) : Good prog 225 (aBi d x).2 args w:=by
 cases d
 ·exact aV aG (CY false) cG func225 (OR x) hp ha
 ·exact aV aG (CY true) cG func225 (OQ x) hp ha
def SL (d : Bool) : Tab:=(FF d).add 225 (g1 PT (aBi d))
theorem UY (d : Bool) : TabOk prog (SL d):=(CY d).ad func225 (cM fU fun x hp args w ha => Tm d x hp args w ha)
theorem ZG (d : Bool) (x y : N2) : dL prog (SL d) qN (fun _ => true) f222 40 [.v (.fl (q2 x)),.v (.fl (q2 y))] = some ([],.one (.fl (e2 (F2.add (m2 x) (m2 y))))):=by kernel_rfl
def FG (d : Bool) : Tab:=(SL d).add 222 (g2 sI sI (fun x y => ([],.one (.fl (e2 (F2.add x y))))))
theorem KN (d : Bool) : TabOk prog (FG d):=(UY d).ad func222 (mG cO cO fun x y hp args w ha => aV aG (UY d) cG func222 (ZG d x y) hp ha)
theorem PA (d : Bool) (x y : N2) : dL prog (FG d) qN (fun _ => true) f220 40 [.v (.fl (q2 x)),.v (.fl (q2 y))] = some ([],.one (.fl (e2 (F2.sub (m2 x) (m2 y))))):=by kernel_rfl
def xZ (d : Bool) : Tab:=(FG d).add 220 (g2 sI sI (fun x y => ([],.one (.fl (e2 (F2.sub x y))))))
theorem zZ (d : Bool) : TabOk prog (xZ d):=(KN d).ad func220 (mG cO cO fun x y hp args w ha => aV aG (KN d) cG func220 (PA d x y) hp ha)
theorem OZ (d : Bool) (x y : N2) : dL prog (xZ d) qN (fun _ => true) f223 40 [.v (.fl (q2 x)),.v (.fl (q2 y))] = some ([],.one (.fl (e2 (F2.mul (m2 x) (m2 y))))):=by kernel_rfl
def xY (d : Bool) : Tab:=(xZ d).add 223 (g2 sI sI (fun x y => ([],.one (.fl (e2 (F2.mul x y))))))
theorem zY (d : Bool) : TabOk prog (xY d):=(zZ d).ad func223 (mG cO cO fun x y hp args w ha => aV aG (zZ d) cG func223 (OZ d x y) hp ha)
theorem Fk (d : Bool) (x : N2) : dL prog (xY d) qN (fun _ => true) f221 40 [.v (.fl (q2 x))] = some ([],.one (.fl (e2 F2.one))):=by kernel_rfl
def SO (d : Bool) : Tab:=(xY d).add 221 (g1 sI (fun x => ([],.one (.fl (e2 F2.one)))))
theorem VA (d : Bool) : TabOk prog (SO d):=(zY d).ad func221 (jQ cO fun x hp args w ha => aV aG (zY d) cG func221 (Fk d x) hp ha)
def qD : Q2:=(⟨19485874751759354771024239261021720505790618469301721065564631296452457478373,by decide⟩,⟨266929791119991161246907387137283842545076965332900288569378510910307636690,by decide⟩)
theorem Fm (d : Bool) (x : N2) : dL prog (SO d) qN (fun _ => true) f217 40 [.v (.fl (q2 x))] = some ([],.one (.fl (e2 qD))):=by kernel_rfl
def SP (d : Bool) : Tab:=(SO d).add 217 (g1 sI (fun x => ([],.one (.fl (e2 qD)))))
theorem VB (d : Bool) : TabOk prog (SP d):=(VA d).ad func217 (jQ cO fun x hp args w ha => aV aG (VA d) cG func217 (Fm d x) hp ha)
theorem Fl (d : Bool) (x : N2) : dL prog (SP d) qN (fun _ => true) f218 40 [.v (.fl (q2 x))] = some ([iE (m2 x) ≠ F1.zero],.one (.fl (e2 (iZ (m2 x))))):=by kernel_rfl
def yA (d : Bool) : Tab:=(SP d).add 218 (g1 sI (fun x => ([iE x ≠ F1.zero],.one (.fl (e2 (iZ x))))))
theorem tU (d : Bool) : TabOk prog (yA d):=(VB d).ad func218 (jQ cO fun x hp args w ha => aV aG (VB d) cG func218 (Fl d x) hp ha)
theorem PB (x : N2) : dL prog (yA true) qN (fun _ => true) f219 40 [.v (.fl (q2 x))] = some ([wv x.1 < FP.M,wv x.2 < FP.M],.one (.im (.bool true))):=by kernel_rfl
theorem PD (x : N2) : dL prog (yA false) qN (fun _ => true) f219 40 [.v (.fl (q2 x))] = some ([¬ wv x.1 < FP.M],.one (.im (.bool false))):=by kernel_rfl
theorem PC (x : N2) : aU prog qN (fun _ => ⟨fun s => yA (bif Nat.beq s 9 then false else true),fun _ => true,fun _ => none⟩) f219 40 [.v (.fl (q2 x))] = some ([wv x.1 < FP.M,¬ wv x.2 < FP.M],.one (.im (.bool false))):=by kernel_rfl
def Ir (d : Bool) (x : N2) : List Prop × RV:=bif d then ([wv x.1 < FP.M ∧ wv x.2 < FP.M],.one (.im (.bool true))) else ([¬ (wv x.1 < FP.M ∧ wv x.2 < FP.M)],.one (.im (.bool false)))
theorem Iq (d : Bool) (x : N2) (hp : aL (Ir d x).1) (args : List Value) (w : World) (ha : bD w [.v (.fl (q2 x))] args) : Good prog 219 (Ir d x).2 args w:=by
 cases d
 ·have h1 : ¬ (wv x.1 < FP.M ∧ wv x.2 < FP.M):=hp.1
  by_cases h : wv x.1 < FP.M
  ·exact aD aG (fun _ s => tU _) cG func219 (PC x) ⟨h,fun e => h1 ⟨h,e⟩,trivial⟩ ha
  ·exact aV aG (tU false) cG func219 (PD x) ⟨h,trivial⟩ ha
 ·have h1 : wv x.1 < FP.M ∧ wv x.2 < FP.M:=hp.1;exact aV aG (tU true) cG func219 (PB x) ⟨h1.1,h1.2,trivial⟩ ha
def FH (d : Bool) : Tab:=(yA d).add 219 (g1 Ct (Ir d))
theorem CZ (d : Bool) : TabOk prog (FH d):=(tU d).ad func219 (cM jO fun x hp args w ha => Iq d x hp args w ha)
end Go.Proofs.YtfnkbmlmgnadmaaGreat.Ex
