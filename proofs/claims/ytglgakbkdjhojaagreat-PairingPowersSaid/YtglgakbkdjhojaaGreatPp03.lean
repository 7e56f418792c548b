/- Pp03 -/
import Derived.KernelRfl
import Derived.Laws.Externs
import Derived.Test.YtglgakbkdjhojaaGreatPp02
import Derived.Test.YtglgakbkdjhojaaGreatProg
set_option maxRecDepth 100000
set_option linter.unusedVariables false
set_option linter.unusedSimpArgs false
noncomputable section
namespace Go.Proofs.YtglgakbkdjhojaaGreat.Ex
open Go.Proofs.Tryz
structure FD {R : Type} (K : CR R) (inv : R → R) : Prop where
 ne : K.one ≠ K.zero
 inv : ∀ x,x ≠ K.zero → K.mul x (inv x) = K.one
section
variable {R : Type} {K : CR R} {inv : R → R}
theorem FD.zd (h : FD K inv) {a b : R} (e : K.mul a b = K.zero) (ha : a ≠ K.zero) : b = K.zero:=by
 have:=congrArg (K.mul (inv a)) e
 rwa [← K.mul_assoc,K.mul_comm (inv a),h.inv a ha,K.one_mul,K.mul_zero] at this
theorem FD.mul_ne (h : FD K inv) {a b : R} (ha : a ≠ K.zero) (hb : b ≠ K.zero) : K.mul a b ≠ K.zero:=fun e => hb (h.zd e ha)
theorem FD.cancel (h : FD K inv) {a b c : R} (ha : a ≠ K.zero) (e : K.mul a b = K.mul a c) : b = c:=by
 have:=congrArg (K.mul (inv a)) e
 rwa [← K.mul_assoc,← K.mul_assoc,K.mul_comm (inv a),h.inv a ha,K.one_mul,K.one_mul] at this
theorem mK {a b : R} (h : K.add a (K.neg b) = K.zero) : a = b:=by
 have h2 : K.add (K.add a (K.neg b)) b = K.add K.zero b:=congrArg (fun x => K.add x b) h
 rwa [K.add_assoc,K.neg_add,K.add_zero,K.zero_add] at h2
theorem fP {a b : R} (h : a = b) : K.add a (K.neg b) = K.zero:=by rw [h,K.add_neg]
theorem gQ {A B L1 R1 c1 : R} (h1 : L1 = R1) (e : K.add A (K.neg B) = K.mul c1 (K.add L1 (K.neg R1))) : A = B:=by
 apply mK (K:=K);rw [e,fP h1,K.mul_zero]
theorem jU {A B L1 R1 c1 L2 R2 c2 : R} (h1 : L1 = R1) (h2 : L2 = R2) (e : K.add A (K.neg B) = K.add (K.mul c1 (K.add L1 (K.neg R1))) (K.mul c2 (K.add L2 (K.neg R2)))) : A = B:=by
 apply mK (K:=K);rw [e,fP h1,fP h2,K.mul_zero,K.mul_zero,K.add_zero]
theorem ZV {A B L1 R1 c1 L2 R2 c2 L3 R3 c3 : R} (h1 : L1 = R1) (h2 : L2 = R2) (h3 : L3 = R3) (e : K.add A (K.neg B) = K.add (K.add (K.mul c1 (K.add L1 (K.neg R1))) (K.mul c2 (K.add L2 (K.neg R2)))) (K.mul c3 (K.add L3 (K.neg R3)))) : A = B:=by
 apply mK (K:=K);rw [e,fP h1,fP h2,fP h3,K.mul_zero,K.mul_zero,K.mul_zero,K.add_zero,K.add_zero]
end
section
variable {R : Type} (K : CR R)
def tl (f : Nat → R) : Nat → R:=fun n => f (n + 1)
def sP : Nat → (Nat → R) → (Nat → R) → R
 | 0,f,g => K.mul (f 0) (g 0)
 | n + 1,f,g => K.add (K.mul (f 0) (g (n + 1))) (sP n (tl f) g)
def QR (f g : Nat → R) : Nat → R:=fun n => K.add (f n) (g n)
def fsc (c : R) (f : Nat → R) : Nat → R:=fun n => K.mul c (f n)
def CE (f g : Nat → R) : Nat → R:=fun n => sP K n f g
def aXT (f : Nat → R) : Nat → R:=fun n => K.neg (f n)
def fze : Nat → R:=fun _ => K.zero
def fco (c : R) : Nat → R | 0 => c | _ + 1 => K.zero
theorem MQ : ∀ (n : Nat) (f g h : Nat → R),sP K n f (QR K g h) = K.add (sP K n f g) (sP K n f h)
 | 0,f,g,h => K.mul_add _ _ _
 | n + 1,f,g,h => by
  show K.add (K.mul (f 0) (K.add _ _)) (sP K n (tl f) (QR K g h)) = K.add (K.add _ _) (K.add _ _);rw [MQ n,K.mul_add,K.add_assoc,K.add_assoc,K.add_left_comm (K.mul (f 0) (h (n + 1)))]
theorem MS : ∀ (n : Nat) (f g h : Nat → R),sP K n (QR K f g) h = K.add (sP K n f h) (sP K n g h)
 | 0,f,g,h => K.add_mul _ _ _
 | n + 1,f,g,h => by
  show K.add (K.mul (K.add _ _) (h (n + 1))) (sP K n (QR K (tl f) (tl g)) h) = K.add (K.add _ _) (K.add _ _);rw [MS n,K.add_mul,K.add_assoc,K.add_assoc,K.add_left_comm (K.mul (g 0) (h (n + 1)))]
theorem aDq : ∀ (n : Nat) (c : R) (f g : Nat → R),sP K n (fsc K c f) g = K.mul c (sP K n f g)
 | 0,c,f,g => K.mul_assoc _ _ _
 | n + 1,c,f,g => by
  show K.add (K.mul (K.mul c (f 0)) _) (sP K n (fsc K c (tl f)) g) = K.mul c (K.add _ _);rw [aDq n,K.mul_add,K.mul_assoc]
theorem RD : ∀ (n : Nat) (g : Nat → R),sP K n (fze K) g = K.zero
 | 0,g => K.zero_mul _
 | n + 1,g => by
  show K.add (K.mul K.zero _) (sP K n (fze K) g) = _;rw [RD n,K.zero_mul,K.add_zero]
theorem Gf (c : R) (g : Nat → R) : ∀ n,sP K n (fco K c) g = K.mul c (g n)
 | 0 => rfl
 | n + 1 => by
  show K.add (K.mul c _) (sP K n (fze K) g) = _;rw [RD,K.add_zero]
theorem MP : ∀ (n : Nat) (f g h : Nat → R),sP K n (CE K f g) h = sP K n f (CE K g h)
 | 0,f,g,h => K.mul_assoc _ _ _
 | n + 1,f,g,h => by
  have e : tl (CE K f g) = QR K (fsc K (f 0) (tl g)) (CE K (tl f) g):=rfl;show K.add (K.mul (K.mul (f 0) (g 0)) (h (n + 1))) (sP K n (tl (CE K f g)) h) = K.add (K.mul (f 0) (K.add (K.mul (g 0) (h (n + 1))) (sP K n (tl g) h))) (sP K n (tl f) (CE K g h));rw [e,MS,aDq,MP n,K.mul_add,K.mul_assoc,K.add_assoc]
theorem xW : ∀ (n : Nat) (f g : Nat → R),sP K n f g = sP K n g f
 | 0,f,g => K.mul_comm _ _
 | 1,f,g => by
  show K.add (K.mul (f 0) (g 1)) (K.mul (f 1) (g 0)) = K.add (K.mul (g 0) (f 1)) (K.mul (g 1) (f 0));rw [K.add_comm,K.mul_comm (f 1),K.mul_comm (f 0)]
 | n + 2,f,g => by
  show K.add (K.mul (f 0) (g (n + 2))) (sP K (n + 1) (tl f) g) = K.add (K.mul (g 0) (f (n + 2))) (sP K (n + 1) (tl g) f);rw [xW (n + 1) (tl f) g,xW (n + 1) (tl g) f];show K.add (K.mul (f 0) (g (n + 2))) (K.add (K.mul (g 0) (f (n + 2))) (sP K n (tl g) (tl f))) = K.add (K.mul (g 0) (f (n + 2))) (K.add (K.mul (f 0) (g (n + 2))) (sP K n (tl f) (tl g)));rw [K.add_left_comm,xW n (tl g) (tl f)]
theorem RF : ∀ (a b : Nat) (f g : Nat → R),(∀ i,a ≤ i → f i = K.zero) → (∀ i,b ≤ i → g i = K.zero) → ∀ n,a + b ≤ n + 1 → sP K n f g = K.zero
 | 0,b,f,g,hf,hg,n,h => by
  have : f = fze K:=funext fun i => hf i (Nat.zero_le _)
  rw [this,RD]
 | a + 1,b,f,g,hf,hg,0,h => by
  show K.mul (f 0) (g 0) = _;rw [hg 0 (by omega),K.mul_zero]
 | a + 1,b,f,g,hf,hg,n + 1,h => by
  show K.add (K.mul (f 0) (g (n + 1))) (sP K n (tl f) g) = _;rw [hg (n + 1) (by omega),K.mul_zero,K.zero_add];exact RF a b (tl f) g (fun i hi => hf (i + 1) (by omega)) hg n (by omega)
def Pol : Type:={f : Nat → R // ∃ n,∀ i,n ≤ i → f i = K.zero}
variable {K}
theorem Pol.ext {f g : Pol K} (h : ∀ n,f.1 n = g.1 n) : f = g:=Subtype.ext (funext h)
def aV : CR (Pol K) where
 add f g:=⟨QR K f.1 g.1,by
  obtain ⟨a,ha⟩:=f.2; obtain ⟨b,hb⟩:=g.2;exact ⟨a + b,fun i hi => by show K.add (f.1 i) (g.1 i) = _; rw [ha i (by omega),hb i (by omega),K.add_zero]⟩⟩
 mul f g:=⟨CE K f.1 g.1,by
  obtain ⟨a,ha⟩:=f.2; obtain ⟨b,hb⟩:=g.2;exact ⟨a + b,fun i hi => RF K a b f.1 g.1 ha hb i (by omega)⟩⟩
 neg f:=⟨aXT K f.1,by
  obtain ⟨a,ha⟩:=f.2;exact ⟨a,fun i hi => by show K.neg (f.1 i) = _; rw [ha i hi,bK]⟩⟩
 zero:=⟨fze K,0,fun _ _ => rfl⟩
 one:=⟨fco K K.one,1,fun i hi => by cases i with | zero => omega | succ i => rfl⟩
 add_assoc a b c:=Pol.ext fun n => K.add_assoc _ _ _
 add_comm a b:=Pol.ext fun n => K.add_comm _ _
 zero_add a:=Pol.ext fun n => K.zero_add _
 neg_add a:=Pol.ext fun n => K.neg_add _
 mul_assoc a b c:=Pol.ext fun n => MP K n _ _ _
 mul_comm a b:=Pol.ext fun n => xW K n _ _
 one_mul a:=Pol.ext fun n => by show sP K n (fco K K.one) a.1 = _; rw [Gf,K.one_mul]
 mul_add a b c:=Pol.ext fun n => MQ K n _ _ _
def kH (c : R) : Pol K:=⟨fco K c,1,fun i hi => by cases i with | zero => omega | succ i => rfl⟩
def pX : Pol K:=⟨fun n => match n with | 1 => K.one | _ => K.zero,2,fun i hi => by match i,hi with | i + 2,_ => rfl⟩
theorem Jh (a b : R) : (kH (K.add a b) : Pol K) = aV.add (kH a) (kH b):=Pol.ext fun n => by
 cases n with
 | zero => rfl
 | succ n => exact (K.zero_add _).symm
theorem aGU (a : R) : (kH (K.neg a) : Pol K) = aV.neg (kH a):=Pol.ext fun n => by
 cases n with
 | zero => rfl
 | succ n => exact (bK K).symm
theorem CO (a b : R) : (kH (K.mul a b) : Pol K) = aV.mul (kH a) (kH b):=Pol.ext fun n => by
 show _ = sP K n (fco K a) (fco K b);rw [Gf];cases n with
 | zero => rfl
 | succ n => exact (K.mul_zero _).symm
def dg (f : Pol K) (n : Nat) : Prop:=f.1 n ≠ K.zero ∧ ∀ i,n < i → f.1 i = K.zero
theorem aDg {f : Pol K} {n : Nat} (h : dg f n) : f ≠ aV.zero:=fun e => h.1 (by rw [e]; rfl)
theorem aDf {f : Pol K} {n m : Nat} (h : dg f n) (g : dg f m) : n = m:=by
 rcases Nat.lt_trichotomy n m with q | q | q
 ·exact absurd (h.2 m q) g.1
 ·exact q
 ·exact absurd (g.2 n q) h.1
theorem GZ (f : Pol K) (h : f ≠ aV.zero) : ∃ n,dg f n:=by
 obtain ⟨b,hb⟩:=f.2;have : ∀ b,(∀ i,b ≤ i → f.1 i = K.zero) → ∃ n,dg f n:=by
  intro b
  induction b with
  | zero => exact fun hb => absurd (Pol.ext fun n => hb n (Nat.zero_le _)) h
  | succ b ih =>
   intro hb
   by_cases h0 : f.1 b = K.zero
   ·exact ih fun i hi => by
     rcases Nat.lt_or_ge b i with q | q
     ·exact hb i q
     ·rw [show i = b by omega,h0]
   ·exact ⟨b,h0,hb⟩
 exact this b hb
variable {inv : R → R}
theorem Nc : ∀ (a b : Nat) (f g : Nat → R),(∀ i,a < i → f i = K.zero) → (∀ i,b < i → g i = K.zero) → sP K (a + b) f g = K.mul (f a) (g b)
 | 0,b,f,g,hf,hg => by
  have : f = fco K (f 0):=funext fun i => by cases i with | zero => rfl | succ i => exact hf _ (by omega)
  rw [this,Gf,Nat.zero_add]; rfl
 | a + 1,b,f,g,hf,hg => by
  rw [show a + 1 + b = (a + b) + 1 by omega];show K.add (K.mul (f 0) (g (a + b + 1))) (sP K (a + b) (tl f) g) = _;rw [hg (a + b + 1) (by omega),K.mul_zero,K.zero_add];exact Nc a b (tl f) g (fun i hi => hf (i + 1) (by omega)) hg
theorem iH (F : FD K inv) {f g : Pol K} {n m : Nat} (hf : dg f n) (hg : dg g m) : dg (aV.mul f g) (n + m):=by
 refine ⟨?_,fun i hi => RF K (n + 1) (m + 1) f.1 g.1 (fun j hj => hf.2 j hj) (fun j hj => hg.2 j hj) i (by omega)⟩
 ·show sP K (n + m) f.1 g.1 ≠ _;rw [Nc n m f.1 g.1 hf.2 hg.2];exact F.mul_ne hf.1 hg.1
theorem sO {f g : Pol K} {n : Nat} (hf : dg f n) (hg : ∀ i,n ≤ i → g.1 i = K.zero) : dg (aV.add f g) n:=by
 refine ⟨?_,fun i hi => ?_⟩
 ·show K.add (f.1 n) (g.1 n) ≠ _;rw [hg n (Nat.le_refl _),K.add_zero]; exact hf.1
 ·show K.add (f.1 i) (g.1 i) = _;rw [hf.2 i hi,hg i (by omega),K.add_zero]
theorem aOa {a : R} (h : a ≠ K.zero) : K.neg a ≠ K.zero:=fun e => h (by rw [← K.neg_neg a,e,bK])
theorem RA {f : Pol K} {n : Nat} (hf : dg f n) : dg (aV.neg f) n :=
 ⟨aOa hf.1,fun i hi => by show K.neg (f.1 i) = _; rw [hf.2 i hi,bK]⟩
theorem GY (F : FD K inv) (c : R) : dg (aV.sub (pX : Pol K) (kH c)) 1:=by
 refine ⟨?_,fun i hi => ?_⟩
 ·show K.add K.one (K.neg K.zero) ≠ _;rw [bK,K.add_zero]; exact F.ne
 ·match i,hi with
  | i + 2,_ => show K.add K.zero (K.neg K.zero) = _; rw [bK,K.add_zero]
def qP (c : R) : Pol K:=aV.add (aV.mul pX (aV.mul pX pX)) (kH c)
theorem aPH (F : FD K inv) : dg (pX : Pol K) 1:=⟨F.ne,fun i hi => by match i,hi with | i + 2,_ => rfl⟩
theorem aKH (F : FD K inv) (c : R) : dg (qP c : Pol K) 3 :=
 sO (iH F (aPH F) (iH F (aPH F) (aPH F))) fun i hi => by match i,hi with | i + 1,_ => rfl
theorem MB (F : FD K inv) {c k : R} {h : Pol K} (e : aV.mul (aV.sub (pX : Pol K) (kH c)) h = kH k) : k = K.zero:=by
 by_cases h0 : h = aV.zero
 ·rw [h0,aV.mul_zero] at e;exact (congrArg (fun p : Pol K => p.1 0) e).symm
 ·obtain ⟨n,hn⟩:=GZ h h0;have:=iH F (GY F c) hn;rw [e] at this;exact absurd (by rw [Nat.add_comm]; rfl) this.1
end
section
variable {A : Type} {K : CR A}
theorem aDp {M N L1 R1 c1 L2 R2 c2 L3 R3 c3 L4 R4 c4 : A} (h1 : L1 = R1) (h2 : L2 = R2) (h3 : L3 = R3) (h4 : L4 = R4) (e : K.add M (K.neg N) = K.add (K.add (K.add (K.mul c1 (K.add L1 (K.neg R1))) (K.mul c2 (K.add L2 (K.neg R2)))) (K.mul c3 (K.add L3 (K.neg R3)))) (K.mul c4 (K.add L4 (K.neg R4)))) : M = N:=by
 apply mK (K:=K);rw [e,fP h1,fP h2,fP h3,fP h4,K.mul_zero,K.mul_zero,K.mul_zero,K.mul_zero,K.add_zero,K.add_zero,K.add_zero]
def op (K : CR A) (X Y x y : A) (S : A → Prop) : A → Prop:=fun z => ∃ s t,S s ∧ S t ∧ z = K.add (K.mul (K.sub X x) s) (K.mul (K.sub Y y) t)
structure Idl (K : CR A) (S : A → Prop) : Prop where
 add : ∀ a b,S a → S b → S (K.add a b)
 mul : ∀ a c,S a → S (K.mul c a)
theorem Idl.neg {S : A → Prop} (h : Idl K S) {a : A} (ha : S a) : S (K.neg a):=by
 have:=h.mul a (K.neg K.one) ha
 rwa [K.neg_mul,K.one_mul] at this
theorem Idl.sub {S : A → Prop} (h : Idl K S) {a b : A} (ha : S a) (hb : S b) : S (K.sub a b):=h.add _ _ ha (h.neg hb)
def Eqv (K : CR A) (S T : A → Prop) : Prop:=∃ a b,a ≠ K.zero ∧ b ≠ K.zero ∧ (∀ s,S s → ∃ t,T t ∧ K.mul a s = K.mul b t) ∧ (∀ t,T t → ∃ s,S s ∧ K.mul a s = K.mul b t)
def Dom (K : CR A) : Prop:=K.one ≠ K.zero ∧ ∀ a b,a ≠ K.zero → b ≠ K.zero → K.mul a b ≠ K.zero
theorem Eqv.refl (D : Dom K) (S : A → Prop) : Eqv K S S:=⟨K.one,K.one,D.1,D.1,fun s h => ⟨s,h,rfl⟩,fun s h => ⟨s,h,rfl⟩⟩
theorem Eqv.symm {S T : A → Prop} (h : Eqv K S T) : Eqv K T S:=by
 obtain ⟨a,b,ha,hb,h1,h2⟩:=h;exact ⟨b,a,hb,ha,fun t ht => by obtain ⟨s,hs,e⟩:=h2 t ht; exact ⟨s,hs,e.symm⟩,fun s hs => by obtain ⟨t,ht,e⟩:=h1 s hs; exact ⟨t,ht,e.symm⟩⟩
theorem Eqv.trans (D : Dom K) {S T U : A → Prop} (h : Eqv K S T) (g : Eqv K T U) : Eqv K S U:=by
 obtain ⟨a,b,ha,hb,h1,h2⟩:=h;obtain ⟨c,d,hc,hd,g1,g2⟩:=g;have key : ∀ s t u,K.mul a s = K.mul b t → K.mul c t = K.mul d u → K.mul (K.mul c a) s = K.mul (K.mul b d) u:=fun s t u e f => by
  rw [K.mul_assoc,e,K.mul_left_comm,f,K.mul_assoc]
 refine ⟨K.mul c a,K.mul b d,D.2 _ _ hc ha,D.2 _ _ hb hd,fun s hs => ?_,fun u hu => ?_⟩
 ·obtain ⟨t,ht,e⟩:=h1 s hs;obtain ⟨u,hu,f⟩:=g1 t ht;exact ⟨u,hu,key s t u e f⟩
 ·obtain ⟨t,ht,f⟩:=g2 u hu;obtain ⟨s,hs,e⟩:=h2 t ht;exact ⟨s,hs,key s t u e f⟩
variable {X Y : A}
theorem xE {x y al be s s2 t t2 : A} (e : K.mul al s = K.mul be t) (f : K.mul al s2 = K.mul be t2) : K.mul al (K.add (K.mul (K.sub X x) s) (K.mul (K.sub Y y) s2)) = K.mul be (K.add (K.mul (K.sub X x) t) (K.mul (K.sub Y y) t2)) :=
 jU (K:=K) (c1:=(K.sub X x)) (c2:=(K.sub Y y)) e f (aE K (aR K [al,X,x,s,Y,y,s2,be,t,t2]) (.add (.mul (.v 0) (.add (.mul (.add (.v 1) (.neg (.v 2))) (.v 3)) (.mul (.add (.v 4) (.neg (.v 5))) (.v 6)))) (.neg (.mul (.v 7) (.add (.mul (.add (.v 1) (.neg (.v 2))) (.v 8)) (.mul (.add (.v 4) (.neg (.v 5))) (.v 9)))))) (.add (.mul (.add (.v 1) (.neg (.v 2))) (.add (.mul (.v 0) (.v 3)) (.neg (.mul (.v 7) (.v 8))))) (.mul (.add (.v 4) (.neg (.v 5))) (.add (.mul (.v 0) (.v 6)) (.neg (.mul (.v 7) (.v 9)))))) (by kernel_rfl))
theorem Eqv.op {S T : A → Prop} (x y : A) (h : Eqv K S T) : Eqv K (op K X Y x y S) (op K X Y x y T):=by
 obtain ⟨a,b,ha,hb,h1,h2⟩:=h;refine ⟨a,b,ha,hb,?_,?_⟩
 ·rintro z ⟨s,s2,hs,hs2,rfl⟩
  obtain ⟨t,ht,e⟩:=h1 s hs;obtain ⟨t2,ht2,f⟩:=h1 s2 hs2;exact ⟨_,⟨t,t2,ht,ht2,rfl⟩,xE e f⟩
 ·rintro z ⟨t,t2,ht,ht2,rfl⟩
  obtain ⟨s,hs,e⟩:=h2 t ht;obtain ⟨s2,hs2,f⟩:=h2 t2 ht2;exact ⟨_,⟨s,s2,hs,hs2,rfl⟩,xE e f⟩
theorem XN {S : A → Prop} (x y x' y' : A) {z : A} (h : op K X Y x y (op K X Y x' y' S) z) : op K X Y x' y' (op K X Y x y S) z:=by
 obtain ⟨_,_,⟨a,bb,ha,hb,rfl⟩,⟨c,d,hc,hd,rfl⟩,rfl⟩:=h;exact ⟨_,_,⟨a,c,ha,hc,rfl⟩,⟨bb,d,hb,hd,rfl⟩,aE K (aR K [X,x,x',a,Y,y',bb,y,c,d]) (.add (.mul (.add (.v 0) (.neg (.v 1))) (.add (.mul (.add (.v 0) (.neg (.v 2))) (.v 3)) (.mul (.add (.v 4) (.neg (.v 5))) (.v 6)))) (.mul (.add (.v 4) (.neg (.v 7))) (.add (.mul (.add (.v 0) (.neg (.v 2))) (.v 8)) (.mul (.add (.v 4) (.neg (.v 5))) (.v 9))))) (.add (.mul (.add (.v 0) (.neg (.v 2))) (.add (.mul (.add (.v 0) (.neg (.v 1))) (.v 3)) (.mul (.add (.v 4) (.neg (.v 7))) (.v 8)))) (.mul (.add (.v 4) (.neg (.v 5))) (.add (.mul (.add (.v 0) (.neg (.v 1))) (.v 6)) (.mul (.add (.v 4) (.neg (.v 7))) (.v 9))))) (by kernel_rfl)⟩
theorem aGZ {S : A → Prop} (x y x' y' : A) : op K X Y x y (op K X Y x' y' S) = op K X Y x' y' (op K X Y x y S) :=
 funext fun z => propext ⟨XN x y x' y',XN x' y' x y⟩
theorem aAz {S : A → Prop} (h : Idl K S) (x y : A) : Idl K (op K X Y x y S) where
 add:=by
  rintro _ _ ⟨a,b,ha,hb,rfl⟩ ⟨c,d,hc,hd,rfl⟩
  exact ⟨_,_,h.add a c ha hc,h.add b d hb hd,aE K (aR K [X,x,a,Y,y,b,c,d]) (.add (.add (.mul (.add (.v 0) (.neg (.v 1))) (.v 2)) (.mul (.add (.v 3) (.neg (.v 4))) (.v 5))) (.add (.mul (.add (.v 0) (.neg (.v 1))) (.v 6)) (.mul (.add (.v 3) (.neg (.v 4))) (.v 7)))) (.add (.mul (.add (.v 0) (.neg (.v 1))) (.add (.v 2) (.v 6))) (.mul (.add (.v 3) (.neg (.v 4))) (.add (.v 5) (.v 7)))) (by kernel_rfl)⟩
 mul:=by
  rintro _ c ⟨a,b,ha,hb,rfl⟩
  exact ⟨_,_,h.mul a c ha,h.mul b c hb,aE K (aR K [c,X,x,a,Y,y,b]) (.mul (.v 0) (.add (.mul (.add (.v 1) (.neg (.v 2))) (.v 3)) (.mul (.add (.v 4) (.neg (.v 5))) (.v 6)))) (.add (.mul (.add (.v 1) (.neg (.v 2))) (.mul (.v 0) (.v 3))) (.mul (.add (.v 4) (.neg (.v 5))) (.mul (.v 0) (.v 6)))) (by kernel_rfl)⟩
theorem aNz {b x y k : A} (hY : K.mul Y Y = K.add (K.mul X (K.mul X X)) b) (hy : K.mul y y = K.add (K.mul x (K.mul x x)) b) (hk : K.mul k (K.add y y) = K.one) (D : Dom K) (hX : K.sub X x ≠ K.zero) {S : A → Prop} (h : Idl K S) : Eqv K (op K X Y x y (op K X Y x (K.neg y) S)) S:=by
 refine ⟨K.one,K.sub X x,D.1,hX,?_,?_⟩
 ·rintro _ ⟨_,_,⟨a,bb,ha,hb,rfl⟩,⟨c,d,hc,hd,rfl⟩,rfl⟩
  refine ⟨(K.add (K.add (K.add (K.mul (K.sub X x) a) (K.mul (K.sub Y (K.neg y)) bb)) (K.mul (K.sub Y y) c)) (K.mul (K.add (K.add (K.mul X X) (K.mul x X)) (K.mul x x)) d)),h.add _ _ (h.add _ _ (h.add _ _ (h.mul _ _ ha) (h.mul _ _ hb)) (h.mul _ _ hc)) (h.mul _ _ hd),?_⟩;rw [K.one_mul];exact jU (K:=K) (c1:=d) (c2:=(K.neg d)) hY hy (aE K (aR K [X,x,a,Y,y,bb,c,d,b]) (.add (.add (.mul (.add (.v 0) (.neg (.v 1))) (.add (.mul (.add (.v 0) (.neg (.v 1))) (.v 2)) (.mul (.add (.v 3) (.neg (.neg (.v 4)))) (.v 5)))) (.mul (.add (.v 3) (.neg (.v 4))) (.add (.mul (.add (.v 0) (.neg (.v 1))) (.v 6)) (.mul (.add (.v 3) (.neg (.neg (.v 4)))) (.v 7))))) (.neg (.mul (.add (.v 0) (.neg (.v 1))) (.add (.add (.add (.mul (.add (.v 0) (.neg (.v 1))) (.v 2)) (.mul (.add (.v 3) (.neg (.neg (.v 4)))) (.v 5))) (.mul (.add (.v 3) (.neg (.v 4))) (.v 6))) (.mul (.add (.add (.mul (.v 0) (.v 0)) (.mul (.v 1) (.v 0))) (.mul (.v 1) (.v 1))) (.v 7)))))) (.add (.mul (.v 7) (.add (.mul (.v 3) (.v 3)) (.neg (.add (.mul (.v 0) (.mul (.v 0) (.v 0))) (.v 8))))) (.mul (.neg (.v 7)) (.add (.mul (.v 4) (.v 4)) (.neg (.add (.mul (.v 1) (.mul (.v 1) (.v 1))) (.v 8)))))) (by kernel_rfl))
 ·intro t ht;refine ⟨_,⟨_,_,⟨_,_,h.mul t K.zero ht,h.mul t k ht,rfl⟩,⟨_,_,h.mul t (K.neg k) ht,h.mul t K.zero ht,rfl⟩,rfl⟩,?_⟩;rw [K.one_mul];exact gQ (K:=K) (c1:=(K.mul (K.sub X x) t)) hk (aE K (aR K [X,x,t,Y,y,k]) (.add (.add (.mul (.add (.v 0) (.neg (.v 1))) (.add (.mul (.add (.v 0) (.neg (.v 1))) (.mul .zero (.v 2))) (.mul (.add (.v 3) (.neg (.neg (.v 4)))) (.mul (.v 5) (.v 2))))) (.mul (.add (.v 3) (.neg (.v 4))) (.add (.mul (.add (.v 0) (.neg (.v 1))) (.mul (.neg (.v 5)) (.v 2))) (.mul (.add (.v 3) (.neg (.neg (.v 4)))) (.mul .zero (.v 2)))))) (.neg (.mul (.add (.v 0) (.neg (.v 1))) (.v 2)))) (.mul (.mul (.add (.v 0) (.neg (.v 1))) (.v 2)) (.add (.mul (.v 5) (.add (.v 4) (.v 4))) (.neg .one))) (by kernel_rfl))
theorem MA {b x1 y1 x2 l : A} (hY : K.mul Y Y = K.add (K.mul X (K.mul X X)) b) (H2 : (K.mul l (K.add y1 (K.add y1 (K.mul l (K.sub x2 x1))))) = (K.add (K.add (K.mul x1 x1) (K.mul x1 x2)) (K.mul x2 x2))) (H3 : (K.mul y1 y1) = (K.add (K.mul x1 (K.mul x1 x1)) b)) : (K.mul (K.sub X x1) (K.mul (K.sub X x2) (K.sub X (K.sub (K.sub (K.mul l l) x1) x2)))) = (K.mul (K.sub (K.sub Y y1) (K.mul l (K.sub X x1))) (K.add (K.sub Y (K.sub (K.mul l (K.sub x1 (K.sub (K.sub (K.mul l l) x1) x2))) y1)) (K.mul l (K.sub X (K.sub (K.sub (K.mul l l) x1) x2))))) :=
 ZV (K:=K) (c1:=(K.neg K.one)) (c2:=K.one) (c3:=(K.sub X x1)) hY H3 H2 (aE K (aR K [X,x1,x2,l,Y,y1,b]) (.add (.mul (.add (.v 0) (.neg (.v 1))) (.mul (.add (.v 0) (.neg (.v 2))) (.add (.v 0) (.neg (.add (.add (.mul (.v 3) (.v 3)) (.neg (.v 1))) (.neg (.v 2))))))) (.neg (.mul (.add (.add (.v 4) (.neg (.v 5))) (.neg (.mul (.v 3) (.add (.v 0) (.neg (.v 1)))))) (.add (.add (.v 4) (.neg (.add (.mul (.v 3) (.add (.v 1) (.neg (.add (.add (.mul (.v 3) (.v 3)) (.neg (.v 1))) (.neg (.v 2)))))) (.neg (.v 5))))) (.mul (.v 3) (.add (.v 0) (.neg (.add (.add (.mul (.v 3) (.v 3)) (.neg (.v 1))) (.neg (.v 2)))))))))) (.add (.add (.mul (.neg .one) (.add (.mul (.v 4) (.v 4)) (.neg (.add (.mul (.v 0) (.mul (.v 0) (.v 0))) (.v 6))))) (.mul .one (.add (.mul (.v 5) (.v 5)) (.neg (.add (.mul (.v 1) (.mul (.v 1) (.v 1))) (.v 6)))))) (.mul (.add (.v 0) (.neg (.v 1))) (.add (.mul (.v 3) (.add (.v 5) (.add (.v 5) (.mul (.v 3) (.add (.v 2) (.neg (.v 1))))))) (.neg (.add (.add (.mul (.v 1) (.v 1)) (.mul (.v 1) (.v 2))) (.mul (.v 2) (.v 2))))))) (by kernel_rfl))
theorem aNy {b x1 y1 x2 l : A} (hY : K.mul Y Y = K.add (K.mul X (K.mul X X)) b) (H2 : (K.mul l (K.add y1 (K.add y1 (K.mul l (K.sub x2 x1))))) = (K.add (K.add (K.mul x1 x1) (K.mul x1 x2)) (K.mul x2 x2))) (H3 : (K.mul y1 y1) = (K.add (K.mul x1 (K.mul x1 x1)) b)) (hk : (∃ k,K.mul k (K.add y1 (K.add y1 (K.mul l (K.sub x2 x1)))) = K.one) ∨ (∃ k,K.mul k (K.sub x2 x1) = K.one)) (hX : K.sub X (K.sub (K.sub (K.mul l l) x1) x2) ≠ K.zero) (hl : (K.sub (K.sub Y y1) (K.mul l (K.sub X x1))) ≠ K.zero) {S : A → Prop} (h : Idl K S) : Eqv K (op K X Y x1 y1 (op K X Y x2 (K.add y1 (K.mul l (K.sub x2 x1))) S)) (op K X Y (K.sub (K.sub (K.mul l l) x1) x2) (K.sub (K.mul l (K.sub x1 (K.sub (K.sub (K.mul l l) x1) x2))) y1) S):=by
 have HC:=MA (X:=X) (Y:=Y) hY H2 H3;refine ⟨K.sub X (K.sub (K.sub (K.mul l l) x1) x2),(K.sub (K.sub Y y1) (K.mul l (K.sub X x1))),hX,hl,?_,?_⟩
 ·rintro _ ⟨_,_,⟨a,bb,ha,hb,rfl⟩,⟨c,d,hc,hd,rfl⟩,rfl⟩
  exact ⟨_,⟨(K.add (K.add (K.add (K.mul l a) (K.mul (K.add (K.sub X x1) (K.mul l l)) bb)) (K.mul (K.add (K.sub X x2) (K.mul l l)) c)) (K.mul (K.add (K.add (K.add (K.sub (K.sub Y y1) (K.mul l (K.sub X x1))) (K.mul l (K.sub X x1))) (K.mul l (K.sub X x2))) (K.mul l (K.mul l l))) d)),(K.add (K.add (K.add a (K.mul l bb)) (K.mul l c)) (K.mul (K.mul l l) d)),h.add _ _ (h.add _ _ (h.add _ _ (h.mul _ _ ha) (h.mul _ _ hb)) (h.mul _ _ hc)) (h.mul _ _ hd),h.add _ _ (h.add _ _ (h.add _ _ ha (h.mul _ _ hb)) (h.mul _ _ hc)) (h.mul _ _ hd),rfl⟩,gQ (K:=K) (c1:=(K.add (K.add (K.add a (K.mul l bb)) (K.mul l c)) (K.mul (K.mul l l) d))) HC (aE K (aR K [X,l,x1,x2,a,Y,y1,bb,c,d]) (.add (.mul (.add (.v 0) (.neg (.add (.add (.mul (.v 1) (.v 1)) (.neg (.v 2))) (.neg (.v 3))))) (.add (.mul (.add (.v 0) (.neg (.v 2))) (.add (.mul (.add (.v 0) (.neg (.v 3))) (.v 4)) (.mul (.add (.v 5) (.neg (.add (.v 6) (.mul (.v 1) (.add (.v 3) (.neg (.v 2))))))) (.v 7)))) (.mul (.add (.v 5) (.neg (.v 6))) (.add (.mul (.add (.v 0) (.neg (.v 3))) (.v 8)) (.mul (.add (.v 5) (.neg (.add (.v 6) (.mul (.v 1) (.add (.v 3) (.neg (.v 2))))))) (.v 9)))))) (.neg (.mul (.add (.add (.v 5) (.neg (.v 6))) (.neg (.mul (.v 1) (.add (.v 0) (.neg (.v 2)))))) (.add (.mul (.add (.v 0) (.neg (.add (.add (.mul (.v 1) (.v 1)) (.neg (.v 2))) (.neg (.v 3))))) (.add (.add (.add (.mul (.v 1) (.v 4)) (.mul (.add (.add (.v 0) (.neg (.v 2))) (.mul (.v 1) (.v 1))) (.v 7))) (.mul (.add (.add (.v 0) (.neg (.v 3))) (.mul (.v 1) (.v 1))) (.v 8))) (.mul (.add (.add (.add (.add (.add (.v 5) (.neg (.v 6))) (.neg (.mul (.v 1) (.add (.v 0) (.neg (.v 2)))))) (.mul (.v 1) (.add (.v 0) (.neg (.v 2))))) (.mul (.v 1) (.add (.v 0) (.neg (.v 3))))) (.mul (.v 1) (.mul (.v 1) (.v 1)))) (.v 9)))) (.mul (.add (.v 5) (.neg (.add (.mul (.v 1) (.add (.v 2) (.neg (.add (.add (.mul (.v 1) (.v 1)) (.neg (.v 2))) (.neg (.v 3)))))) (.neg (.v 6))))) (.add (.add (.add (.v 4) (.mul (.v 1) (.v 7))) (.mul (.v 1) (.v 8))) (.mul (.mul (.v 1) (.v 1)) (.v 9)))))))) (.mul (.add (.add (.add (.v 4) (.mul (.v 1) (.v 7))) (.mul (.v 1) (.v 8))) (.mul (.mul (.v 1) (.v 1)) (.v 9))) (.add (.mul (.add (.v 0) (.neg (.v 2))) (.mul (.add (.v 0) (.neg (.v 3))) (.add (.v 0) (.neg (.add (.add (.mul (.v 1) (.v 1)) (.neg (.v 2))) (.neg (.v 3))))))) (.neg (.mul (.add (.add (.v 5) (.neg (.v 6))) (.neg (.mul (.v 1) (.add (.v 0) (.neg (.v 2)))))) (.add (.add (.v 5) (.neg (.add (.mul (.v 1) (.add (.v 2) (.neg (.add (.add (.mul (.v 1) (.v 1)) (.neg (.v 2))) (.neg (.v 3)))))) (.neg (.v 6))))) (.mul (.v 1) (.add (.v 0) (.neg (.add (.add (.mul (.v 1) (.v 1)) (.neg (.v 2))) (.neg (.v 3))))))))))) (by kernel_rfl))⟩
 ·rintro _ ⟨u,w,hu,hw,rfl⟩
  have hg : S (K.sub u (K.mul l w)):=h.sub hu (h.mul _ _ hw);have e0 : K.mul (K.sub (K.sub Y y1) (K.mul l (K.sub X x1))) (K.add (K.mul (K.sub X (K.sub (K.sub (K.mul l l) x1) x2)) u) (K.mul (K.sub Y (K.sub (K.mul l (K.sub x1 (K.sub (K.sub (K.mul l l) x1) x2))) y1)) w)) = K.mul (K.sub X (K.sub (K.sub (K.mul l l) x1) x2)) (K.add (K.mul (K.sub (K.sub Y y1) (K.mul l (K.sub X x1))) (K.sub u (K.mul l w))) (K.mul (K.sub X x1) (K.mul (K.sub X x2) w))) :=
   gQ (K:=K) (c1:=(K.neg w)) HC (aE K (aR K [Y,y1,l,X,x1,x2,u,w]) (.add (.mul (.add (.add (.v 0) (.neg (.v 1))) (.neg (.mul (.v 2) (.add (.v 3) (.neg (.v 4)))))) (.add (.mul (.add (.v 3) (.neg (.add (.add (.mul (.v 2) (.v 2)) (.neg (.v 4))) (.neg (.v 5))))) (.v 6)) (.mul (.add (.v 0) (.neg (.add (.mul (.v 2) (.add (.v 4) (.neg (.add (.add (.mul (.v 2) (.v 2)) (.neg (.v 4))) (.neg (.v 5)))))) (.neg (.v 1))))) (.v 7)))) (.neg (.mul (.add (.v 3) (.neg (.add (.add (.mul (.v 2) (.v 2)) (.neg (.v 4))) (.neg (.v 5))))) (.add (.mul (.add (.add (.v 0) (.neg (.v 1))) (.neg (.mul (.v 2) (.add (.v 3) (.neg (.v 4)))))) (.add (.v 6) (.neg (.mul (.v 2) (.v 7))))) (.mul (.add (.v 3) (.neg (.v 4))) (.mul (.add (.v 3) (.neg (.v 5))) (.v 7))))))) (.mul (.neg (.v 7)) (.add (.mul (.add (.v 3) (.neg (.v 4))) (.mul (.add (.v 3) (.neg (.v 5))) (.add (.v 3) (.neg (.add (.add (.mul (.v 2) (.v 2)) (.neg (.v 4))) (.neg (.v 5))))))) (.neg (.mul (.add (.add (.v 0) (.neg (.v 1))) (.neg (.mul (.v 2) (.add (.v 3) (.neg (.v 4)))))) (.add (.add (.v 0) (.neg (.add (.mul (.v 2) (.add (.v 4) (.neg (.add (.add (.mul (.v 2) (.v 2)) (.neg (.v 4))) (.neg (.v 5)))))) (.neg (.v 1))))) (.mul (.v 2) (.add (.v 3) (.neg (.add (.add (.mul (.v 2) (.v 2)) (.neg (.v 4))) (.neg (.v 5))))))))))) (by kernel_rfl))
  generalize hge : (K.sub u (K.mul l w)) = g at hg e0;rw [e0]
  rcases hk with ⟨k,hk⟩ | ⟨k,hk⟩
  ·refine ⟨_,⟨_,_,⟨_,_,h.add _ _ (h.mul g (K.mul k (K.add (K.add X x1) x2)) hg) hw,h.mul g K.zero hg,rfl⟩,⟨_,_,h.mul g K.zero hg,h.mul g (K.neg k) hg,rfl⟩,rfl⟩,congrArg (K.mul _) ?_⟩;exact aDp (K:=K) (c1:=(K.mul (K.sub (K.sub Y y1) (K.mul l (K.sub X x1))) g)) (c2:=(K.neg (K.mul k g))) (c3:=(K.mul k g)) (c4:=(K.mul (K.mul k g) (K.sub X x1))) hk hY H3 H2 (aE K (aR K [X,x1,x2,k,g,w,Y,y1,l,b]) (.add (.add (.mul (.add (.v 0) (.neg (.v 1))) (.add (.mul (.add (.v 0) (.neg (.v 2))) (.add (.mul (.mul (.v 3) (.add (.add (.v 0) (.v 1)) (.v 2))) (.v 4)) (.v 5))) (.mul (.add (.v 6) (.neg (.add (.v 7) (.mul (.v 8) (.add (.v 2) (.neg (.v 1))))))) (.mul .zero (.v 4))))) (.mul (.add (.v 6) (.neg (.v 7))) (.add (.mul (.add (.v 0) (.neg (.v 2))) (.mul .zero (.v 4))) (.mul (.add (.v 6) (.neg (.add (.v 7) (.mul (.v 8) (.add (.v 2) (.neg (.v 1))))))) (.mul (.neg (.v 3)) (.v 4)))))) (.neg (.add (.mul (.add (.add (.v 6) (.neg (.v 7))) (.neg (.mul (.v 8) (.add (.v 0) (.neg (.v 1)))))) (.v 4)) (.mul (.add (.v 0) (.neg (.v 1))) (.mul (.add (.v 0) (.neg (.v 2))) (.v 5)))))) (.add (.add (.add (.mul (.mul (.add (.add (.v 6) (.neg (.v 7))) (.neg (.mul (.v 8) (.add (.v 0) (.neg (.v 1)))))) (.v 4)) (.add (.mul (.v 3) (.add (.v 7) (.add (.v 7) (.mul (.v 8) (.add (.v 2) (.neg (.v 1))))))) (.neg .one))) (.mul (.neg (.mul (.v 3) (.v 4))) (.add (.mul (.v 6) (.v 6)) (.neg (.add (.mul (.v 0) (.mul (.v 0) (.v 0))) (.v 9)))))) (.mul (.mul (.v 3) (.v 4)) (.add (.mul (.v 7) (.v 7)) (.neg (.add (.mul (.v 1) (.mul (.v 1) (.v 1))) (.v 9)))))) (.mul (.mul (.mul (.v 3) (.v 4)) (.add (.v 0) (.neg (.v 1)))) (.add (.mul (.v 8) (.add (.v 7) (.add (.v 7) (.mul (.v 8) (.add (.v 2) (.neg (.v 1))))))) (.neg (.add (.add (.mul (.v 1) (.v 1)) (.mul (.v 1) (.v 2))) (.mul (.v 2) (.v 2))))))) (by kernel_rfl))
  ·refine ⟨_,⟨_,_,⟨_,_,hw,h.mul g k hg,rfl⟩,⟨_,_,h.mul g (K.neg k) hg,h.mul g K.zero hg,rfl⟩,rfl⟩,congrArg (K.mul _) ?_⟩;exact gQ (K:=K) (c1:=(K.mul (K.sub (K.sub Y y1) (K.mul l (K.sub X x1))) g)) hk (aE K (aR K [X,x1,x2,w,Y,y1,l,k,g]) (.add (.add (.mul (.add (.v 0) (.neg (.v 1))) (.add (.mul (.add (.v 0) (.neg (.v 2))) (.v 3)) (.mul (.add (.v 4) (.neg (.add (.v 5) (.mul (.v 6) (.add (.v 2) (.neg (.v 1))))))) (.mul (.v 7) (.v 8))))) (.mul (.add (.v 4) (.neg (.v 5))) (.add (.mul (.add (.v 0) (.neg (.v 2))) (.mul (.neg (.v 7)) (.v 8))) (.mul (.add (.v 4) (.neg (.add (.v 5) (.mul (.v 6) (.add (.v 2) (.neg (.v 1))))))) (.mul .zero (.v 8)))))) (.neg (.add (.mul (.add (.add (.v 4) (.neg (.v 5))) (.neg (.mul (.v 6) (.add (.v 0) (.neg (.v 1)))))) (.v 8)) (.mul (.add (.v 0) (.neg (.v 1))) (.mul (.add (.v 0) (.neg (.v 2))) (.v 3)))))) (.mul (.mul (.add (.add (.v 4) (.neg (.v 5))) (.neg (.mul (.v 6) (.add (.v 0) (.neg (.v 1)))))) (.v 8)) (.add (.mul (.v 7) (.add (.v 2) (.neg (.v 1)))) (.neg .one))) (by kernel_rfl))
end
open Classical
section
variable {R : Type} {K : CR R} {inv : R → R}
def bY (K : CR R) (b : R) : CR (Pol K × Pol K):=(aV (K:=K)).sq (qP b)
def cX : Pol K × Pol K:=(pX,aV.zero)
def cY : Pol K × Pol K:=(aV.zero,aV.one)
def cc (k : R) : Pol K × Pol K:=(kH k,aV.zero)
variable (b : R)
theorem iJ (x y : R) : (cc (K.add x y) : Pol K × Pol K) = (bY K b).add (cc x) (cc y):=Prod.ext (Jh x y) (aV.zero_add _).symm
theorem Gh (x : R) : (cc (K.neg x) : Pol K × Pol K) = (bY K b).neg (cc x):=Prod.ext (aGU x) (bK aV).symm
theorem oN (x y : R) : (cc (K.sub x y) : Pol K × Pol K) = (bY K b).sub (cc x) (cc y):=by
 show cc (K.add _ _) = (bY K b).add _ _;rw [iJ b,Gh b]
theorem fV (x y : R) : (cc (K.mul x y) : Pol K × Pol K) = (bY K b).mul (cc x) (cc y):=by
 refine Prod.ext ?_ ?_
 ·show kH (K.mul x y) = aV.add (aV.mul (kH x) (kH y)) (aV.mul (qP b) (aV.mul aV.zero aV.zero));rw [aV.mul_zero,aV.mul_zero,aV.add_zero,CO]
 ·show aV.zero = aV.add (aV.mul (kH x) aV.zero) (aV.mul aV.zero (kH y));rw [aV.mul_zero,aV.zero_mul,aV.add_zero]
theorem RO : (cc K.one : Pol K × Pol K) = (bY K b).one:=rfl
theorem aIR : (bY K b).mul cY cY = (bY K b).add ((bY K b).mul cX ((bY K b).mul cX cX)) (cc b):=by
 refine Prod.ext ?_ ?_
 ·show aV.add (aV.mul aV.zero aV.zero) (aV.mul (qP b) (aV.mul aV.one aV.one)) = aV.add (aV.add (aV.mul pX (aV.add (aV.mul pX pX) (aV.mul (qP b) (aV.mul aV.zero aV.zero)))) (aV.mul (qP b) (aV.mul aV.zero (aV.add (aV.mul pX aV.zero) (aV.mul aV.zero pX))))) (kH b);simp only [aV.mul_zero,aV.zero_mul,aV.add_zero,aV.zero_add,aV.mul_one];rfl
 ·show aV.add (aV.mul aV.zero aV.one) (aV.mul aV.one aV.zero) = aV.add (aV.add (aV.mul pX (aV.add (aV.mul pX aV.zero) (aV.mul aV.zero pX))) (aV.mul aV.zero (aV.add (aV.mul pX pX) (aV.mul (qP b) (aV.mul aV.zero aV.zero))))) aV.zero;simp only [aV.mul_zero,aV.zero_mul,aV.add_zero,aV.zero_add,aV.mul_one]
def nrm (f : Pol K × Pol K) : Pol K:=aV.sub (aV.mul f.1 f.1) (aV.mul (qP b) (aV.mul f.2 f.2))
theorem PQ (f g : Pol K × Pol K) : nrm b ((bY K b).mul f g) = aV.mul (nrm b f) (nrm b g) :=
 aE aV (aR aV [f.1,g.1,qP b,f.2,g.2]) (.add (.mul (.add (.mul (.v 0) (.v 1)) (.mul (.v 2) (.mul (.v 3) (.v 4)))) (.add (.mul (.v 0) (.v 1)) (.mul (.v 2) (.mul (.v 3) (.v 4))))) (.neg (.mul (.v 2) (.mul (.add (.mul (.v 0) (.v 4)) (.mul (.v 3) (.v 1))) (.add (.mul (.v 0) (.v 4)) (.mul (.v 3) (.v 1))))))) (.mul (.add (.mul (.v 0) (.v 0)) (.neg (.mul (.v 2) (.mul (.v 3) (.v 3))))) (.add (.mul (.v 1) (.v 1)) (.neg (.mul (.v 2) (.mul (.v 4) (.v 4)))))) (by kernel_rfl)
theorem PR (F : FD K inv) (f : Pol K × Pol K) (h : f ≠ (bY K b).zero) : ∃ d,dg (nrm b f) d ∧ d ≠ 1:=by
 have hq : dg (qP b : Pol K) 3:=aKH F b
 by_cases h2 : f.2 = aV.zero
 ·have h1 : f.1 ≠ aV.zero:=fun e => h (Prod.ext e h2)
  obtain ⟨n,hn⟩:=GZ _ h1;refine ⟨n + n,?_,by omega⟩;unfold nrm;rw [h2,aV.mul_zero,aV.mul_zero];show dg (aV.add _ (aV.neg aV.zero)) _;rw [bK,aV.add_zero];exact iH F hn hn
 ·obtain ⟨m,hm⟩:=GZ _ h2;have hr:=iH F hq (iH F hm hm)
  by_cases h1 : f.1 = aV.zero
  ·refine ⟨3 + (m + m),?_,by omega⟩;unfold nrm;rw [h1,aV.mul_zero];show dg (aV.add _ _) _;rw [aV.zero_add];exact RA hr
  ·obtain ⟨n,hn⟩:=GZ _ h1;have hl:=iH F hn hn;have hr':=RA hr
   rcases Nat.lt_or_ge (n + n) (3 + (m + m)) with q | q
   ·refine ⟨3 + (m + m),?_,by omega⟩;show dg (aV.add _ _) _;rw [aV.add_comm];exact sO hr' fun i hi => hl.2 i (by omega)
   ·refine ⟨n + n,?_,by omega⟩;exact sO hl fun i hi => hr'.2 i (by omega)
theorem jK (F : FD K inv) : Dom (bY K b):=by
 refine ⟨fun e => F.ne (congrArg (fun z : Pol K × Pol K => z.1.1 0) e),fun f g hf hg e => ?_⟩;obtain ⟨n,hn,_⟩:=PR b F f hf;obtain ⟨m,hm,_⟩:=PR b F g hg;have h:=aDg (iH F hn hm);rw [← PQ,e] at h;refine h ?_;show aV.sub (aV.mul aV.zero aV.zero) (aV.mul (qP b) (aV.mul aV.zero aV.zero)) = _;rw [aV.mul_zero,aV.mul_zero];exact aV.add_neg _
theorem nG {A : Type} {C : CR A} (D : Dom C) {a s t : A} (ha : a ≠ C.zero) (e : C.mul a s = C.mul a t) : s = t:=by
 apply mK (K:=C)
 by_cases h : C.add s (C.neg t) = C.zero
 ·exact h
 ·exact absurd (by rw [C.mul_add,C.mul_neg,e,C.add_neg]) (D.2 _ _ ha h)
def TJ {A : Type} : A → Prop:=fun _ => True
theorem kL {A : Type} (C : CR A) : Idl C TJ:=⟨fun _ _ _ _ => trivial,fun _ _ _ => trivial⟩
theorem ZU (f : Pol K × Pol K) : (bY K b).mul f (f.1,aV.neg f.2) = (nrm b f,aV.zero):=by
 refine Prod.ext ?_ ?_
 ·exact aE aV (aR aV [f.1,qP b,f.2]) (.add (.mul (.v 0) (.v 0)) (.mul (.v 1) (.mul (.v 2) (.neg (.v 2))))) (.add (.mul (.v 0) (.v 0)) (.neg (.mul (.v 1) (.mul (.v 2) (.v 2))))) (by kernel_rfl)
 ·exact aE aV (aR aV [f.1,f.2]) (.add (.mul (.v 0) (.neg (.v 1))) (.mul (.v 1) (.v 0))) .zero (by kernel_rfl)
theorem Ze {x y : R} (h : K.mul y y = K.add (K.mul x (K.mul x x)) b) : (qP b : Pol K) = aV.add (aV.mul (kH y) (kH y)) (aV.mul (aV.sub pX (kH x)) (aV.add (aV.mul pX pX) (aV.add (aV.mul (kH x) pX) (aV.mul (kH x) (kH x))))):=by
 have e : aV.mul (kH y) (kH y) = aV.add (aV.mul (kH x) (aV.mul (kH x) (kH x))) (kH b : Pol K):=by
  rw [← CO,← CO,← CO,← Jh,h]
 rw [e];exact aE aV (aR aV [pX,kH b,kH x]) (.add (.mul (.v 0) (.mul (.v 0) (.v 0))) (.v 1)) (.add (.add (.mul (.v 2) (.mul (.v 2) (.v 2))) (.v 1)) (.mul (.add (.v 0) (.neg (.v 2))) (.add (.mul (.v 0) (.v 0)) (.add (.mul (.v 2) (.v 0)) (.mul (.v 2) (.v 2)))))) (by kernel_rfl)
theorem aTe (F : FD K inv) {x y : R} (h : K.mul y y = K.add (K.mul x (K.mul x x)) b) : ¬ Eqv (bY K b) (op (bY K b) cX cY (cc x) (cc y) TJ) TJ:=by
 rintro ⟨a,e,ha,he,h1,h2⟩
 have D:=jK (K:=K) b F;obtain ⟨f,hf,e1⟩:=h2 (bY K b).one trivial;rw [(bY K b).mul_one] at e1;have hm : ∀ g,op (bY K b) cX cY (cc x) (cc y) TJ g → ∃ t,g = (bY K b).mul f t:=fun g hg => by
  obtain ⟨t,_,e2⟩:=h1 g hg;rw [← e1,(bY K b).mul_assoc] at e2;exact ⟨t,nG D ha e2⟩
 have sz : ∀ z : Pol K × Pol K,(bY K b).sub z (bY K b).zero = z:=fun z => by
  show (bY K b).add z ((bY K b).neg _) = z;rw [bK,(bY K b).add_zero]
 obtain ⟨t,ht⟩:=hm ((bY K b).sub cX (cc x)) ⟨(bY K b).one,(bY K b).zero,trivial,trivial,by rw [(bY K b).mul_one,(bY K b).mul_zero,(bY K b).add_zero]⟩;obtain ⟨t',ht'⟩:=hm ((bY K b).sub cY (cc y)) ⟨(bY K b).zero,(bY K b).one,trivial,trivial,by rw [(bY K b).mul_one,(bY K b).mul_zero,(bY K b).zero_add]⟩;have hX : (bY K b).sub cX (cc x) = (aV.sub pX (kH x),aV.zero):=Prod.ext rfl (by show aV.add aV.zero (aV.neg aV.zero) = _; rw [bK,aV.add_zero]);have hXn : (bY K b).sub cX (cc x) ≠ (bY K b).zero:=fun q => aDg (GY (K:=K) F x) (congrArg Prod.fst q)
 have hf0 : f ≠ (bY K b).zero:=fun q => hXn (by rw [ht,q,(bY K b).zero_mul])
 have ht0 : t ≠ (bY K b).zero:=fun q => hXn (by rw [ht,q,(bY K b).mul_zero])
 obtain ⟨n,hn,n1⟩:=PR b F f hf0;obtain ⟨m,hm',m1⟩:=PR b F t ht0;have hnm : n + m = 2:=by
  have e3:=iH F hn hm';rw [← PQ,← ht,hX] at e3;have e4 : nrm b (aV.sub pX (kH x),aV.zero) = aV.mul (aV.sub pX (kH x)) (aV.sub (pX : Pol K) (kH x)):=by
   show aV.add (aV.mul _ _) (aV.neg (aV.mul _ (aV.mul aV.zero aV.zero))) = _;rw [aV.mul_zero,aV.mul_zero,bK,aV.add_zero]
  rw [e4] at e3;exact aDf e3 (iH F (GY F x) (GY F x))
 have hc : ∀ p : Pol K,dg p 0 → p = kH (p.1 0):=fun p hp => Pol.ext fun i => by
  cases i with
  | zero => rfl
  | succ i => exact hp.2 _ (by omega)
 have h02 : n = 0 ∨ m = 0:=by omega
 rcases h02 with q0 | q0
 ·subst q0;obtain ⟨s,r,_,_,e5⟩:=(aAz (kL (bY K b)) (cc x) (cc y)).mul f (f.1,aV.neg f.2) hf;rw [(bY K b).mul_comm,ZU,hX] at e5;have c1 : nrm b f = aV.add (aV.add (aV.mul (aV.sub pX (kH x)) s.1) (aV.mul (qP b) (aV.mul aV.zero s.2))) (aV.add (aV.mul (aV.add aV.zero (aV.neg (kH y))) r.1) (aV.mul (qP b) (aV.mul (aV.add aV.one (aV.neg aV.zero)) r.2))):=congrArg Prod.fst e5;have c2 : aV.zero = aV.add (aV.add (aV.mul (aV.sub pX (kH x)) s.2) (aV.mul aV.zero s.1)) (aV.add (aV.mul (aV.add aV.zero (aV.neg (kH y))) r.2) (aV.mul (aV.add aV.one (aV.neg aV.zero)) r.1)):=congrArg Prod.snd e5;have hs:=Ze b h;refine hn.1 (MB F (c:=x) (h:=(aV.add s.1 (aV.add (aV.mul (aV.add (aV.mul pX pX) (aV.add (aV.mul (kH x) pX) (aV.mul (kH x) (kH x)))) r.2) (aV.mul (kH y) s.2)))) ?_);rw [← hc _ hn,c1];refine Eq.symm ?_;exact jU (K:=aV) (c1:=(kH y)) (c2:=r.2) c2 hs (aE aV (aR aV [pX,kH x,s.1,qP b,s.2,kH y,r.1,r.2]) (.add (.add (.add (.mul (.add (.v 0) (.neg (.v 1))) (.v 2)) (.mul (.v 3) (.mul .zero (.v 4)))) (.add (.mul (.add .zero (.neg (.v 5))) (.v 6)) (.mul (.v 3) (.mul (.add .one (.neg .zero)) (.v 7))))) (.neg (.mul (.add (.v 0) (.neg (.v 1))) (.add (.v 2) (.add (.mul (.add (.mul (.v 0) (.v 0)) (.add (.mul (.v 1) (.v 0)) (.mul (.v 1) (.v 1)))) (.v 7)) (.mul (.v 5) (.v 4))))))) (.add (.mul (.v 5) (.add .zero (.neg (.add (.add (.mul (.add (.v 0) (.neg (.v 1))) (.v 4)) (.mul .zero (.v 2))) (.add (.mul (.add .zero (.neg (.v 5))) (.v 7)) (.mul (.add .one (.neg .zero)) (.v 6))))))) (.mul (.v 7) (.add (.v 3) (.neg (.add (.mul (.v 5) (.v 5)) (.mul (.add (.v 0) (.neg (.v 1))) (.add (.mul (.v 0) (.v 0)) (.add (.mul (.v 1) (.v 0)) (.mul (.v 1) (.v 1)))))))))) (by kernel_rfl))
 ·subst q0;have e6 : (bY K b).mul ((bY K b).sub cX (cc x)) ((bY K b).mul t' (t.1,aV.neg t.2)) = (bY K b).mul ((bY K b).sub cY (cc y)) (nrm b t,aV.zero):=by
   rw [← ZU,ht,ht'];generalize ((t.1,aV.neg t.2) : Pol K × Pol K) = w;exact aE (bY K b) (aR (bY K b) [f,t,t',w]) (.mul (.mul (.v 0) (.v 1)) (.mul (.v 2) (.v 3))) (.mul (.mul (.v 0) (.v 2)) (.mul (.v 1) (.v 3))) (by kernel_rfl)
  rw [hX] at e6;generalize (bY K b).mul t' (t.1,aV.neg t.2) = w at e6;have c2 : aV.add (aV.mul (aV.sub pX (kH x)) w.2) (aV.mul aV.zero w.1) = aV.add (aV.mul (aV.add aV.zero (aV.neg (kH y))) aV.zero) (aV.mul (aV.add aV.one (aV.neg aV.zero)) (nrm b t)):=congrArg Prod.snd e6;rw [aV.zero_mul,aV.add_zero,aV.mul_zero,aV.zero_add,bK,aV.add_zero,aV.one_mul,hc _ hm'] at c2;exact hm'.1 (MB F c2)
end
structure EC {R : Type} (K : CR R) (inv : R → R) (b : R) : Prop where
 F : FD K inv
 two : K.add K.one K.one ≠ K.zero
 odd : ∀ x,K.add (K.mul x (K.mul x x)) b ≠ K.zero
section
variable {R : Type} (K : CR R) (inv : R → R) (b : R)
abbrev Pt (R : Type):=Option (R × R)
def On : Pt R → Prop
 | none => True
 | some p => K.mul p.2 p.2 = K.add (K.mul p.1 (K.mul p.1 p.1)) b
def KR : Pt R → Pt R
 | none => none
 | some p => some (p.1,K.neg p.2)
def dD (x1 y1 x2 y2 : R) : R :=
 if x1 = x2 then K.mul (K.add (K.add (K.mul x1 x1) (K.mul x1 x1)) (K.mul x1 x1)) (inv (K.add y1 y2)) else K.mul (K.sub y2 y1) (inv (K.sub x2 x1))
def sx (l x1 x2 : R) : R:=K.sub (K.sub (K.mul l l) x1) x2
def sy (l x1 y1 x2 : R) : R:=K.sub (K.mul l (K.sub x1 (sx K l x1 x2))) y1
def gZ : Pt R → Pt R → Pt R
 | none,q => q
 | some p,none => some p
 | some p,some q =>
  if p.1 = q.1 ∧ K.add p.2 q.2 = K.zero then none
  else some (sx K (dD K inv p.1 p.2 q.1 q.2) p.1 q.1,sy K (dD K inv p.1 p.2 q.1 q.2) p.1 p.2 q.1)
variable {K} {inv} {b}
theorem kG {p q : R × R} (h : p.1 = q.1 ∧ K.add p.2 q.2 = K.zero) : gZ K inv (some p) (some q) = none:=if_pos h
theorem jD {p q : R × R} (h : ¬ (p.1 = q.1 ∧ K.add p.2 q.2 = K.zero)) : gZ K inv (some p) (some q) = some (sx K (dD K inv p.1 p.2 q.1 q.2) p.1 q.1,sy K (dD K inv p.1 p.2 q.1 q.2) p.1 p.2 q.1):=if_neg h
theorem iL {x y : R} (h : K.sub x y = K.zero) : x = y:=mK h
theorem NX {x y : R} (h : x ≠ y) : K.sub x y ≠ K.zero:=fun e => h (iL e)
theorem EC.dbl_ne (E : EC K inv b) {y : R} (h : y ≠ K.zero) : K.add y y ≠ K.zero:=fun e => by
 refine E.F.mul_ne E.two h ?_;rw [K.add_mul,K.one_mul,e]
theorem EC.y_ne (E : EC K inv b) {x y : R} (h : K.mul y y = K.add (K.mul x (K.mul x x)) b) : y ≠ K.zero:=fun e => by
 rw [e,K.mul_zero] at h;exact E.odd x h.symm
structure Slope (K : CR R) (x1 y1 x2 y2 l : R) : Prop where
 h1 : y2 = K.add y1 (K.mul l (K.sub x2 x1))
 h2 : K.mul l (K.add y1 y2) = K.add (K.add (K.mul x1 x1) (K.mul x1 x2)) (K.mul x2 x2)
 hk : (∃ k,K.mul k (K.add y1 y2) = K.one) ∨ (∃ k,K.mul k (K.sub x2 x1) = K.one)
theorem wK (E : EC K inv b) {x1 y1 x2 y2 : R} (hp : K.mul y1 y1 = K.add (K.mul x1 (K.mul x1 x1)) b) (hq : K.mul y2 y2 = K.add (K.mul x2 (K.mul x2 x2)) b) (hn : ¬ (x1 = x2 ∧ K.add y1 y2 = K.zero)) : Slope K x1 y1 x2 y2 (dD K inv x1 y1 x2 y2):=by
 unfold dD
 by_cases hx : x1 = x2
 ·subst hx;rw [if_pos rfl];have hy : K.add y1 y2 ≠ K.zero:=fun e => hn ⟨rfl,e⟩
  have hi:=E.F.inv _ hy;have e : y1 = y2:=by
   refine iL (K:=K) (E.F.zd (a:=K.add y1 y2) ?_ hy);have e0 : K.mul (K.add y1 y2) (K.sub y1 y2) = K.sub (K.mul y1 y1) (K.mul y2 y2):=aE K (aR K [y1,y2]) (.mul (.add (.v 0) (.v 1)) (.add (.v 0) (.neg (.v 1)))) (.add (.mul (.v 0) (.v 0)) (.neg (.mul (.v 1) (.v 1)))) (by kernel_rfl);rw [e0,hp,hq];exact K.add_neg _
  subst e;generalize inv (K.add y1 y1) = k at hi;refine ⟨aE K (aR K [y1,x1,k]) (.v 0) (.add (.v 0) (.mul (.mul (.add (.add (.mul (.v 1) (.v 1)) (.mul (.v 1) (.v 1))) (.mul (.v 1) (.v 1))) (.v 2)) (.add (.v 1) (.neg (.v 1))))) (by kernel_rfl),gQ (K:=K) (c1:=(K.add (K.add (K.mul x1 x1) (K.mul x1 x1)) (K.mul x1 x1))) hi (aE K (aR K [x1,k,y1]) (.add (.mul (.mul (.add (.add (.mul (.v 0) (.v 0)) (.mul (.v 0) (.v 0))) (.mul (.v 0) (.v 0))) (.v 1)) (.add (.v 2) (.v 2))) (.neg (.add (.add (.mul (.v 0) (.v 0)) (.mul (.v 0) (.v 0))) (.mul (.v 0) (.v 0))))) (.mul (.add (.add (.mul (.v 0) (.v 0)) (.mul (.v 0) (.v 0))) (.mul (.v 0) (.v 0))) (.add (.mul (.add (.v 2) (.v 2)) (.v 1)) (.neg .one))) (by kernel_rfl)),Or.inl ⟨k,by rw [K.mul_comm,hi]⟩⟩
 ·rw [if_neg hx];have hd : K.sub x2 x1 ≠ K.zero:=NX fun e => hx e.symm
  have hi:=E.F.inv _ hd;generalize inv (K.sub x2 x1) = k at hi;refine ⟨gQ (K:=K) (c1:=(K.neg (K.sub y2 y1))) hi (aE K (aR K [y2,y1,k,x2,x1]) (.add (.v 0) (.neg (.add (.v 1) (.mul (.mul (.add (.v 0) (.neg (.v 1))) (.v 2)) (.add (.v 3) (.neg (.v 4))))))) (.mul (.neg (.add (.v 0) (.neg (.v 1)))) (.add (.mul (.add (.v 3) (.neg (.v 4))) (.v 2)) (.neg .one))) (by kernel_rfl)),?_,Or.inr ⟨k,by rw [K.mul_comm,hi]⟩⟩;refine E.F.cancel hd ?_;exact ZV (K:=K) (c1:=(K.mul (K.sub y2 y1) (K.add y1 y2))) (c2:=(K.neg K.one)) (c3:=K.one) hi hp hq (aE K (aR K [x2,x1,y2,y1,k,b]) (.add (.mul (.add (.v 0) (.neg (.v 1))) (.mul (.mul (.add (.v 2) (.neg (.v 3))) (.v 4)) (.add (.v 3) (.v 2)))) (.neg (.mul (.add (.v 0) (.neg (.v 1))) (.add (.add (.mul (.v 1) (.v 1)) (.mul (.v 1) (.v 0))) (.mul (.v 0) (.v 0)))))) (.add (.add (.mul (.mul (.add (.v 2) (.neg (.v 3))) (.add (.v 3) (.v 2))) (.add (.mul (.add (.v 0) (.neg (.v 1))) (.v 4)) (.neg .one))) (.mul (.neg .one) (.add (.mul (.v 3) (.v 3)) (.neg (.add (.mul (.v 1) (.mul (.v 1) (.v 1))) (.v 5)))))) (.mul .one (.add (.mul (.v 2) (.v 2)) (.neg (.add (.mul (.v 0) (.mul (.v 0) (.v 0))) (.v 5)))))) (by kernel_rfl))
theorem On.sum {x1 y1 x2 y2 l : R} (hp : K.mul y1 y1 = K.add (K.mul x1 (K.mul x1 x1)) b) (h : Slope K x1 y1 x2 y2 l) : On K b (some (sx K l x1 x2,sy K l x1 y1 x2)):=by
 obtain ⟨h1,h2,_⟩:=h;subst h1;show K.mul (K.sub (K.mul l (K.sub x1 (K.sub (K.sub (K.mul l l) x1) x2))) y1) (K.sub (K.mul l (K.sub x1 (K.sub (K.sub (K.mul l l) x1) x2))) y1) = K.add (K.mul (K.sub (K.sub (K.mul l l) x1) x2) (K.mul (K.sub (K.sub (K.mul l l) x1) x2) (K.sub (K.sub (K.mul l l) x1) x2))) b;exact jU (K:=K) (c1:=K.one) (c2:=(K.sub (K.sub (K.sub (K.mul l l) x1) x2) x1)) hp h2 (aE K (aR K [l,x1,x2,y1,b]) (.add (.mul (.add (.mul (.v 0) (.add (.v 1) (.neg (.add (.add (.mul (.v 0) (.v 0)) (.neg (.v 1))) (.neg (.v 2)))))) (.neg (.v 3))) (.add (.mul (.v 0) (.add (.v 1) (.neg (.add (.add (.mul (.v 0) (.v 0)) (.neg (.v 1))) (.neg (.v 2)))))) (.neg (.v 3)))) (.neg (.add (.mul (.add (.add (.mul (.v 0) (.v 0)) (.neg (.v 1))) (.neg (.v 2))) (.mul (.add (.add (.mul (.v 0) (.v 0)) (.neg (.v 1))) (.neg (.v 2))) (.add (.add (.mul (.v 0) (.v 0)) (.neg (.v 1))) (.neg (.v 2))))) (.v 4)))) (.add (.mul .one (.add (.mul (.v 3) (.v 3)) (.neg (.add (.mul (.v 1) (.mul (.v 1) (.v 1))) (.v 4))))) (.mul (.add (.add (.add (.mul (.v 0) (.v 0)) (.neg (.v 1))) (.neg (.v 2))) (.neg (.v 1))) (.add (.mul (.v 0) (.add (.v 3) (.add (.v 3) (.mul (.v 0) (.add (.v 2) (.neg (.v 1))))))) (.neg (.add (.add (.mul (.v 1) (.v 1)) (.mul (.v 1) (.v 2))) (.mul (.v 2) (.v 2))))))) (by kernel_rfl))
theorem On.neg : ∀ {p : Pt R},On K b p → On K b (KR K p)
 | none,_ => trivial
 | some p,h => by
  show K.mul (K.neg p.2) (K.neg p.2) = _;rw [K.neg_mul,K.mul_neg,K.neg_neg];exact h
theorem On.add (E : EC K inv b) : ∀ {p q : Pt R},On K b p → On K b q → On K b (gZ K inv p q)
 | none,_,_,h => h
 | some _,none,h,_ => h
 | some p,some q,hp,hq => by
  by_cases hn : p.1 = q.1 ∧ K.add p.2 q.2 = K.zero
  ·rw [kG hn]; trivial
  ·rw [jD hn];exact On.sum hp (wK E hp hq hn)
def opP (K : CR R) (b : R) (p : Pt R) (S : Pol K × Pol K → Prop) : Pol K × Pol K → Prop :=
 match p with
 | none => S
 | some p => op (bY K b) cX cY (cc p.1) (cc p.2) S
theorem XO (p q : Pt R) (S : Pol K × Pol K → Prop) : opP K b p (opP K b q S) = opP K b q (opP K b p S):=by
 cases p with
 | none => rfl
 | some p => cases q with
  | none => rfl
  | some q => exact aGZ _ _ _ _
theorem Jm {S : Pol K × Pol K → Prop} (h : Idl (bY K b) S) (p : Pt R) : Idl (bY K b) (opP K b p S):=by
 cases p with
 | none => exact h
 | some p => exact aAz h _ _
theorem Jn {S T : Pol K × Pol K → Prop} (h : Eqv (bY K b) S T) (p : Pt R) : Eqv (bY K b) (opP K b p S) (opP K b p T):=by
 cases p with
 | none => exact h
 | some p => exact h.op _ _
theorem aJk (F : FD K inv) (c : R) : (bY K b).sub cX (cc c) ≠ (bY K b).zero:=fun q => aDg (GY (K:=K) F c) (congrArg Prod.fst q)
theorem aCW (F : FD K inv) (x1 y1 l : R) : (bY K b).sub ((bY K b).sub cY (cc y1)) ((bY K b).mul (cc l) ((bY K b).sub cX (cc x1))) ≠ (bY K b).zero:=fun q => by
 have e : K.add (K.add K.one (K.neg K.zero)) (K.neg (K.add (K.mul l (K.add K.zero (K.neg K.zero))) (K.mul K.zero (K.add K.zero (K.neg x1))))) = K.zero:=congrArg (fun z : Pol K × Pol K => z.2.1 0) q;rw [bK,K.add_zero,K.add_zero,K.mul_zero,K.zero_mul,K.add_zero,bK,K.add_zero] at e;exact F.ne e
theorem nT (E : EC K inv b) {S : Pol K × Pol K → Prop} (hS : Idl (bY K b) S) : ∀ {p q : Pt R},On K b p → On K b q → Eqv (bY K b) (opP K b p (opP K b q S)) (opP K b (gZ K inv p q) S)
 | none,_,_,_ => Eqv.refl (jK b E.F) _
 | some _,none,_,_ => Eqv.refl (jK b E.F) _
 | some ⟨x1,y1⟩,some ⟨x2,y2⟩,hp,hq => by
  by_cases hn : x1 = x2 ∧ K.add y1 y2 = K.zero
  ·rw [kG hn];obtain ⟨rfl,hy⟩:=hn;have e : y2 = K.neg y1:=by
    apply K.add_cancel (a:=y1);rw [hy,K.add_neg]
   subst e;show Eqv (bY K b) (op (bY K b) cX cY (cc x1) (cc y1) (op (bY K b) cX cY (cc x1) (cc (K.neg y1)) S)) S;have h0:=E.F.inv _ (E.dbl_ne (E.y_ne hp));rw [Gh b];refine aNz (b:=cc b) (k:=cc (inv (K.add y1 y1))) (aIR b) ?_ ?_ (jK b E.F) (aJk E.F x1) hS
   ·rw [← fV,← fV,← fV,← iJ];exact congrArg cc hp
   ·rw [← iJ,← fV,K.mul_comm,h0];rfl
  ·rw [jD hn];have h:=wK E hp hq hn;dsimp only at h ⊢;generalize dD K inv x1 y1 x2 y2 = l at h;obtain ⟨h1,h2,hk⟩:=h;subst h1;show Eqv (bY K b) (op (bY K b) cX cY (cc x1) (cc y1) (op (bY K b) cX cY (cc x2) (cc (K.add y1 (K.mul l (K.sub x2 x1)))) S)) (op (bY K b) cX cY (cc (sx K l x1 x2)) (cc (sy K l x1 y1 x2)) S);unfold sy sx;have hX:=aJk (K:=K) (b:=b) E.F (sx K l x1 x2);have hl:=aCW (K:=K) (b:=b) E.F x1 y1 l;unfold sx at hX;simp only [iJ b,fV b,oN b] at hX ⊢;refine aNy (b:=cc b) (aIR b) ?_ ?_ ?_ hX hl hS
   ·have:=congrArg (cc (K:=K)) h2;simpa only [iJ b,fV b,oN b] using this
   ·have:=congrArg (cc (K:=K)) hp;simpa only [iJ b,fV b,oN b] using this
   ·rcases hk with ⟨k,hk⟩ | ⟨k,hk⟩
    ·refine Or.inl ⟨cc k,?_⟩;have:=congrArg (cc (K:=K)) hk;simpa only [iJ b,fV b,oN b,RO b] using this
    ·refine Or.inr ⟨cc k,?_⟩;have:=congrArg (cc (K:=K)) hk;simpa only [iJ b,fV b,oN b,RO b] using this
theorem CM (p : Pt R) : gZ K inv (KR K p) p = none:=by
 cases p with
 | none => rfl
 | some p => exact if_pos ⟨rfl,K.neg_add _⟩
theorem Zl {p q : Pt R} (h : gZ K inv (KR K p) q = none) : q = p:=by
 cases p with
 | none => exact h
 | some p => cases q with
  | none => cases h
  | some q =>
   by_cases hh : p.1 = q.1 ∧ K.add (K.neg p.2) q.2 = K.zero
   ·obtain ⟨h1,h2⟩:=hh;refine congrArg some (Prod.ext h1.symm ?_);apply K.add_cancel (a:=K.neg p.2);exact h2.trans (K.neg_add p.2).symm
   ·have e : gZ K inv (KR K (some p)) (some q) = some _:=jD (p:=(p.1,K.neg p.2)) (q:=q) hh;rw [e] at h;cases h
theorem aNB (E : EC K inv b) {p : Pt R} (hp : On K b p) (h : Eqv (bY K b) (opP K b p TJ) TJ) : p = none:=by
 cases p with
 | none => rfl
 | some p => exact absurd h (aTe b E.F hp)
theorem Jl (E : EC K inv b) {p q : Pt R} (hp : On K b p) (hq : On K b q) (h : Eqv (bY K b) (opP K b p TJ) (opP K b q TJ)) : p = q:=by
 have D:=jK (K:=K) b E.F;have h1:=Jn h (KR K q);have a1:=nT E (kL (bY K b)) hq.neg hp;have a2:=nT E (kL (bY K b)) hq.neg hq;rw [CM] at a2;exact Zl (aNB E (hq.neg.add E hp) (a1.symm.trans D (h1.trans D a2)))
theorem WP (E : EC K inv b) {p q : Pt R} (hp : On K b p) (hq : On K b q) : gZ K inv p q = gZ K inv q p:=by
 have D:=jK (K:=K) b E.F;refine Jl E (hp.add E hq) (hq.add E hp) ?_;refine (nT E (kL (bY K b)) hp hq).symm.trans D ?_;rw [XO];exact nT E (kL (bY K b)) hq hp
theorem KT (E : EC K inv b) {p q r : Pt R} (hp : On K b p) (hq : On K b q) (hr : On K b r) : gZ K inv (gZ K inv p q) r = gZ K inv p (gZ K inv q r):=by
 have D:=jK (K:=K) b E.F;have hu:=kL (bY K b);refine Jl E ((hp.add E hq).add E hr) (hp.add E (hq.add E hr)) ?_;refine (nT E hu (hp.add E hq) hr).symm.trans D ?_;refine (nT E (Jm hu r) hp hq).symm.trans D ?_;refine (Jn (nT E hu hq hr) p).trans D ?_;exact nT E hu hp (hq.add E hr)
end
structure AG (G : Type) where
 add : G → G → G
 neg : G → G
 zero : G
 assoc : ∀ a b c,add (add a b) c = add a (add b c)
 comm : ∀ a b,add a b = add b a
 zadd : ∀ a,add zero a = a
 nadd : ∀ a,add (neg a) a = zero
def EC.grp {R : Type} {K : CR R} {inv : R → R} {b : R} (E : EC K inv b) : AG {p : Pt R // On K b p} where
 add p q:=⟨gZ K inv p.1 q.1,p.2.add E q.2⟩
 neg p:=⟨KR K p.1,p.2.neg⟩
 zero:=⟨none,trivial⟩
 assoc p q r:=Subtype.ext (KT E p.2 q.2 r.2)
 comm p q:=Subtype.ext (WP E p.2 q.2)
 zadd p:=rfl
 nadd p:=Subtype.ext (CM p.1)
structure Cub {R : Type} (K : CR R) (b a1 a2 a3 n c : R) : Prop where
 s1 : K.add (K.add a1 a2) a3 = K.mul n n
 s2 : K.add (K.add (K.add (K.mul a1 a2) (K.mul a1 a3)) (K.mul a2 a3)) (K.add (K.mul n c) (K.mul n c)) = K.zero
 s3 : K.add (K.mul (K.mul a1 a2) a3) b = K.mul c c
section
variable {R : Type} {K : CR R} {inv : R → R} {b : R}
theorem aPM {x1 y1 x2 y2 l : R} (hp : K.mul y1 y1 = K.add (K.mul x1 (K.mul x1 x1)) b) (h : Slope K x1 y1 x2 y2 l) : Cub K b x1 x2 (sx K l x1 x2) l (K.sub y1 (K.mul l x1)):=by
 obtain ⟨h1,h2,_⟩:=h;subst h1;unfold sx;exact ⟨aE K (aR K [x1,y1,x2,l,b]) (.add (.add (.v 0) (.v 2)) (.add (.add (.mul (.v 3) (.v 3)) (.neg (.v 0))) (.neg (.v 2)))) (.mul (.v 3) (.v 3)) (by kernel_rfl),gQ (K:=K) (c1:=K.one) h2 (aE K (aR K [x1,y1,x2,l,b]) (.add (.add (.add (.add (.mul (.v 0) (.v 2)) (.mul (.v 0) (.add (.add (.mul (.v 3) (.v 3)) (.neg (.v 0))) (.neg (.v 2))))) (.mul (.v 2) (.add (.add (.mul (.v 3) (.v 3)) (.neg (.v 0))) (.neg (.v 2))))) (.add (.mul (.v 3) (.add (.v 1) (.neg (.mul (.v 3) (.v 0))))) (.mul (.v 3) (.add (.v 1) (.neg (.mul (.v 3) (.v 0))))))) (.neg .zero)) (.mul .one (.add (.mul (.v 3) (.add (.v 1) (.add (.v 1) (.mul (.v 3) (.add (.v 2) (.neg (.v 0))))))) (.neg (.add (.add (.mul (.v 0) (.v 0)) (.mul (.v 0) (.v 2))) (.mul (.v 2) (.v 2)))))) (by kernel_rfl)),jU (K:=K) (c1:=(K.neg K.one)) (c2:=x1) hp h2 (aE K (aR K [x1,y1,x2,l,b]) (.add (.add (.mul (.mul (.v 0) (.v 2)) (.add (.add (.mul (.v 3) (.v 3)) (.neg (.v 0))) (.neg (.v 2)))) (.v 4)) (.neg (.mul (.add (.v 1) (.neg (.mul (.v 3) (.v 0)))) (.add (.v 1) (.neg (.mul (.v 3) (.v 0))))))) (.add (.mul (.neg .one) (.add (.mul (.v 1) (.v 1)) (.neg (.add (.mul (.v 0) (.mul (.v 0) (.v 0))) (.v 4))))) (.mul (.v 0) (.add (.mul (.v 3) (.add (.v 1) (.add (.v 1) (.mul (.v 3) (.add (.v 2) (.neg (.v 0))))))) (.neg (.add (.add (.mul (.v 0) (.v 0)) (.mul (.v 0) (.v 2))) (.mul (.v 2) (.v 2))))))) (by kernel_rfl))⟩
theorem Mw {a1 a2 a3 n c : R} (h : Cub K b a1 a2 a3 n c) (u v : R) : (K.mul (K.add (K.mul u a1) v) (K.mul (K.add (K.mul u a2) v) (K.add (K.mul u a3) v))) = (K.add (K.add (K.sub (K.mul (K.mul (K.mul u u) u) (K.sub (K.mul c c) b)) (K.mul (K.mul (K.mul u u) v) (K.add (K.mul n c) (K.mul n c)))) (K.mul (K.mul (K.mul u v) v) (K.mul n n))) (K.mul (K.mul v v) v)) :=
 ZV (K:=K) (c1:=(K.mul (K.mul u v) v)) (c2:=(K.mul (K.mul u u) v)) (c3:=(K.mul (K.mul u u) u)) h.s1 h.s2 h.s3 (aE K (aR K [a1,a2,a3,n,c,u,v,b]) (.add (.mul (.add (.mul (.v 5) (.v 0)) (.v 6)) (.mul (.add (.mul (.v 5) (.v 1)) (.v 6)) (.add (.mul (.v 5) (.v 2)) (.v 6)))) (.neg (.add (.add (.add (.mul (.mul (.mul (.v 5) (.v 5)) (.v 5)) (.add (.mul (.v 4) (.v 4)) (.neg (.v 7)))) (.neg (.mul (.mul (.mul (.v 5) (.v 5)) (.v 6)) (.add (.mul (.v 3) (.v 4)) (.mul (.v 3) (.v 4)))))) (.mul (.mul (.mul (.v 5) (.v 6)) (.v 6)) (.mul (.v 3) (.v 3)))) (.mul (.mul (.v 6) (.v 6)) (.v 6))))) (.add (.add (.mul (.mul (.mul (.v 5) (.v 6)) (.v 6)) (.add (.add (.add (.v 0) (.v 1)) (.v 2)) (.neg (.mul (.v 3) (.v 3))))) (.mul (.mul (.mul (.v 5) (.v 5)) (.v 6)) (.add (.add (.add (.add (.mul (.v 0) (.v 1)) (.mul (.v 0) (.v 2))) (.mul (.v 1) (.v 2))) (.add (.mul (.v 3) (.v 4)) (.mul (.v 3) (.v 4)))) (.neg .zero)))) (.mul (.mul (.mul (.v 5) (.v 5)) (.v 5)) (.add (.add (.mul (.mul (.v 0) (.v 1)) (.v 2)) (.v 7)) (.neg (.mul (.v 4) (.v 4)))))) (by kernel_rfl))
theorem aDG (n c m d : R) : (K.add (K.add (K.sub (K.mul (K.mul (K.mul (K.sub n m) (K.sub n m)) (K.sub n m)) (K.sub (K.mul c c) b)) (K.mul (K.mul (K.mul (K.sub n m) (K.sub n m)) (K.sub c d)) (K.add (K.mul n c) (K.mul n c)))) (K.mul (K.mul (K.mul (K.sub n m) (K.sub c d)) (K.sub c d)) (K.mul n n))) (K.mul (K.mul (K.sub c d) (K.sub c d)) (K.sub c d))) = (K.add (K.add (K.sub (K.mul (K.mul (K.mul (K.sub n m) (K.sub n m)) (K.sub n m)) (K.sub (K.mul d d) b)) (K.mul (K.mul (K.mul (K.sub n m) (K.sub n m)) (K.sub c d)) (K.add (K.mul m d) (K.mul m d)))) (K.mul (K.mul (K.mul (K.sub n m) (K.sub c d)) (K.sub c d)) (K.mul m m))) (K.mul (K.mul (K.sub c d) (K.sub c d)) (K.sub c d))) :=
 aE K (aR K [n,c,m,d,b]) (.add (.add (.add (.mul (.mul (.mul (.add (.v 0) (.neg (.v 2))) (.add (.v 0) (.neg (.v 2)))) (.add (.v 0) (.neg (.v 2)))) (.add (.mul (.v 1) (.v 1)) (.neg (.v 4)))) (.neg (.mul (.mul (.mul (.add (.v 0) (.neg (.v 2))) (.add (.v 0) (.neg (.v 2)))) (.add (.v 1) (.neg (.v 3)))) (.add (.mul (.v 0) (.v 1)) (.mul (.v 0) (.v 1)))))) (.mul (.mul (.mul (.add (.v 0) (.neg (.v 2))) (.add (.v 1) (.neg (.v 3)))) (.add (.v 1) (.neg (.v 3)))) (.mul (.v 0) (.v 0)))) (.mul (.mul (.add (.v 1) (.neg (.v 3))) (.add (.v 1) (.neg (.v 3)))) (.add (.v 1) (.neg (.v 3))))) (.add (.add (.add (.mul (.mul (.mul (.add (.v 0) (.neg (.v 2))) (.add (.v 0) (.neg (.v 2)))) (.add (.v 0) (.neg (.v 2)))) (.add (.mul (.v 3) (.v 3)) (.neg (.v 4)))) (.neg (.mul (.mul (.mul (.add (.v 0) (.neg (.v 2))) (.add (.v 0) (.neg (.v 2)))) (.add (.v 1) (.neg (.v 3)))) (.add (.mul (.v 2) (.v 3)) (.mul (.v 2) (.v 3)))))) (.mul (.mul (.mul (.add (.v 0) (.neg (.v 2))) (.add (.v 1) (.neg (.v 3)))) (.add (.v 1) (.neg (.v 3)))) (.mul (.v 2) (.v 2)))) (.mul (.mul (.add (.v 1) (.neg (.v 3))) (.add (.v 1) (.neg (.v 3)))) (.add (.v 1) (.neg (.v 3))))) (by kernel_rfl)
theorem aBF (a n c m d : R) : (K.sub (K.add (K.mul n a) c) (K.add (K.mul m a) d)) = (K.add (K.mul (K.sub n m) a) (K.sub c d)):=aE K (aR K [a,n,c,m,d]) (.add (.add (.mul (.v 1) (.v 0)) (.v 2)) (.neg (.add (.mul (.v 3) (.v 0)) (.v 4)))) (.add (.mul (.add (.v 1) (.neg (.v 3))) (.v 0)) (.add (.v 2) (.neg (.v 4)))) (by kernel_rfl)
theorem aBC (a n c m d : R) : (K.sub (K.add (K.mul m a) d) (K.add (K.mul n a) c)) = (K.neg (K.add (K.mul (K.sub n m) a) (K.sub c d))):=aE K (aR K [a,n,c,m,d]) (.add (.add (.mul (.v 3) (.v 0)) (.v 4)) (.neg (.add (.mul (.v 1) (.v 0)) (.v 2)))) (.neg (.add (.mul (.add (.v 1) (.neg (.v 3))) (.v 0)) (.add (.v 2) (.neg (.v 4))))) (by kernel_rfl)
theorem aXq (p q r : R) : (K.neg (K.mul (K.neg p) (K.mul (K.neg q) (K.neg r)))) = (K.mul p (K.mul q r)):=aE K (aR K [p,q,r]) (.neg (.mul (.neg (.v 0)) (.mul (.neg (.v 1)) (.neg (.v 2))))) (.mul (.v 0) (.mul (.v 1) (.v 2))) (by kernel_rfl)
theorem aSD {a1 a2 a3 n c x1 x2 x3 m d : R} (h : Cub K b a1 a2 a3 n c) (g : Cub K b x1 x2 x3 m d) :
  K.mul (K.sub (K.add (K.mul n a1) c) (K.add (K.mul m a1) d)) (K.mul (K.sub (K.add (K.mul n a2) c) (K.add (K.mul m a2) d)) (K.sub (K.add (K.mul n a3) c) (K.add (K.mul m a3) d))) =
  K.neg (K.mul (K.sub (K.add (K.mul m x1) d) (K.add (K.mul n x1) c)) (K.mul (K.sub (K.add (K.mul m x2) d) (K.add (K.mul n x2) c)) (K.sub (K.add (K.mul m x3) d) (K.add (K.mul n x3) c)))):=by
 rw [aBF,aBF,aBF,aBC,aBC,aBC,aXq,Mw h,Mw g,aDG]
theorem aSc {a1 a2 a3 n c x y : R} (h : Cub K b a1 a2 a3 n c) (hp : K.mul y y = K.add (K.mul x (K.mul x x)) b) : (K.mul (K.sub y (K.add (K.mul n x) c)) (K.sub (K.neg y) (K.add (K.mul n x) c))) = (K.neg (K.mul (K.sub x a1) (K.mul (K.sub x a2) (K.sub x a3)))) :=
 aDp (K:=K) (c1:=(K.neg K.one)) (c2:=(K.neg (K.mul x x))) (c3:=x) (c4:=(K.neg K.one)) hp h.s1 h.s2 h.s3 (aE K (aR K [a1,a2,a3,n,c,x,y,b]) (.add (.mul (.add (.v 6) (.neg (.add (.mul (.v 3) (.v 5)) (.v 4)))) (.add (.neg (.v 6)) (.neg (.add (.mul (.v 3) (.v 5)) (.v 4))))) (.neg (.neg (.mul (.add (.v 5) (.neg (.v 0))) (.mul (.add (.v 5) (.neg (.v 1))) (.add (.v 5) (.neg (.v 2)))))))) (.add (.add (.add (.mul (.neg .one) (.add (.mul (.v 6) (.v 6)) (.neg (.add (.mul (.v 5) (.mul (.v 5) (.v 5))) (.v 7))))) (.mul (.neg (.mul (.v 5) (.v 5))) (.add (.add (.add (.v 0) (.v 1)) (.v 2)) (.neg (.mul (.v 3) (.v 3)))))) (.mul (.v 5) (.add (.add (.add (.add (.mul (.v 0) (.v 1)) (.mul (.v 0) (.v 2))) (.mul (.v 1) (.v 2))) (.add (.mul (.v 3) (.v 4)) (.mul (.v 3) (.v 4)))) (.neg .zero)))) (.mul (.neg .one) (.add (.add (.mul (.mul (.v 0) (.v 1)) (.v 2)) (.v 7)) (.neg (.mul (.v 4) (.v 4)))))) (by kernel_rfl))
theorem Cub.scale {a1 a2 a3 n c : R} (h : Cub K b a1 a2 a3 n c) (t : R) : Cub K (K.mul b (K.mul (K.mul (K.mul t t) t) (K.mul (K.mul t t) t))) (K.mul a1 (K.mul t t)) (K.mul a2 (K.mul t t)) (K.mul a3 (K.mul t t)) (K.mul n t) (K.mul c (K.mul (K.mul t t) t)) :=
 ⟨gQ (K:=K) (c1:=(K.mul t t)) h.s1 (aE K (aR K [a1,a2,a3,n,c,b,t]) (.add (.add (.add (.mul (.v 0) (.mul (.v 6) (.v 6))) (.mul (.v 1) (.mul (.v 6) (.v 6)))) (.mul (.v 2) (.mul (.v 6) (.v 6)))) (.neg (.mul (.mul (.v 3) (.v 6)) (.mul (.v 3) (.v 6))))) (.mul (.mul (.v 6) (.v 6)) (.add (.add (.add (.v 0) (.v 1)) (.v 2)) (.neg (.mul (.v 3) (.v 3))))) (by kernel_rfl)),
  gQ (K:=K) (c1:=(K.mul (K.mul t t) (K.mul t t))) h.s2 (aE K (aR K [a1,a2,a3,n,c,b,t]) (.add (.add (.add (.add (.mul (.mul (.v 0) (.mul (.v 6) (.v 6))) (.mul (.v 1) (.mul (.v 6) (.v 6)))) (.mul (.mul (.v 0) (.mul (.v 6) (.v 6))) (.mul (.v 2) (.mul (.v 6) (.v 6))))) (.mul (.mul (.v 1) (.mul (.v 6) (.v 6))) (.mul (.v 2) (.mul (.v 6) (.v 6))))) (.add (.mul (.mul (.v 3) (.v 6)) (.mul (.v 4) (.mul (.mul (.v 6) (.v 6)) (.v 6)))) (.mul (.mul (.v 3) (.v 6)) (.mul (.v 4) (.mul (.mul (.v 6) (.v 6)) (.v 6)))))) (.neg .zero)) (.mul (.mul (.mul (.v 6) (.v 6)) (.mul (.v 6) (.v 6))) (.add (.add (.add (.add (.mul (.v 0) (.v 1)) (.mul (.v 0) (.v 2))) (.mul (.v 1) (.v 2))) (.add (.mul (.v 3) (.v 4)) (.mul (.v 3) (.v 4)))) (.neg .zero))) (by kernel_rfl)),
  gQ (K:=K) (c1:=(K.mul (K.mul (K.mul t t) t) (K.mul (K.mul t t) t))) h.s3 (aE K (aR K [a1,a2,a3,n,c,b,t]) (.add (.add (.mul (.mul (.mul (.v 0) (.mul (.v 6) (.v 6))) (.mul (.v 1) (.mul (.v 6) (.v 6)))) (.mul (.v 2) (.mul (.v 6) (.v 6)))) (.mul (.v 5) (.mul (.mul (.mul (.v 6) (.v 6)) (.v 6)) (.mul (.mul (.v 6) (.v 6)) (.v 6))))) (.neg (.mul (.mul (.v 4) (.mul (.mul (.v 6) (.v 6)) (.v 6))) (.mul (.v 4) (.mul (.mul (.v 6) (.v 6)) (.v 6)))))) (.mul (.mul (.mul (.mul (.v 6) (.v 6)) (.v 6)) (.mul (.mul (.v 6) (.v 6)) (.v 6))) (.add (.add (.mul (.mul (.v 0) (.v 1)) (.v 2)) (.v 5)) (.neg (.mul (.v 4) (.v 4))))) (by kernel_rfl))⟩
end
end Go.Proofs.YtglgakbkdjhojaaGreat.Ex
namespace Go.Proofs.YtglgakbkdjhojaaGreat
open Go.Proofs.Tryz
theorem Gj {a b : Nat} (h : a ≠ b) : Nat.beq a b = false:=by cases q : Nat.beq a b with | false => rfl | true => exact absurd (Nat.eq_of_beq_eq_true q) h
def dV (q : Nat) : Prop:=1 < q ∧ ∀ m,m ∣ q → m = 1 ∨ m = q
def pm (n : Nat) : Nat → Nat → Nat → Nat
 | 0,_,_ => 1 % n
 | f + 1,b,e => bif Nat.beq e 0 then 1 % n else bif Nat.beq (e % 2) 1 then b * pm n f (b * b % n) (e / 2) % n else pm n f (b * b % n) (e / 2)
theorem AP (n : Nat) : ∀ f b e,e < 2 ^ f → pm n f b e = b ^ e % n:=by
 intro f
 induction f with
 | zero =>
  intro b e h;have : e = 0:=by omega
  subst this;simp [pm]
 | succ f ih =>
  intro b e h;rw [Nat.pow_succ] at h;unfold pm
  by_cases h0 : e = 0
  ·subst h0; simp
  ·have h0' : Nat.beq e 0 = false:=Gj h0;rw [h0'];have hi:=ih (b * b % n) (e / 2) (by omega);have hp : (b * b % n) ^ (e / 2) % n = b ^ (2 * (e / 2)) % n:=by
    rw [← Nat.pow_mod,Nat.pow_mul,Nat.pow_two]
   by_cases h1 : e % 2 = 1
   ·have h1' : Nat.beq (e % 2) 1 = true:=by rw [h1]; rfl
    rw [h1'];simp only [cond_true,cond_false];rw [hi,hp,Nat.mul_mod,Nat.mod_mod,← Nat.mul_mod,← Nat.pow_succ'];congr 2; omega
   ·have h1' : Nat.beq (e % 2) 1 = false:=Gj h1;rw [h1'];simp only [cond_false];rw [hi,hp];congr 2; omega
def Ks (n : Nat) : Nat → Bool
 | 0 => true
 | k + 1 => (Nat.beq k 0 || !(Nat.beq (n % (k + 1)) 0)) && Ks n k
theorem Ep (n : Nat) : ∀ k,Ks n k = true → ∀ m,2 ≤ m → m ≤ k → ¬ m ∣ n:=by
 intro k
 induction k with
 | zero => intro _ m h1 h2; omega
 | succ k ih =>
  intro h m h1 h2;unfold Ks at h;rw [Bool.and_eq_true] at h
  by_cases hm : m = k + 1
  ·subst hm;have hk : Nat.beq k 0 = false:=Gj (by omega);rw [hk] at h;simp at h;intro hd;rw [Nat.mod_eq_zero_of_dvd hd] at h;exact absurd h.1 (by decide)
  ·exact ih h.2 m h1 (by omega)
theorem aO (n k : Nat) (h1 : 1 < n) (hk : n < (k + 1) * (k + 1)) (h : Ks n k = true) : dV n:=by
 refine ⟨h1,fun m hm => ?_⟩;have hs:=Ep n k h;obtain ⟨c,hc⟩:=hm;have hm0 : m ≠ 0:=fun e => by subst e; omega
 have hc0 : c ≠ 0:=fun e => by subst e; omega
 by_cases h2 : m = 1
 ·exact Or.inl h2
 ·by_cases h3 : c = 1
  ·subst h3; right; omega
  ·exfalso
   by_cases h4 : m ≤ k
   ·exact hs m (by omega) h4 ⟨c,hc⟩
   ·by_cases h5 : c ≤ k
    ·exact hs c (by omega) h5 ⟨m,by rw [hc,Nat.mul_comm]⟩
    ·have:=Nat.mul_le_mul (show k + 1 ≤ m by omega) (show k + 1 ≤ c by omega);omega
theorem wY : ∀ (l : List Nat) (m : Nat),m ∣ l.foldr (· * ·) 1 → 1 < m → (∀ q,q ∈ l → dV q) → ∃ q,q ∈ l ∧ q ∣ m:=by
 intro l
 induction l with
 | nil => intro m h h1 _; simp at h; omega
 | cons q l ih =>
  intro m h h1 hq;rw [List.foldr_cons] at h
  rcases (hq q List.mem_cons_self).2 (Nat.gcd m q) (Nat.gcd_dvd_right m q) with g | g
  ·have:=Nat.Coprime.dvd_of_dvd_mul_left (show Nat.Coprime m q from g) h;obtain ⟨q',h',h''⟩:=ih m this h1 (fun q' h' => hq q' (List.mem_cons_of_mem _ h'));exact ⟨q',List.mem_cons_of_mem _ h',h''⟩
  ·exact ⟨q,List.mem_cons_self,g ▸ Nat.gcd_dvd_left m q⟩
theorem iM (g a b n : Nat) : g ^ (a + b) % n = (g ^ a % n) * (g ^ b % n) % n:=by rw [Nat.pow_add,Nat.mul_mod]
theorem sA {g o n : Nat} (h1 : 1 < n) (h : g ^ o % n = 1) (k : Nat) : g ^ (o * k) % n = 1:=by
 rw [Nat.pow_mul,Nat.pow_mod,h,Nat.one_pow,Nat.mod_eq_of_lt h1]
theorem aBJ {P : Nat → Prop} : ∀ n,P n → ∃ m,P m ∧ ∀ k,k < m → ¬ P k:=by
 intro n
 induction n using Nat.strongRecOn with
 | ind n ih =>
  intro h
  by_cases hk : ∃ k,k < n ∧ P k
  ·obtain ⟨k,h1,h2⟩:=hk; exact ih k h1 h2
  ·exact ⟨n,h,fun k h1 h2 => hk ⟨k,h1,h2⟩⟩
theorem Ef {n g : Nat} (l : List Nat) (h1 : 1 < n) (hl : l.foldr (· * ·) 1 = n - 1) (hp : ∀ q,q ∈ l → dV q) (hg : g ^ (n - 1) % n = 1) (hq : ∀ q,q ∈ l → g ^ ((n - 1) / q) % n ≠ 1) :
  ∀ k,0 < k → k < n - 1 → g ^ k % n ≠ 1:=by
 obtain ⟨o,⟨ho0,ho⟩,hmin⟩:=aBJ (P:=fun k => 0 < k ∧ g ^ k % n = 1) (n - 1) ⟨by omega,hg⟩;have hdiv : ∀ k,g ^ k % n = 1 → o ∣ k:=by
  intro k hk;have e : o * (k / o) + k % o = k:=Nat.div_add_mod k o;rw [← e,iM,sA h1 ho,Nat.one_mul,Nat.mod_mod] at hk;have hlt:=Nat.mod_lt k ho0
  by_cases hz : k % o = 0
  ·exact Nat.dvd_of_mod_eq_zero hz
  ·exact absurd ⟨by omega,hk⟩ (hmin (k % o) hlt)
 obtain ⟨m,hm⟩:=hdiv (n - 1) hg;have hm1 : m = 1:=by
  by_cases h : m = 1
  ·exact h
  ·exfalso;have hm0 : m ≠ 0:=fun e => by subst e; omega
   obtain ⟨q,hq1,c,hc⟩:=wY l m (by rw [hl,hm]; exact Nat.dvd_mul_left _ _) (by omega) hp;have hq0 : 0 < q:=Nat.lt_of_lt_of_le (by omega) (Nat.le_of_lt (hp q hq1).1);refine hq q hq1 ?_;have : (n - 1) / q = o * c:=by
    rw [hm,hc,← Nat.mul_assoc,Nat.mul_comm o q,Nat.mul_assoc,Nat.mul_div_cancel_left _ hq0]
   rw [this,sA h1 ho]
 subst hm1;intro k hk0 hk hk1;have:=Nat.le_of_dvd hk0 (hdiv k hk1);omega
theorem aAj : ∀ (n : Nat) (f : Nat → Nat),(∀ i,i < n → f i < n) → (∀ i j,i < n → j < n → f i = f j → i = j) → ∀ y,y < n → ∃ i,i < n ∧ f i = y:=by
 intro n
 induction n with
 | zero => intro f _ _ y hy; omega
 | succ n ih =>
  intro f hf hi y hy
  by_cases hn : f n = n
  ·by_cases hyn : y = n
   ·exact ⟨n,by omega,by omega⟩
   ·have hf' : ∀ i,i < n → f i < n:=fun i h => by
     have:=hf i (by omega);have hne : f i ≠ n:=fun e => by have:=hi i n (by omega) (by omega) (by omega); omega
     omega
    obtain ⟨i,h1,h2⟩:=ih f hf' (fun i j h h' => hi i j (by omega) (by omega)) y (by omega);exact ⟨i,by omega,h2⟩
  ·have hfn:=hf n (by omega);have key:=ih (fun i => if f i = n then f n else f i)
    (fun i h => by
     have:=hf i (by omega);split <;> omega)
    (fun i j h h' e => by
     split at e <;> split at e
     ·exact hi i j (by omega) (by omega) (by omega)
     ·have:=hi n j (by omega) (by omega) e; omega
     ·have:=hi i n (by omega) (by omega) e; omega
     ·exact hi i j (by omega) (by omega) e)
   by_cases hyn : y = n
   ·obtain ⟨i,h1,h2⟩:=key (f n) (by omega)
    by_cases h3 : f i = n
    ·exact ⟨i,by omega,by omega⟩
    ·rw [if_neg h3] at h2;have:=hi i n (by omega) (by omega) h2;omega
   ·obtain ⟨i,h1,h2⟩:=key y (by omega)
    by_cases h3 : f i = n
    ·rw [if_pos h3] at h2; exact ⟨n,by omega,h2⟩
    ·rw [if_neg h3] at h2; exact ⟨i,by omega,h2⟩
def Root (n g : Nat) : Prop:=1 < n ∧ g ^ (n - 1) % n = 1 ∧ (∀ k,0 < k → k < n - 1 → g ^ k % n ≠ 1) ∧ ∀ a,0 < a → a < n → ∃ k,k < n - 1 ∧ g ^ k % n = a
theorem aGd {n g : Nat} (l : List Nat) (h1 : 1 < n) (hl : l.foldr (· * ·) 1 = n - 1) (hp : ∀ q,q ∈ l → dV q) (hg : g ^ (n - 1) % n = 1) (hq : ∀ q,q ∈ l → g ^ ((n - 1) / q) % n ≠ 1) : Root n g:=by
 have ho:=Ef l h1 hl hp hg hq;refine ⟨h1,hg,ho,fun a ha han => ?_⟩;have hnz : ∀ i,i ≤ n - 1 → g ^ i % n ≠ 0:=by
  intro i hi e;have : g ^ (n - 1) % n = 0:=by
   have : n - 1 = i + (n - 1 - i):=by omega
   rw [this,iM,e,Nat.zero_mul,Nat.zero_mod]
  omega
 have hdis : ∀ i j,i < n - 1 → j < n - 1 → i < j → g ^ i % n ≠ g ^ j % n:=by
  intro i j hi hj hij e;have e1 : g ^ (n - 1 - i + i) % n = 1:=by rw [show n - 1 - i + i = n - 1 by omega]; exact hg
  have e2 : g ^ (n - 1 - i + j) % n = 1:=by rw [iM,← e,← iM]; exact e1
  rw [show n - 1 - i + j = n - 1 + (j - i) by omega,iM,hg,Nat.one_mul,Nat.mod_mod] at e2;exact ho (j - i) (by omega) (by omega) e2
 obtain ⟨i,hi,he⟩:=aAj (n - 1) (fun i => g ^ i % n - 1)
  (fun i h => by
   have:=Nat.mod_lt (g ^ i) (show 0 < n by omega);have:=hnz i (by omega);omega)
  (fun i j h h' e => by
   have a1:=hnz i (by omega);have a2:=hnz j (by omega);have e' : g ^ i % n = g ^ j % n:=by omega
   rcases Nat.lt_trichotomy i j with q | q | q
   ·exact absurd e' (hdis i j h h' q)
   ·exact q
   ·exact absurd e'.symm (hdis j i h' h q))
  (a - 1) (by omega)
 refine ⟨i,hi,?_⟩;have:=hnz i (by omega);omega
theorem Root.prm {n g : Nat} (h : Root n g) : dV n:=by
 obtain ⟨h1,hg,_,hs⟩:=h;refine ⟨h1,fun m hm => ?_⟩
 by_cases h2 : m = n
 ·exact Or.inr h2
 ·left;have hm0 : m ≠ 0:=fun e => by subst e; have:=Nat.eq_zero_of_zero_dvd hm; omega
  have hle:=Nat.le_of_dvd (by omega) hm;obtain ⟨k,hk,e⟩:=hs m (by omega) (by omega);have e1 : g ^ (k + (n - 1 - k)) % n = 1:=by rw [show k + (n - 1 - k) = n - 1 by omega]; exact hg
  rw [iM,e] at e1;have hd : m ∣ (m * (g ^ (n - 1 - k) % n)) % n:=(Nat.dvd_mod_iff hm).2 (Nat.dvd_mul_right _ _);rw [e1] at hd;exact Nat.dvd_one.1 hd
def aVg (n g : Nat) (l : List Nat) : Bool :=
 Nat.blt 1 n && (Nat.beq (l.foldr (· * ·) 1) (n - 1) && (Nat.blt n (2 ^ 255) && (Nat.beq (pm n 256 g (n - 1)) 1 && l.all fun q => !(Nat.beq (pm n 256 g ((n - 1) / q)) 1))))
theorem bA {n g : Nat} {l : List Nat} (h : aVg n g l = true) (hp : ∀ q,q ∈ l → dV q) : Root n g:=by
 unfold aVg at h;simp only [Bool.and_eq_true] at h;obtain ⟨h1,h2,h3,h4,h5⟩:=h;have h1 : 1 < n:=by unfold Nat.blt at h1; exact Nat.le_of_ble_eq_true h1
 have h3 : n < 2 ^ 255:=by
  unfold Nat.blt at h3; exact Nat.le_of_ble_eq_true h3
 have h2:=Nat.eq_of_beq_eq_true h2;have h4:=Nat.eq_of_beq_eq_true h4;have hb : ∀ e,e ≤ n - 1 → e < 2 ^ 256:=fun e he => by
  rw [Nat.pow_succ]; omega
 rw [AP n 256 g _ (hb _ (Nat.le_refl _))] at h4;refine aGd l h1 h2 hp h4 fun q hq e => ?_
 have:=List.all_eq_true.1 h5 q hq;rw [AP n 256 g _ (hb _ (Nat.div_le_self _ _)),e] at this;exact absurd this (by decide)
end Go.Proofs.YtglgakbkdjhojaaGreat
namespace Go.Proofs.YtglgakbkdjhojaaGreat.Ex
open Go.Proofs.Tryz
def cho : Nat → Nat → Nat
 | _,0 => 1
 | 0,_ + 1 => 0
 | n + 1,k + 1 => cho n k + cho n (k + 1)
theorem DJ : ∀ (n k : Nat),n < k → cho n k = 0
 | 0,k + 1,_ => rfl
 | n + 1,k + 1,h => by show cho n k + cho n (k + 1) = 0; rw [DJ n k (by omega),DJ n (k + 1) (by omega)]
 | _,0,h => by omega
theorem ZX : ∀ n,cho n n = 1
 | 0 => rfl
 | n + 1 => by show cho n n + cho n (n + 1) = 1; rw [ZX n,DJ n (n + 1) (by omega)]
theorem DI : ∀ (n k : Nat),(k + 1) * cho (n + 1) (k + 1) = (n + 1) * cho n k
 | 0,0 => rfl
 | 0,k + 1 => by show (k + 2) * (0 + 0) = 1 * 0; omega
 | n + 1,0 => by
  have:=DI n 0;show 1 * (cho (n + 1) 0 + cho (n + 1) 1) = (n + 2) * cho (n + 1) 0;have h0 : cho (n + 1) 0 = 1:=rfl;have h1 : cho n 0 = 1:=by cases n <;> rfl
  rw [h0];rw [h1] at this;have h2 : cho (n + 1) 1 = n + 1:=by simpa using this
  omega
 | n + 1,k + 1 => by
  have h1:=DI n k;have h2:=DI n (k + 1);show (k + 2) * (cho (n + 1) (k + 1) + cho (n + 1) (k + 2)) = (n + 2) * cho (n + 1) (k + 1);have h3 : (k + 2) * cho (n + 1) (k + 2) = (n + 1) * cho n (k + 1):=h2;have h4 : cho (n + 1) (k + 1) = cho n k + cho n (k + 1):=rfl;rw [Nat.mul_add,h3];have h5 : (n + 2) * cho (n + 1) (k + 1) = (n + 1) * cho (n + 1) (k + 1) + cho (n + 1) (k + 1):=by rw [show n + 2 = (n + 1) + 1 from rfl,Nat.add_mul (n + 1) 1,Nat.one_mul]
  have h6 : (n + 1) * cho (n + 1) (k + 1) = (n + 1) * cho n k + (n + 1) * cho n (k + 1):=by rw [h4,Nat.mul_add]
  have h7 : (k + 2) * cho (n + 1) (k + 1) = (k + 1) * cho (n + 1) (k + 1) + cho (n + 1) (k + 1):=by rw [show k + 2 = (k + 1) + 1 from rfl,Nat.add_mul (k + 1) 1,Nat.one_mul]
  omega
theorem Ud {q : Nat} (hq : dV q) {k : Nat} (h0 : 0 < k) (hk : k < q) : ∃ m,cho q k = q * m:=by
 obtain ⟨j,rfl⟩ : ∃ j,k = j + 1:=⟨k - 1,by omega⟩
 obtain ⟨n,rfl⟩ : ∃ n,q = n + 1:=⟨q - 1,by omega⟩
 have h:=DI n j;have hd : (n + 1) ∣ (j + 1) * cho (n + 1) (j + 1):=⟨cho n j,h⟩;have hc : Nat.Coprime (n + 1) (j + 1):=by
  rcases hq.2 (Nat.gcd (n + 1) (j + 1)) (Nat.gcd_dvd_left _ _) with e | e
  ·exact e
  ·have:=Nat.le_of_dvd h0 (Nat.gcd_dvd_right (n + 1) (j + 1));omega
 obtain ⟨m,hm⟩:=hc.dvd_of_dvd_mul_left hd;exact ⟨m,hm⟩
section
variable {R : Type} (K : CR R)
def bO (x : R) : Nat → R
 | 0 => K.one
 | n + 1 => K.mul (bO x n) x
theorem cI (x : R) (m : Nat) : ∀ n,bO K x (m + n) = K.mul (bO K x m) (bO K x n)
 | 0 => (K.mul_one _).symm
 | n + 1 => by show K.mul (bO K x (m + n)) x = K.mul _ (K.mul _ _); rw [cI x m n,K.mul_assoc]
theorem mB (x y : R) : ∀ n,bO K (K.mul x y) n = K.mul (bO K x n) (bO K y n)
 | 0 => (K.one_mul _).symm
 | n + 1 => by
  show K.mul (bO K (K.mul x y) n) (K.mul x y) = K.mul (K.mul _ _) (K.mul _ _);rw [mB x y n];exact aE K (aR K [bO K x n,bO K y n,x,y]) (.mul (.mul (.v 0) (.v 1)) (.mul (.v 2) (.v 3))) (.mul (.mul (.v 0) (.v 2)) (.mul (.v 1) (.v 3))) (by decide)
theorem dO (x : R) (m : Nat) : ∀ n,bO K x (m * n) = bO K (bO K x m) n
 | 0 => rfl
 | n + 1 => by rw [Nat.mul_add,Nat.mul_one,cI,dO x m n]; rfl
theorem nS : ∀ n,bO K K.one n = K.one
 | 0 => rfl
 | n + 1 => by show K.mul (bO K K.one n) K.one = _; rw [nS n,K.mul_one]
def iS (f : Nat → R) : Nat → R
 | 0 => K.zero
 | n + 1 => K.add (iS f n) (f n)
theorem pV (f : Nat → R) : ∀ n,iS K f (n + 1) = K.add (f 0) (iS K (fun k => f (k + 1)) n)
 | 0 => by show K.add K.zero (f 0) = K.add (f 0) K.zero; rw [K.add_comm]
 | n + 1 => by
  show K.add (iS K f (n + 1)) (f (n + 1)) = K.add (f 0) (K.add _ _);rw [pV f n,K.add_assoc]
theorem TY (f g : Nat → R) : ∀ n,iS K (fun k => K.add (f k) (g k)) n = K.add (iS K f n) (iS K g n)
 | 0 => (K.add_zero _).symm
 | n + 1 => by
  show K.add (iS K (fun k => K.add (f k) (g k)) n) (K.add (f n) (g n)) = K.add (K.add _ _) (K.add _ _);rw [TY f g n];exact aE K (aR K [iS K f n,iS K g n,f n,g n]) (.add (.add (.v 0) (.v 1)) (.add (.v 2) (.v 3))) (.add (.add (.v 0) (.v 2)) (.add (.v 1) (.v 3))) (by decide)
theorem EG (f : Nat → R) (c : R) : ∀ n,K.mul (iS K f n) c = iS K (fun k => K.mul (f k) c) n
 | 0 => K.zero_mul _
 | n + 1 => by show K.mul (K.add _ _) c = K.add _ _; rw [K.add_mul,EG f c n]
theorem mM {f g : Nat → R} : ∀ n,(∀ k,k < n → f k = g k) → iS K f n = iS K g n
 | 0,_ => rfl
 | n + 1,h => by show K.add _ _ = K.add _ _; rw [mM n (fun k hk => h k (by omega)),h n (by omega)]
theorem KN {f : Nat → R} : ∀ n,(∀ k,k < n → f k = K.zero) → iS K f n = K.zero
 | 0,_ => rfl
 | n + 1,h => by show K.add _ _ = _; rw [KN n (fun k hk => h k (by omega)),h n (by omega),K.add_zero]
theorem GD (x c : R) : ∀ n,K.mul (nt K x n) c = nt K (K.mul x c) n
 | 0 => K.zero_mul _
 | n + 1 => by show K.mul (K.add _ _) c = K.add _ _; rw [K.add_mul,GD x c n]
theorem aKf (x : R) (m : Nat) : ∀ n,nt K x (m * n) = nt K (nt K x m) n
 | 0 => rfl
 | n + 1 => by rw [Nat.mul_add,Nat.mul_one,sG,aKf x m n]; rfl
theorem aKR (x y : R) : ∀ n,bO K (K.add x y) n = iS K (fun k => nt K (K.mul (bO K x k) (bO K y (n - k))) (cho n k)) (n + 1)
 | 0 => by show K.one = K.add K.zero (K.add K.zero (K.mul K.one K.one)); rw [K.zero_add,K.zero_add,K.one_mul]
 | n + 1 => by
  show K.mul (bO K (K.add x y) n) (K.add x y) = _;rw [aKR x y n,K.mul_add,EG,EG,pV K _ (n + 1)];have e1 : iS K (fun k => K.mul (nt K (K.mul (bO K x k) (bO K y (n - k))) (cho n k)) x) (n + 1) = iS K (fun k => nt K (K.mul (bO K x (k + 1)) (bO K y (n - k))) (cho n k)) (n + 1) :=
   mM K _ fun k hk => by
    rw [GD];congr 1;exact aE K (aR K [bO K x k,bO K y (n - k),x]) (.mul (.mul (.v 0) (.v 1)) (.v 2)) (.mul (.mul (.v 0) (.v 2)) (.v 1)) (by decide)
  have e2 : iS K (fun k => K.mul (nt K (K.mul (bO K x k) (bO K y (n - k))) (cho n k)) y) (n + 1) = K.add (nt K (K.mul (bO K x 0) (bO K y (n + 1 - 0))) (cho (n + 1) 0)) (iS K (fun k => nt K (K.mul (bO K x (k + 1)) (bO K y (n - k))) (cho n (k + 1))) (n + 1)):=by
   have h1 : iS K (fun k => K.mul (nt K (K.mul (bO K x k) (bO K y (n - k))) (cho n k)) y) (n + 1) = iS K (fun k => nt K (K.mul (bO K x k) (bO K y (n + 1 - k))) (cho n k)) (n + 1) :=
    mM K _ fun k hk => by
     rw [GD,K.mul_assoc,show n + 1 - k = (n - k) + 1 by omega];rfl
   rw [h1,pV];have h2 : iS K (fun k => nt K (K.mul (bO K x (k + 1)) (bO K y (n - k))) (cho n (k + 1))) (n + 1) = iS K (fun k => nt K (K.mul (bO K x (k + 1)) (bO K y (n + 1 - (k + 1)))) (cho n (k + 1))) n:=by
    show K.add _ (nt K _ (cho n (n + 1))) = _;rw [DJ n (n + 1) (by omega)];show K.add _ K.zero = _;rw [K.add_zero];exact mM K _ fun k hk => by rw [show n + 1 - (k + 1) = n - k by omega]
   rw [h2];congr 1;cases n <;> rfl
  rw [e1,e2];have e3 : iS K (fun k => nt K (K.mul (bO K x (k + 1)) (bO K y (n + 1 - (k + 1)))) (cho (n + 1) (k + 1))) (n + 1) = K.add (iS K (fun k => nt K (K.mul (bO K x (k + 1)) (bO K y (n - k))) (cho n k)) (n + 1)) (iS K (fun k => nt K (K.mul (bO K x (k + 1)) (bO K y (n - k))) (cho n (k + 1))) (n + 1)):=by
   rw [← TY];exact mM K _ fun k hk => by
    rw [show n + 1 - (k + 1) = n - k by omega];exact sG K _ _ _
  rw [e3,← K.add_assoc,← K.add_assoc,K.add_comm (iS K _ _) (nt K _ _)]
theorem Lx {q : Nat} (hq : dV q) (hc : ∀ x,nt K x q = K.zero) (x y : R) : bO K (K.add x y) q = K.add (bO K x q) (bO K y q):=by
 rw [aKR];obtain ⟨n,rfl⟩ : ∃ n,q = n + 1:=⟨q - 1,by have:=hq.1; omega⟩
 show K.add (iS K _ (n + 1)) _ = _;rw [pV];have h0 : iS K (fun k => nt K (K.mul (bO K x (k + 1)) (bO K y (n + 1 - (k + 1)))) (cho (n + 1) (k + 1))) n = K.zero:=KN K _ fun k hk => by
  obtain ⟨m,hm⟩:=Ud hq (k:=k + 1) (by omega) (by omega);rw [hm,aKf,hc];clear hm
  induction m with
  | zero => rfl
  | succ m ih => show K.add (nt K K.zero m) K.zero = _; rw [ih,K.add_zero]
 rw [h0,K.add_zero];show K.add (nt K (K.mul (bO K x 0) (bO K y (n + 1 - 0))) (cho (n + 1) 0)) (nt K (K.mul (bO K x (n + 1)) (bO K y (n + 1 - (n + 1)))) (cho (n + 1) (n + 1))) = _;rw [ZX];have h1 : cho (n + 1) 0 = 1:=rfl;rw [h1,Nat.sub_self,Nat.sub_zero];show K.add (K.add K.zero (K.mul K.one (bO K y (n + 1)))) (K.add K.zero (K.mul (bO K x (n + 1)) K.one)) = _;rw [K.zero_add,K.zero_add,K.one_mul,K.mul_one,K.add_comm]
end
open Go.RowKit
theorem aPl : 1 < FP.M:=by decide
def F1 : CR Fq:=aXS FP.M aPl
def fm (n : Nat) : Fq:=⟨n % FP.M,Nat.mod_lt _ iG⟩
abbrev Q2:=Fq × Fq
abbrev Q6:=Q2 × Q2 × Q2
abbrev aN:=Q6 × Q6
def F2 : CR Q2:=F1.sq (F1.neg F1.one)
def dC : Q2:=(fm 9,fm 1)
def F6 : CR Q6:=F2.cu dC
def vE : Q6:=(F2.zero,F2.one,F2.zero)
def aD : CR aN:=F6.sq vE
def e1 (x : Fq) : List At:=[.f x]
def e2 (x : Q2) : List At:=[.f x.1,.f x.2]
def e6 (x : Q6) : List At:=[.f x.1.1,.f x.1.2,.f x.2.1.1,.f x.2.1.2,.f x.2.2.1,.f x.2.2.2]
def aL (x : aN) : List At:=[.f x.1.1.1,.f x.1.1.2,.f x.1.2.1.1,.f x.1.2.1.2,.f x.1.2.2.1,.f x.1.2.2.2,.f x.2.1.1,.f x.2.1.2,.f x.2.2.1.1,.f x.2.2.1.2,.f x.2.2.2.1,.f x.2.2.2.2]
def Iv : List At → Option Fq | [.f a] => some a | _ => none
def JW : List At → Option Q2 | [.f a,.f b] => some (a,b) | _ => none
def Se : List At → Option Q6 | [.f a,.f b,.f c,.f d,.f e,.f f] => some ((a,b),(c,d),(e,f)) | _ => none
def oC : List At → Option aN | [.f a,.f b,.f c,.f d,.f e,.f f,.f g,.f h,.f i,.f j,.f k,.f l] => some (((a,b),(c,d),(e,f)),((g,h),(i,j),(k,l))) | _ => none
abbrev N2:=Nat × Nat
abbrev N6:=N2 × N2 × N2
abbrev gB:=N6 × N6
def q1 (x : Nat) : List At:=[.q x]
def q2 (x : N2) : List At:=[.q x.1,.q x.2]
def q6 (x : N6) : List At:=[.q x.1.1,.q x.1.2,.q x.2.1.1,.q x.2.1.2,.q x.2.2.1,.q x.2.2.2]
def fC (x : gB) : List At:=[.q x.1.1.1,.q x.1.1.2,.q x.1.2.1.1,.q x.1.2.1.2,.q x.1.2.2.1,.q x.1.2.2.2,.q x.2.1.1,.q x.2.1.2,.q x.2.2.1.1,.q x.2.2.1.2,.q x.2.2.2.1,.q x.2.2.2.2]
def YH : At → Option Nat
 | .f x => some x.1
 | .q x => some x
 | .c _ => none
def Er : List At → Option (List Nat)
 | [] => some []
 | a :: r => match YH a,Er r with | some x,some l => some (x :: l) | _,_ => none
def ON (l : List At) : Option Nat:=match Er l with | some [a] => some a | _ => none
def rq2 (l : List At) : Option N2:=match Er l with | some [a,b] => some (a,b) | _ => none
def rq6 (l : List At) : Option N6:=match Er l with | some [a,b,c,d,e,f] => some ((a,b),(c,d),(e,f)) | _ => none
def ER (l : List At) : Option gB:=match Er l with | some [a,b,c,d,e,f,g,h,i,j,k,l] => some (((a,b),(c,d),(e,f)),((g,h),(i,j),(k,l))) | _ => none
def wv (x : Nat) : Nat:=aF (fw x 0) (fw x 1) (fw x 2) (fw x 3)
def m1 (x : Nat) : Fq:=fm (wv x)
def m2 (x : N2) : Q2:=(m1 x.1,m1 x.2)
def m6 (x : N6) : Q6:=(m2 x.1,m2 x.2.1,m2 x.2.2)
def eD (x : gB) : aN:=(m6 x.1,m6 x.2)
def Rd {α : Type} (rd : List At → Option α) (en : α → List At) : Prop:=∀ l x,rd l = some x → aA l = aA (en x)
theorem lG : Rd Iv e1:=fun l x h => by unfold Iv at h; split at h <;> cases h; rfl
theorem fJ : Rd JW e2:=fun l x h => by unfold JW at h; split at h <;> cases h; rfl
theorem mT : Rd Se e6:=fun l x h => by unfold Se at h; split at h <;> cases h; rfl
theorem dG : Rd oC aL:=fun l x h => by unfold oC at h; split at h <;> cases h; rfl
theorem xJ : ∀ {l : List At} {m : List Nat},Er l = some m → aA l = aA (m.map .q)
 | [],m,h => by cases h; rfl
 | a :: r,m,h => by
  unfold Er at h;split at h
  ·rename_i x l' h1 h2;cases h;show a.cells ++ aA r = w4 x ++ aA (l'.map .q);rw [xJ h2];cases a <;> cases h1 <;> rfl
  ·cases h
theorem gD : Rd ON q1:=fun l x h => by
 unfold ON at h;split at h
 ·rename_i hn; cases h; rw [xJ hn]; rfl
 ·cases h
theorem rV : Rd rq2 q2:=fun l x h => by
 unfold rq2 at h;split at h
 ·rename_i hn; cases h; rw [xJ hn]; rfl
 ·cases h
theorem aMJ : Rd rq6 q6:=fun l x h => by
 unfold rq6 at h;split at h
 ·rename_i hn; cases h; rw [xJ hn]; rfl
 ·cases h
theorem mA : Rd ER fC:=fun l x h => by
 unfold ER at h;split at h
 ·rename_i hn; cases h; rw [xJ hn]; rfl
 ·cases h
abbrev lO:=List CA → Option (List Prop × RV)
def g0 (r : RV) : lO
 | [] => some ([],r)
 | _ => none
def g1 {α : Type} (rd : List At → Option α) (op : α → List Prop × RV) : lO
 | [.v (.fl l)] => match rd l with | some x => some (op x) | none => none
 | _ => none
def g2 {α γ : Type} (rd : List At → Option α) (rd' : List At → Option γ) (op : α → γ → List Prop × RV) : lO
 | [.v (.fl l),.v (.fl m)] => match rd l,rd' m with | some x,some y => some (op x y) | _,_ => none
 | _ => none
def Good (P : Program) (f : FuncId) (r : RV) (args : List Value) (w : World) : Prop:=Calls P f args.toArray w (fun e w' => e = .returned r.den ∧ Below w.heap.size w w')
theorem jJ {P : Program} {f : FuncId} {r : RV} (h : ∀ w,Good P f r [] w) : ∀ cs pre r',g0 r cs = some (pre,r') → aY pre → ∀ (args : List Value) (w : World),bR w cs args → Good P f r' args w:=by
 intro cs pre r' hg hp args w ha;unfold g0 at hg;split at hg
 ·cases hg;cases args with
  | nil => exact h w
  | cons _ _ => exact ha.elim
 ·cases hg
theorem bC {P : Program} {f : FuncId} {α : Type} {rd : List At → Option α} {en : α → List At} (hr : Rd rd en) {op : α → List Prop × RV} (h : ∀ x,aY (op x).1 → ∀ args w,bR w [.v (.fl (en x))] args → Good P f (op x).2 args w) :
  ∀ cs pre r,g1 rd op cs = some (pre,r) → aY pre → ∀ (args : List Value) (w : World),bR w cs args → Good P f r args w:=by
 intro cs pre r hg hp args w ha;unfold g1 at hg;split at hg
 ·rename_i l;split at hg
  ·rename_i x hx;have e : op x = (pre,r):=by simpa using hg
   have:=h x (by rw [e]; exact hp) args w (by
    cases args with
    | nil => exact ha.elim
    | cons v vs =>
     refine ⟨?_,ha.2⟩;show v = .agg (aA (en x)).toArray;rw [← hr l x hx];exact ha.1)
   rw [e] at this;exact this
  ·cases hg
 ·cases hg
theorem fB {P : Program} {f : FuncId} {α γ : Type} {rd : List At → Option α} {en : α → List At} {rd' : List At → Option γ} {en' : γ → List At} (hr : Rd rd en) (hr' : Rd rd' en') {op : α → γ → List Prop × RV}
  (h : ∀ x y,aY (op x y).1 → ∀ args w,bR w [.v (.fl (en x)),.v (.fl (en' y))] args → Good P f (op x y).2 args w) :
  ∀ cs pre r,g2 rd rd' op cs = some (pre,r) → aY pre → ∀ (args : List Value) (w : World),bR w cs args → Good P f r args w:=by
 intro cs pre r hg hp args w ha;unfold g2 at hg;split at hg
 ·rename_i l m;split at hg
  ·rename_i x y hx hy;have e : op x y = (pre,r):=by simpa using hg
   have:=h x y (by rw [e]; exact hp) args w (by
    cases args with
    | nil => exact ha.elim
    | cons v vs =>
     cases vs with
     | nil => exact ha.2.elim
     | cons u us =>
      refine ⟨?_,?_,ha.2.2⟩
      ·show v = .agg (aA (en x)).toArray;rw [← hr l x hx];exact ha.1
      ·show u = .agg (aA (en' y)).toArray;rw [← hr' m y hy];exact ha.2.1)
   rw [e] at this;exact this
  ·cases hg
 ·cases hg
theorem aG : prog.follows .mixedOrders = true:=by kernel_rfl
def qN : EqT:={ q:=fun _ => none,n:=fun _ => none }
theorem aM {P : Program} : EqOk P qN:=⟨⟨(fun t n h => by cases h),(fun t n h => by cases h)⟩,rfl⟩
def Tx : Fq → List Fq → List Fq → Fq
 | a,x :: r,y :: s => Tx (F1.add a (F1.mul x y)) r s
 | a,_,_ => a
def qQ : List Fq → List Fq → Fq
 | x :: r,y :: s => Tx (F1.mul x y) r s
 | _,_ => F1.zero
def XP : Nat → List At → Option (List Fq)
 | 0,_ => some []
 | n + 1,.f a :: r => match XP n r with | some l => some (a :: l) | none => none
 | _,_ => none
def aCq : lO
 | [.s l n m,.s l' n' m'] => bif Nat.beq n n' && Nat.ble n 6 then (match XP n l,XP n' l' with
  | some x,some y => some ([],.one (.fl (e1 (qQ x y))))
  | _,_ => none) else none
 | _ => none
def gOf : lO
 | [.v (.im (.int .u64 (.ofNat n)))] => bif Nat.blt n 18446744073709551616 then some ([],.one (.fl (e1 (fm n)))) else none
 | _ => none
theorem Mc : ∃ f : Fq → Fq,∀ x,(f x).1 = 1 * (x.1 ^ (FP.M - 2) % FP.M) :=
 ⟨fun x => ⟨1 * (x.1 ^ (FP.M - 2) % FP.M),by rw [Nat.one_mul]; exact Nat.mod_lt _ iG⟩,fun _ => rfl⟩
def cO : Fq → Fq:=Classical.choose Mc
theorem ZF (x : Fq) : (cO x).1 = 1 * (x.1 ^ (FP.M - 2) % FP.M):=Classical.choose_spec Mc x
def aOX (c : Bool) : lO
 | [.v (.im (.int .i64 (.ofNat 1))),.v (.fl l)] => match Iv l with
  | some x => bif c then some ([x ≠ F1.zero],.many [.fl (e1 (cO x)),.im (.int .i64 0)]) else some ([x = F1.zero],.many [.fl (e1 F1.zero),.im (.int .i64 22)])
  | none => none
 | _ => none
def oR (c : Bool) : Tab:=(((((((T0.add 222 (g2 Iv Iv fun x y => ([],.one (.fl (e1 (F1.add x y)))))).add 221 (g2 Iv Iv fun x y => ([],.one (.fl (e1 (F1.sub x y)))))).add 225 (g2 Iv Iv fun x y => ([],.one (.fl (e1 (F1.mul x y)))))).add
 223 (g1 Iv fun x => ([],.one (.fl (e1 (F1.neg x)))))).add 220 (g1 ON fun x => ([],.one (.fl (e1 (m1 x)))))).add 224 aCq).add 97 gOf).add 256 (aOX c)
theorem aTB (c : Bool) (hB : TabOk prog (oR c)) : TabOk prog (oR c):=hB
def aJ (x : Q2) : Q2:=(x.1,F1.neg x.2)
def pQ (x : Q2) (k : Fq) : Q2:=(F1.mul x.1 k,F1.mul x.2 k)
def rL (x : Q2) : Fq:=F1.add (F1.mul x.1 x.1) (F1.mul x.2 x.2)
def dT (x : Q2) : Q2:=pQ (aJ x) (cO (rL x))
theorem Br (c : Bool) (x : Q2) (y : Q2) : bH prog (oR c) qN (fun _ => true) f180 40 [.v (.fl (e2 x)),.v (.fl (e2 y))] = some ([],.one (.fl (e2 (F2.add x y)))):=by kernel_rfl
def IN (c : Bool) : Tab:=(oR c).add 180 (g2 JW JW (fun x y => ([],.one (.fl (e2 (F2.add x y))))))
theorem LD (c : Bool) (hB : TabOk prog (oR c)) : TabOk prog (IN c):=(aTB c hB).ad func180 (fB fJ fJ fun x y hp args w ha => aH aG (aTB c hB) aM func180 (Br c x y) hp ha)
theorem US (c : Bool) (x : Q2) (y : Q2) : bH prog (IN c) qN (fun _ => true) f181 40 [.v (.fl (e2 x)),.v (.fl (e2 y))] = some ([],.one (.fl (e2 (F2.sub x y)))):=by kernel_rfl
def AH (c : Bool) : Tab:=(IN c).add 181 (g2 JW JW (fun x y => ([],.one (.fl (e2 (F2.sub x y))))))
theorem FT (c : Bool) (hB : TabOk prog (oR c)) : TabOk prog (AH c):=(LD c hB).ad func181 (fB fJ fJ fun x y hp args w ha => aH aG (LD c hB) aM func181 (US c x y) hp ha)
theorem Bu (c : Bool) (x : Q2) : bH prog (AH c) qN (fun _ => true) f186 40 [.v (.fl (e2 x))] = some ([],.one (.fl (e2 (aJ x)))):=by kernel_rfl
def IP (c : Bool) : Tab:=(AH c).add 186 (g1 JW (fun x => ([],.one (.fl (e2 (aJ x))))))
theorem LE (c : Bool) (hB : TabOk prog (oR c)) : TabOk prog (IP c):=(FT c hB).ad func186 (bC fJ fun x hp args w ha => aH aG (FT c hB) aM func186 (Bu c x) hp ha)
theorem OI (c : Bool) (x : Q2) (y : Fq) : bH prog (IP c) qN (fun _ => true) f184 40 [.v (.fl (e2 x)),.v (.fl (e1 y))] = some ([],.one (.fl (e2 (pQ x y)))):=by kernel_rfl
def vT (c : Bool) : Tab:=(IP c).add 184 (g2 JW Iv (fun x y => ([],.one (.fl (e2 (pQ x y))))))
theorem AQ (c : Bool) (hB : TabOk prog (oR c)) : TabOk prog (vT c):=(LE c hB).ad func184 (fB fJ lG fun x y hp args w ha => aH aG (LE c hB) aM func184 (OI c x y) hp ha)
theorem Xh (c : Bool) (x : Q2) : bH prog (vT c) qN (fun _ => true) f178 40 [.v (.fl (e2 x))] = some ([],.one (.fl (e2 ((F1.sub (F1.mul x.1 (fm 9)) x.2,F1.add (F1.mul x.2 (fm 9)) x.1))))):=by kernel_rfl
theorem Yx (x : Q2) : F2.mul x dC = (F1.sub (F1.mul x.1 (fm 9)) x.2,F1.add (F1.mul x.2 (fm 9)) x.1):=by
 have h1 : fm 1 = F1.one:=by decide
 show (F1.add (F1.mul x.1 (fm 9)) (F1.mul (F1.neg F1.one) (F1.mul x.2 (fm 1))),F1.add (F1.mul x.1 (fm 1)) (F1.mul x.2 (fm 9))) = _;rw [h1,F1.mul_one,F1.mul_one,F1.neg_mul,F1.one_mul,F1.add_comm x.1];rfl
def Gs (c : Bool) : Tab:=(vT c).add 178 (g1 JW (fun x => ([],.one (.fl (e2 (F2.mul x dC))))))
theorem Jq (c : Bool) (hB : TabOk prog (oR c)) : TabOk prog (Gs c):=(AQ c hB).ad func178 (bC fJ fun x hp args w ha => by show Good _ _ (.one (.fl (e2 (F2.mul x dC)))) _ _; rw [Yx x]; exact aH aG (AQ c hB) aM func178 (Xh c x) hp ha)
theorem Xv (c : Bool)  : bH prog (Gs c) qN (fun _ => true) f219 40 [] = some ([],.one (.fl (e2 (F2.one)))):=by kernel_rfl
def Hc (c : Bool) : Tab:=(Gs c).add 219 (g0 (.one (.fl (e2 (F2.one)))))
theorem Ka (c : Bool) (hB : TabOk prog (oR c)) : TabOk prog (Hc c):=(Jq c hB).ad func219 (jJ fun w => aH aG (Jq c hB) aM func219 (Xv c ) trivial (args:=[]) trivial)
theorem Bs (c : Bool) (x : Q2) : bH prog (Hc c) qN (fun _ => true) f257 40 [.v (.fl (e2 x))] = some ([],.one (.fl (e1 (rL x)))):=by kernel_rfl
def yB (c : Bool) : Tab:=(Hc c).add 257 (g1 JW (fun x => ([],.one (.fl (e1 (rL x))))))
theorem zC (c : Bool) (hB : TabOk prog (oR c)) : TabOk prog (yB c):=(Ka c hB).ad func257 (bC fJ fun x hp args w ha => aH aG (Ka c hB) aM func257 (Bs c x) hp ha)
theorem Pp (x : Q2) : bH prog (yB true) qN (fun _ => true) f246 40 [.v (.fl (e2 x))] = some ([rL x ≠ F1.zero],.many [.fl (e2 (dT x)),.im (.int .i64 0)]):=by kernel_rfl
theorem Bt (x : Q2) : bH prog (yB false) qN (fun _ => true) f246 40 [.v (.fl (e2 x))] = some ([rL x = F1.zero],.many [.fl (e2 F2.zero),.im (.int .i64 22)]):=by kernel_rfl
def aBf (c : Bool) (x : Q2) : List Prop × RV:=bif c then ([rL x ≠ F1.zero],.many [.fl (e2 (dT x)),.im (.int .i64 0)]) else ([rL x = F1.zero],.many [.fl (e2 F2.zero),.im (.int .i64 22)])
theorem aHN (c : Bool) (hB : TabOk prog (oR c)) (x : Q2) (hp : aY (aBf c x).1) (args : List Value) (w : World) (ha : bR w [.v (.fl (e2 x))] args) : Good prog 246 (aBf c x).2 args w:=by
 cases c
 ·exact aH aG (zC false hB) aM func246 (Bt x) hp ha
 ·exact aH aG (zC true hB) aM func246 (Pp x) hp ha
def yC (c : Bool) : Tab:=(yB c).add 246 (g1 JW (aBf c))
theorem xG (c : Bool) (hB : TabOk prog (oR c)) : TabOk prog (yC c):=(zC c hB).ad func246 (bC fJ (aHN c hB))
def Oa : Nat → List At → Option (List Q2)
 | 0,[] => some []
 | n + 1,.f a :: .f b :: r => match Oa n r with | some l => some ((a,b) :: l) | none => none
 | _,_ => none
def e2s : List Q2 → List At
 | [] => []
 | x :: r => .f x.1 :: .f x.2 :: e2s r
theorem NI : ∀ {n : Nat} {l : List At} {x : List Q2},Oa n l = some x → l = e2s x ∧ x.length = n
 | 0,[],x,h => by cases h; exact ⟨rfl,rfl⟩
 | n + 1,.f a :: .f b :: r,x,h => by
  unfold Oa at h;split at h
  ·rename_i l hl;cases h;obtain ⟨h1,h2⟩:=NI hl;exact ⟨by rw [h1]; rfl,by rw [List.length_cons,h2]⟩
  ·cases h
 | 0,_ :: _,x,h => by cases h
 | n + 1,[],x,h => by cases h
 | n + 1,[_],x,h => by unfold Oa at h; split at h <;> first | (cases h; done) | (rename_i heq; cases heq)
 | n + 1,.q _ :: _ :: _,x,h => by cases h
 | n + 1,.c _ :: _ :: _,x,h => by cases h
 | n + 1,.f _ :: .q _ :: _,x,h => by cases h
 | n + 1,.f _ :: .c _ :: _,x,h => by cases h
def KF : List Q2 → List Q2 → Q2
 | [x],[y] => F2.mul x y
 | [x,y],[z,t] => F2.add (F2.mul x z) (F2.mul y t)
 | [x,y,z],[s,t,u] => F2.add (F2.add (F2.mul x s) (F2.mul y t)) (F2.mul z u)
 | _,_ => F2.zero
def aOK : lO
 | [.s l n m,.s l' n' m'] => bif Nat.beq n n' && (Nat.ble n 3 && Nat.ble 1 n) then (match Oa n l,Oa n' l' with
  | some x,some y => some ([],.one (.fl (e2 (KF x y))))
  | _,_ => none) else none
 | _ => none
def sl2 : List Q2 → List Fq
 | [] => []
 | x :: r => x.1 :: F1.neg x.2 :: sl2 r
def cr2 : List Q2 → List Fq
 | [] => []
 | x :: r => x.2 :: x.1 :: cr2 r
def Ox : List Q2 → List Fq
 | [] => []
 | x :: r => x.1 :: x.2 :: Ox r
theorem Xk (c : Bool) (x s : Q2) (m m' : Nat) : bH prog (yC c) qN (fun _ => true) f179 40 [.s (e2s [x]) 1 m,.s (e2s [s]) 1 m'] = some ([],.one (.fl (e2 (qQ (sl2 [x]) (Ox [s]),qQ (cr2 [x]) (Ox [s]))))):=by kernel_rfl
theorem Xj (c : Bool) (x y s t : Q2) (m m' : Nat) : bH prog (yC c) qN (fun _ => true) f179 40 [.s (e2s [x,y]) 2 m,.s (e2s [s,t]) 2 m'] = some ([],.one (.fl (e2 (qQ (sl2 [x,y]) (Ox [s,t]),qQ (cr2 [x,y]) (Ox [s,t]))))):=by kernel_rfl
theorem Xi (c : Bool) (x y z s t u : Q2) (m m' : Nat) : bH prog (yC c) qN (fun _ => true) f179 40 [.s (e2s [x,y,z]) 3 m,.s (e2s [s,t,u]) 3 m'] = some ([],.one (.fl (e2 (qQ (sl2 [x,y,z]) (Ox [s,t,u]),qQ (cr2 [x,y,z]) (Ox [s,t,u]))))):=by kernel_rfl
theorem zI (x s : Q2) : (F2.mul x s).1 = F1.add (F1.mul x.1 s.1) (F1.mul (F1.neg x.2) s.2):=by
 show F1.add (F1.mul x.1 s.1) (F1.mul (F1.neg F1.one) (F1.mul x.2 s.2)) = _;rw [F1.neg_mul,F1.one_mul,F1.neg_mul]
theorem zH (x s : Q2) : (F2.mul x s).2 = F1.add (F1.mul x.2 s.1) (F1.mul x.1 s.2):=F1.add_comm _ _
theorem Za (x s : Q2) : KF [x] [s] = (qQ (sl2 [x]) (Ox [s]),qQ (cr2 [x]) (Ox [s])):=Prod.ext (zI x s) (zH x s)
theorem Yz (x y s t : Q2) : KF [x,y] [s,t] = (qQ (sl2 [x,y]) (Ox [s,t]),qQ (cr2 [x,y]) (Ox [s,t])):=by
 refine Prod.ext ?_ ?_
 ·show F1.add (F2.mul x s).1 (F2.mul y t).1 = F1.add (F1.add (F1.add (F1.mul x.1 s.1) (F1.mul (F1.neg x.2) s.2)) (F1.mul y.1 t.1)) (F1.mul (F1.neg y.2) t.2);rw [zI,zI]; simp only [F1.add_assoc]
 ·show F1.add (F2.mul x s).2 (F2.mul y t).2 = F1.add (F1.add (F1.add (F1.mul x.2 s.1) (F1.mul x.1 s.2)) (F1.mul y.2 t.1)) (F1.mul y.1 t.2);rw [zH,zH]; simp only [F1.add_assoc]
theorem Yy (x y z s t u : Q2) : KF [x,y,z] [s,t,u] = (qQ (sl2 [x,y,z]) (Ox [s,t,u]),qQ (cr2 [x,y,z]) (Ox [s,t,u])):=by
 refine Prod.ext ?_ ?_
 ·show F1.add (F1.add (F2.mul x s).1 (F2.mul y t).1) (F2.mul z u).1 = F1.add (F1.add (F1.add (F1.add (F1.add (F1.mul x.1 s.1) (F1.mul (F1.neg x.2) s.2)) (F1.mul y.1 t.1)) (F1.mul (F1.neg y.2) t.2)) (F1.mul z.1 u.1)) (F1.mul (F1.neg z.2) u.2);rw [zI,zI,zI]; simp only [F1.add_assoc]
 ·show F1.add (F1.add (F2.mul x s).2 (F2.mul y t).2) (F2.mul z u).2 = F1.add (F1.add (F1.add (F1.add (F1.add (F1.mul x.2 s.1) (F1.mul x.1 s.2)) (F1.mul y.2 t.1)) (F1.mul y.1 t.2)) (F1.mul z.2 u.1)) (F1.mul z.1 u.2);rw [zH,zH,zH]; simp only [F1.add_assoc]
theorem aMd (c : Bool) (hB : TabOk prog (oR c)) : ∀ cs pre r,aOK cs = some (pre,r) → aY pre → ∀ (args : List Value) (w : World),bR w cs args → Good prog 179 r args w:=by
 intro cs pre r hg hp args w ha;unfold aOK at hg;split at hg
 ·rename_i l n m l' n' m';cases hb : (Nat.beq n n' && (Nat.ble n 3 && Nat.ble 1 n)) <;> rw [hb] at hg
  ·cases hg
  ·simp only [cond_true] at hg;split at hg
   ·rename_i x y hx hy;cases hg;obtain ⟨e1,e2⟩:=NI hx;obtain ⟨e3,e4⟩:=NI hy;subst e1; subst e3;simp only [Bool.and_eq_true] at hb;have hn:=Nat.eq_of_beq_eq_true hb.1;have h3:=Nat.le_of_ble_eq_true hb.2.1;have h1:=Nat.le_of_ble_eq_true hb.2.2;subst hn
    match x,y,n,e2,e4,h3,h1 with
    | [x],[s],1,_,_,_,_ =>
     rw [Za];exact aH aG (xG c hB) aM func179 (Xk c x s m m') trivial ha
    | [x,y],[s,t],2,_,_,_,_ =>
     rw [Yz];exact aH aG (xG c hB) aM func179 (Xj c x y s t m m') trivial ha
    | [x,y,z],[s,t,u],3,_,_,_,_ =>
     rw [Yy];exact aH aG (xG c hB) aM func179 (Xi c x y z s t u m m') trivial ha
    | [],_,_,e2,_,_,h1 => exact absurd h1 (by rw [← e2]; decide)
    | _ :: _ :: _ :: _ :: l,_,_,e2,_,h3,_ => exact absurd h3 (by rw [← e2]; simp)
    | [_],[],_,e2,e4,_,_ => rw [← e2] at e4; cases e4
    | [_],_ :: _ :: _,_,e2,e4,_,_ => rw [← e2] at e4; simp at e4
    | [_,_],[],_,e2,e4,_,_ => rw [← e2] at e4; cases e4
    | [_,_],[_],_,e2,e4,_,_ => rw [← e2] at e4; cases e4
    | [_,_],_ :: _ :: _ :: _,_,e2,e4,_,_ => rw [← e2] at e4; simp at e4
    | [_,_,_],[],_,e2,e4,_,_ => rw [← e2] at e4; cases e4
    | [_,_,_],[_],_,e2,e4,_,_ => rw [← e2] at e4; cases e4
    | [_,_,_],[_,_],_,e2,e4,_,_ => rw [← e2] at e4; cases e4
    | [_,_,_],_ :: _ :: _ :: _ :: _,_,e2,e4,_,_ => rw [← e2] at e4; simp at e4
   ·cases hg
 ·cases hg
def Gt (c : Bool) : Tab:=(yC c).add 179 aOK
theorem Jr (c : Bool) (hB : TabOk prog (oR c)) : TabOk prog (Gt c):=(xG c hB).ad func179 (aMd c hB)
theorem UR (c : Bool) (x : Q2) (y : Q2) : bH prog (Gt c) qN (fun _ => true) f187 40 [.v (.fl (e2 x)),.v (.fl (e2 y))] = some ([],.one (.fl (e2 (F2.mul x y)))):=by kernel_rfl
def AF (c : Bool) : Tab:=(Gt c).add 187 (g2 JW JW (fun x y => ([],.one (.fl (e2 (F2.mul x y))))))
theorem FQ (c : Bool) (hB : TabOk prog (oR c)) : TabOk prog (AF c):=(Jr c hB).ad func187 (fB fJ fJ fun x y hp args w ha => aH aG (Jr c hB) aM func187 (UR c x y) hp ha)
theorem Qc (c : Bool) (x : N2) : bH prog (AF c) qN (fun _ => true) f177 40 [.v (.fl (q2 x))] = some ([],.one (.fl (e2 (m2 x)))):=by kernel_rfl
def SJ (c : Bool) : Tab:=(AF c).add 177 (g1 rq2 (fun x => ([],.one (.fl (e2 (m2 x))))))
theorem XY (c : Bool) (hB : TabOk prog (oR c)) : TabOk prog (SJ c):=(FQ c hB).ad func177 (bC rV fun x hp args w ha => aH aG (FQ c hB) aM func177 (Qc c x) hp ha)
def nO (x : Q6) : Q6:=(F2.sub (F2.mul x.1 x.1) (F2.mul (F2.mul x.2.1 x.2.2) dC),F2.sub (F2.mul (F2.mul x.2.2 x.2.2) dC) (F2.mul x.1 x.2.1),F2.sub (F2.mul x.2.1 x.2.1) (F2.mul x.1 x.2.2))
def n6 (x : Q6) : Q2:=(F6.mul x (nO x)).1
def s6 (x : Q6) (k : Q2) : Q6:=(F2.mul x.1 k,F2.mul x.2.1 k,F2.mul x.2.2 k)
def iv6 (x : Q6) : Q6:=s6 (nO x) (dT (n6 x))
theorem Bq (c : Bool) (x : Q6) (y : Q6) : bH prog (SJ c) qN (fun _ => true) f127 40 [.v (.fl (e6 x)),.v (.fl (e6 y))] = some ([],.one (.fl (e6 (F6.add x y)))):=by kernel_rfl
def IM (c : Bool) : Tab:=(SJ c).add 127 (g2 Se Se (fun x y => ([],.one (.fl (e6 (F6.add x y))))))
theorem LC (c : Bool) (hB : TabOk prog (oR c)) : TabOk prog (IM c):=(XY c hB).ad func127 (fB mT mT fun x y hp args w ha => aH aG (XY c hB) aM func127 (Bq c x y) hp ha)
theorem UQ (c : Bool) (x : Q6) (y : Q6) : bH prog (IM c) qN (fun _ => true) f129 40 [.v (.fl (e6 x)),.v (.fl (e6 y))] = some ([],.one (.fl (e6 (F6.sub x y)))):=by kernel_rfl
def AE (c : Bool) : Tab:=(IM c).add 129 (g2 Se Se (fun x y => ([],.one (.fl (e6 (F6.sub x y))))))
theorem FO (c : Bool) (hB : TabOk prog (oR c)) : TabOk prog (AE c):=(LC c hB).ad func129 (fB mT mT fun x y hp args w ha => aH aG (LC c hB) aM func129 (UQ c x y) hp ha)
theorem aFB (c : Bool) (x : Q6) : bH prog (AE c) qN (fun _ => true) f128 40 [.v (.fl (e6 x))] = some ([],.one (.fl (e6 ((F2.mul x.2.2 dC,x.1,x.2.1))))):=by kernel_rfl
theorem CL (x : Q6) : F6.mul vE x = (F2.mul x.2.2 dC,x.1,x.2.1):=by
 show (F2.add (F2.mul F2.zero x.1) (F2.mul dC (F2.add (F2.mul F2.one x.2.2) (F2.mul F2.zero x.2.1))),F2.add (F2.add (F2.mul F2.zero x.2.1) (F2.mul F2.one x.1)) (F2.mul dC (F2.mul F2.zero x.2.2)),F2.add (F2.add (F2.mul F2.zero x.2.2) (F2.mul F2.one x.2.1)) (F2.mul F2.zero x.1)) = _;simp only [F2.zero_mul,F2.one_mul,F2.zero_add,F2.add_zero,F2.mul_zero,F2.mul_comm dC]
def aEk (c : Bool) : Tab:=(AE c).add 128 (g1 Se (fun x => ([],.one (.fl (e6 (F6.mul vE x))))))
theorem aAI (c : Bool) (hB : TabOk prog (oR c)) : TabOk prog (aEk c):=(FO c hB).ad func128 (bC mT fun x hp args w ha => by show Good _ _ (.one (.fl (e6 (F6.mul vE x)))) _ _; rw [CL x]; exact aH aG (FO c hB) aM func128 (aFB c x) hp ha)
theorem Po (c : Bool) (x : Q6) : bH prog (aEk c) qN (fun _ => true) f130 40 [.v (.fl (e6 x))] = some ([],.one (.fl (e6 (x)))):=by kernel_rfl
def SC (c : Bool) : Tab:=(aEk c).add 130 (g1 Se (fun x => ([],.one (.fl (e6 (x))))))
theorem XU (c : Bool) (hB : TabOk prog (oR c)) : TabOk prog (SC c):=(aAI c hB).ad func130 (bC mT fun x hp args w ha => aH aG (aAI c hB) aM func130 (Po c x) hp ha)
theorem Xu (c : Bool)  : bH prog (SC c) qN (fun _ => true) f176 40 [] = some ([],.one (.fl (e6 (F6.one)))):=by kernel_rfl
def Hb (c : Bool) : Tab:=(SC c).add 176 (g0 (.one (.fl (e6 (F6.one)))))
theorem Jz (c : Bool) (hB : TabOk prog (oR c)) : TabOk prog (Hb c):=(XU c hB).ad func176 (jJ fun w => aH aG (XU c hB) aM func176 (Xu c ) trivial (args:=[]) trivial)
theorem Qb (c : Bool) (x : N6) : bH prog (Hb c) qN (fun _ => true) f125 40 [.v (.fl (q6 x))] = some ([],.one (.fl (e6 (m6 x)))):=by kernel_rfl
def SI (c : Bool) : Tab:=(Hb c).add 125 (g1 rq6 (fun x => ([],.one (.fl (e6 (m6 x))))))
theorem XX (c : Bool) (hB : TabOk prog (oR c)) : TabOk prog (SI c):=(Jz c hB).ad func125 (bC aMJ fun x hp args w ha => aH aG (Jz c hB) aM func125 (Qb c x) hp ha)
theorem UP (c : Bool) (x : Q6) (y : Q6) : bH prog (SI c) qN (fun _ => true) f126 40 [.v (.fl (e6 x)),.v (.fl (e6 y))] = some ([],.one (.fl (e6 ((KF [x.1,x.2.1,x.2.2] [y.1,F2.mul y.2.2 dC,F2.mul y.2.1 dC],KF [x.1,x.2.1,x.2.2] [y.2.1,y.1,F2.mul y.2.2 dC],KF [x.1,x.2.1,x.2.2] [y.2.2,y.2.1,y.1]))))):=by kernel_rfl
theorem WJ (x : Q6) (y : Q6) : F6.mul x y = (KF [x.1,x.2.1,x.2.2] [y.1,F2.mul y.2.2 dC,F2.mul y.2.1 dC],KF [x.1,x.2.1,x.2.2] [y.2.1,y.1,F2.mul y.2.2 dC],KF [x.1,x.2.1,x.2.2] [y.2.2,y.2.1,y.1]):=by
 refine Prod.ext ?_ (Prod.ext ?_ rfl)
 ·show F2.add (F2.mul x.1 y.1) (F2.mul dC (F2.add (F2.mul x.2.1 y.2.2) (F2.mul x.2.2 y.2.1))) = F2.add (F2.add (F2.mul x.1 y.1) (F2.mul x.2.1 (F2.mul y.2.2 dC))) (F2.mul x.2.2 (F2.mul y.2.1 dC));rw [F2.mul_add,F2.add_assoc,F2.mul_comm dC,F2.mul_comm dC,F2.mul_assoc,F2.mul_assoc]
 ·show F2.add (F2.add (F2.mul x.1 y.2.1) (F2.mul x.2.1 y.1)) (F2.mul dC (F2.mul x.2.2 y.2.2)) = F2.add (F2.add (F2.mul x.1 y.2.1) (F2.mul x.2.1 y.1)) (F2.mul x.2.2 (F2.mul y.2.2 dC));rw [F2.mul_comm dC,F2.mul_assoc]
def tR (c : Bool) : Tab:=(SI c).add 126 (g2 Se Se (fun x y => ([],.one (.fl (e6 (F6.mul x y))))))
theorem uZ (c : Bool) (hB : TabOk prog (oR c)) : TabOk prog (tR c):=(XX c hB).ad func126 (fB mT mT fun x y hp args w ha => by show Good _ _ (.one (.fl (e6 (F6.mul x y)))) _ _; rw [WJ x y]; exact aH aG (XX c hB) aM func126 (UP c x y) hp ha)
def aBe (c : Bool) (x : Q6) : List Prop × RV:=bif c then ([rL (n6 x) ≠ F1.zero],.many [.fl (e6 (iv6 x)),.im (.int .i64 0)]) else ([rL (n6 x) = F1.zero],.many [.fl (e6 F6.zero),.im (.int .i64 22)])
theorem EL (x : Q6) : bH prog (tR true) qN (fun _ => true) f206 40 [.v (.fl (e6 x))] = some ([rL (n6 x) ≠ F1.zero],.many [.fl (e6 (iv6 x)),.im (.int .i64 0)]):=by kernel_rfl
theorem BS (x : Q6) : bH prog (tR false) qN (fun _ => true) f206 40 [.v (.fl (e6 x))] = some ([rL (n6 x) = F1.zero],.many [.fl (e6 F6.zero),.im (.int .i64 22)]):=by kernel_rfl
theorem aBd (c : Bool) (hB : TabOk prog (oR c)) (x : Q6) (hp : aY (aBe c x).1) (args : List Value) (w : World) (ha : bR w [.v (.fl (e6 x))] args) : Good prog 206 (aBe c x).2 args w:=by
 cases c
 ·exact aH aG (uZ false hB) aM func206 (BS x) hp ha
 ·exact aH aG (uZ true hB) aM func206 (EL x) hp ha
def SD (c : Bool) : Tab:=(tR c).add 206 (g1 Se (aBe c))
theorem XV (c : Bool) (hB : TabOk prog (oR c)) : TabOk prog (SD c):=(uZ c hB).ad func206 (bC mT (aBd c hB))
end Go.Proofs.YtglgakbkdjhojaaGreat.Ex
