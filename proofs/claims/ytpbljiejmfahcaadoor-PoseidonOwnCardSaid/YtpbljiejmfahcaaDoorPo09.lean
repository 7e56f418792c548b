/- Po09 -/
import Derived.Deep.LoopGhost
import Derived.StillTail
import Derived.RegionTactic
import Derived.KernelRfl
import Derived.LoopTactic
import Derived.Test.YtpbljiejmfahcaaDoorPo04
import Derived.Test.YtpbljiejmfahcaaDoorPo08
import Derived.Test.YtpbljiejmfahcaaDoorPo03
import Derived.Test.YtpbljiejmfahcaaDoorPo07
import Derived.Test.YtpbljiejmfahcaaDoorPo06
import Derived.Test.YtpbljiejmfahcaaDoorProg
set_option maxRecDepth 100000
set_option linter.unusedVariables false
set_option linter.unusedSimpArgs false
set_option linter.unnecessarySimpa false
noncomputable section
namespace Go.Proofs.YtpbljiejmfahcaaDoor.Ex
open Go.Proofs.Tryd
open Go.RowKit
theorem YH {a b c:Nat} (ha:a<RM) (hb:b<RM) (h:jW a c=jW b c):a=b:=by
 unfold jW at h;rw[Nat.add_mod a c,Nat.add_mod b c,Nat.mod_eq_of_lt ha,Nat.mod_eq_of_lt hb]at h;have hc:=Nat.mod_lt c fQ;have hp:=fQ;generalize c%RM=d at h hc;generalize RM=M at *
 by_cases h1:a+d<M
 ·rw[Nat.mod_eq_of_lt h1]at h
  by_cases h2:b+d<M
  ·rw[Nat.mod_eq_of_lt h2]at h; omega
  ·rw[Nat.mod_eq_sub_mod (by omega),Nat.mod_eq_of_lt (by omega)]at h; omega
 ·rw[Nat.mod_eq_sub_mod (by omega),Nat.mod_eq_of_lt (show a+d-M<M by omega)]at h
  by_cases h2:b+d<M
  ·rw[Nat.mod_eq_of_lt h2]at h; omega
  ·rw[Nat.mod_eq_sub_mod (by omega),Nat.mod_eq_of_lt (by omega)]at h; omega
theorem zU {M g E K x:Nat} (hr:Root M g) (hE:5*E=1+(M-1)*K) (hx:x<M):(x^5%M)^E%M=x:=by
 have h1:=hr.1;rw[←Nat.pow_mod,←Nat.pow_mul,hE]
 rcases Nat.eq_zero_or_pos x with h0|h0
 ·subst h0;rw[Nat.add_comm,Nat.pow_succ,Nat.mul_zero,Nat.zero_mod]
 ·rw[Nat.add_comm,Nat.pow_succ,Nat.pow_mul,Nat.mul_mod,Nat.pow_mod,FQ hr h0 hx,Nat.one_pow,Nat.mod_eq_of_lt h1,Nat.one_mul,Nat.mod_mod,Nat.mod_eq_of_lt hx]
theorem JO (x:Nat):BG x=x^5%RM:=by
 unfold BG jV;rw[←Nat.mul_mod,Nat.mod_mul_mod];congr 1;simp only[Nat.pow_succ,Nat.pow_zero,Nat.one_mul,Nat.mul_assoc]
def eJ5:Nat:=17510594297471420177797124596205820070838691520332827474958563349260646796493
def kJ5:Nat:=4
theorem Dq:5*eJ5=1+(RM-1)*kJ5:=by decide +kernel
theorem Be {x y:Nat} (hx:x<RM) (hy:y<RM) (h:BG x=BG y):x=y:=by
 obtain⟨g,hr⟩:=tW.root;rw[JO,JO]at h;have e1:=zU hr Dq hx;have e2:=zU hr Dq hy;rw[show Go.Proofs.YtpbljiejmfahcaaDoor.FR.M=RM from rfl,h]at e1;exact e1.symm.trans e2
theorem PO {xs:Nat→Nat} {wd r:Nat} {f g:Nat→Nat} {q:Nat} (hf:f q<RM) (hg:g q<RM) (h:eK xs wd r f q=eK xs wd r g q):f q=g q:=YH hf hg h
theorem PN {k:Nat} {f g:Nat→Nat} {q:Nat} (hf:f q<RM) (hg:g q<RM) (h:mO k f q=mO k g q):f q=g q:=by
 unfold mO lW at h
 by_cases e:q<k
 ·rw[if_pos e,if_pos e]at h; exact Be hf hg h
 ·rw[if_neg e,if_neg e]at h; exact h
theorem TR (a b f:Nat→Nat) (c:Nat):∀n,hU (fun q=>jW (a q) (jV c (b q))) f n=jW (hU a f n) (jV c (hU b f n))
 | 0=>by
  show 0=jW 0 (jV c 0);unfold jW jV;rw[Nat.mul_zero,Nat.zero_mod,Nat.zero_add,Nat.zero_mod]
 | n+1=>by
  show jW (hU (fun q=>jW (a q) (jV c (b q))) f n) (jV (jW (a n) (jV c (b n))) (f n))=jW (jW (hU a f n) (jV (a n) (f n))) (jV c (jW (hU b f n) (jV (b n) (f n))));rw[TR a b f c n];refine WQ (oO _ _) (oO _ _) ?_;simp only[WR,WP];exact XY KR (Zd KR [DD (hU a f n),DD (hU b f n),DD c,DD (a n),DD (b n),DD (f n)]) (Z0+Z2*Z1+(Z3+Z2*Z4)*Z5) (Z0+Z3*Z5+Z2*(Z1+Z4*Z5)) (by kernel_rfl)
theorem JQ (f:Nat→Nat):∀n,hU (fun _=>0) f n=0
 | 0=>rfl
 | n+1=>by
  show jW (hU (fun _=>0) f n) (jV 0 (f n))=0;rw[JQ f n];unfold jW jV;rw[Nat.zero_mul,Nat.zero_mod,Nat.zero_add,Nat.zero_mod]
theorem JR (w:Nat→Nat) (m:Nat→Nat→Nat) (f:Nat→Nat) (n:Nat):∀k,hU w (fun j=>hU (m j) f n) k=hU (fun q=>hU w (fun j=>m j q) k) f n
 | 0=>(JQ f n).symm
 | k+1=>by
  show jW (hU w (fun j=>hU (m j) f n) k) (jV (w k) (hU (m k) f n))=hU (fun q=>jW (hU w (fun j=>m j q) k) (jV (w k) (m k q))) f n;rw[JR w m f n k,TR]
theorem sU {a b f:Nat→Nat}:∀n,(∀q,q<n→a q=b q)→hU a f n=hU b f n
 | 0,_=>rfl
 | n+1,h=>by
  show jW (hU a f n) (jV (a n) (f n))=jW (hU b f n) (jV (b n) (f n));rw[sU n fun q hq=>h q (by omega),h n (by omega)]
theorem jC {a f g:Nat→Nat}:∀n,(∀q,q<n→f q=g q)→hU a f n=hU a g n
 | 0,_=>rfl
 | n+1,h=>by
  show jW (hU a f n) (jV (a n) (f n))=jW (hU a g n) (jV (a n) (g n));rw[jC n fun q hq=>h q (by omega),h n (by omega)]
theorem BK {f:Nat→Nat} {i:Nat} (hi:f i<RM):∀n,hU (fun q=>if q=i then 1 else 0) f n=if i<n then f i else 0
 | 0=>by rw[if_neg (Nat.not_lt_zero i)]; rfl
 | n+1=>by
  show jW (hU (fun q=>if q=i then 1 else 0) f n) (jV (if n=i then 1 else 0) (f n))=_;rw[BK hi n];unfold jW jV
  by_cases e:n=i
  ·subst e;rw[if_neg (Nat.lt_irrefl n),if_pos rfl,if_pos (Nat.lt_succ_self n),Nat.one_mul,Nat.zero_add,Nat.mod_mod,Nat.mod_eq_of_lt hi]
  ·rw[if_neg e,Nat.zero_mul,Nat.zero_mod,Nat.add_zero]
   by_cases e2:i<n
   ·rw[if_pos e2,if_pos (by omega),Nat.mod_eq_of_lt hi]
   ·rw[if_neg e2,if_neg (by omega),Nat.zero_mod]
theorem Ik {k c:Nat} (hk:k<RM) (hc:c<RM) (h:c*k%RM=1):inv k=c:=by
 obtain⟨g,hr⟩:=tW.root;have h0:0<k:=by
  rcases Nat.eq_zero_or_pos k with e|e
  ·rw[e,Nat.mul_zero,Nat.zero_mod]at h; cases h
  ·exact e
 have hf:=FQ hr h0 hk;have hM:2≤RM:=by decide
 have e1:k*inv k%RM=1:=by
  unfold inv;rw[Nat.mul_mod_mod,Nat.mul_comm,←Nat.pow_succ,show (RM-2).succ=RM-1 by omega];exact hf
 have e2:c*k*inv k%RM=inv k:=by
  rw[Nat.mul_mod,h,Nat.one_mul,Nat.mod_mod,Nat.mod_eq_of_lt (kX k)]
 rw[Nat.mul_assoc,Nat.mul_mod,e1,Nat.mul_one,Nat.mod_mod,Nat.mod_eq_of_lt hc]at e2;exact e2.symm
def Ld:List Nat:=[0,0,10944121435919637611123202872628637544274182200208017171849102093287904247809,14592161914559516814830937163504850059032242933610689562465469457717205663745,16416182153879456416684804308942956316411273300312025757773653139931856371713,8755297148735710088898562298102910035419345760166413737479281674630323398247,18240202393199396018538671454381062573790303667013361953081836822146507079681,3126891838834182174606629392179610726935480628630862049099743455225115499374,19152212512859365819465605027100115702479818850364030050735928663253832433665,19456215886079355753107916218006466745376323911480919416620625943622940884993,15321770010287492655572484021680092561983855080291224040588742930603065946932,7959361044305190989907783907366281850381223418333103397708437886027566725679,20064222632519335620392538599819168831169334033714698148390020504361157787649,20204531881697792512842836072545177004813874831153262471106034633762284765185,1563445919417091087303314696089805363467740314315431024549871727612557749687,2918432382911903362966187432700970011806448586722137912493093891543441132749,20520227692349320520856005386178695395514091625390032197217066424914820464641,7725262190060920666675202027737861795958246258970365062481719124673814763159,20672229378959315487677160981631870916962344155948476880159415065099374690305,1152012782728382906434021355013540794134124442127159702299905483503989920822,7660885005143746327786242010840046280991927540145612020294371465301532973466,8338378236891152465617678379145628605161281676348965464265982547266974664997,14923801958072233106077094826311778469464793909374568870703321036301687610648]
theorem Cy:∀k,k<23→2≤k→Ld.getD k 0<RM∧Ld.getD k 0*k%RM=1:=by decide +kernel
theorem JG {k:Nat} (h2:2≤k) (h:k<23):inv k=Ld.getD k 0:=Ik (Nat.lt_trans h (by decide)) (Cy k h h2).1 (Cy k h h2).2
def wIJ:List (List (List Nat)):=[[],[],[[18,21888242871839275222246405745257275088548364400416034343698204186575808495593],[21888242871839275222246405745257275088548364400416034343698204186575808495593,36]],[[300,21888242871839275222246405745257275088548364400416034343698204186575808494717,630],[21888242871839275222246405745257275088548364400416034343698204186575808494717,2880,21888242871839275222246405745257275088548364400416034343698204186575808493517],[630,21888242871839275222246405745257275088548364400416034343698204186575808493517,1575]],[[4900,21888242871839275222246405745257275088548364400416034343698204186575808472097,35280,21888242871839275222246405745257275088548364400416034343698204186575808478817],[21888242871839275222246405745257275088548364400416034343698204186575808472097,117600,21888242871839275222246405745257275088548364400416034343698204186575808314177,88200],[35280,21888242871839275222246405745257275088548364400416034343698204186575808314177,285768,21888242871839275222246405745257275088548364400416034343698204186575808354497],[21888242871839275222246405745257275088548364400416034343698204186575808478817,88200,21888242871839275222246405745257275088548364400416034343698204186575808354497,70560]],[[79380,21888242871839275222246405745257275088548364400416034343698204186575807966417,1247400,21888242871839275222246405745257275088548364400416034343698204186575807248217,450450],[21888242871839275222246405745257275088548364400416034343698204186575807966417,3628800,21888242871839275222246405745257275088548364400416034343698204186575799763817,8870400,21888242871839275222246405745257275088548364400416034343698204186575805252377],[1247400,21888242871839275222246405745257275088548364400416034343698204186575799763817,21344400,21888242871839275222246405745257275088548364400416034343698204186575786541377,8108100],[21888242871839275222246405745257275088548364400416034343698204186575807248217,8870400,21888242871839275222246405745257275088548364400416034343698204186575786541377,22809600,21888242871839275222246405745257275088548364400416034343698204186575800001417],[450450,21888242871839275222246405745257275088548364400416034343698204186575805252377,8108100,21888242871839275222246405745257275088548364400416034343698204186575800001417,3185325]],[[1280664,21888242871839275222246405745257275088548364400416034343698204186575797518497,35675640,21888242871839275222246405745257275088548364400416034343698204186575753000177,41621580,21888242871839275222246405745257275088548364400416034343698204186575796387521],[21888242871839275222246405745257275088548364400416034343698204186575797518497,96049800,21888242871839275222246405745257275088548364400416034343698204186575491378817,499458960,21888242871839275222246405745257275088548364400416034343698204186575430117617,110990880],[35675640,21888242871839275222246405745257275088548364400416034343698204186575491378817,1060076160,21888242871839275222246405745257275088548364400416034343698204186574122010817,1288287000,21888242871839275222246405745257275088548364400416034343698204186575427955457],[21888242871839275222246405745257275088548364400416034343698204186575753000177,499458960,21888242871839275222246405745257275088548364400416034343698204186574122010817,2705402700,21888242871839275222246405745257275088548364400416034343698204186573727416617,618377760],[41621580,21888242871839275222246405745257275088548364400416034343698204186575430117617,1288287000,21888242871839275222246405745257275088548364400416034343698204186573727416617,1610358750,21888242871839275222246405745257275088548364400416034343698204186575327535137],[21888242871839275222246405745257275088548364400416034343698204186575796387521,110990880,21888242871839275222246405745257275088548364400416034343698204186575427955457,618377760,21888242871839275222246405745257275088548364400416034343698204186575327535137,144288144]],[[20612592,21888242871839275222246405745257275088548364400416034343698204186575592063401,901800900,21888242871839275222246405745257275088548364400416034343698204186573884653697,2229907680,21888242871839275222246405745257275088548364400416034343698204186574470551009,325909584],[21888242871839275222246405745257275088548364400416034343698204186575592063401,2308610304,21888242871839275222246405745257275088548364400416034343698204186566069045897,20987366400,21888242871839275222246405745257275088548364400416034343698204186551279511137,14820309504,21888242871839275222246405745257275088548364400416034343698204186572176931681],[901800900,21888242871839275222246405745257275088548364400416034343698204186566069045897,41503336875,21888242871839275222246405745257275088548364400416034343698204186485628405617,106135029000,21888242871839275222246405745257275088548364400416034343698204186511300452017,15888092220],[21888242871839275222246405745257275088548364400416034343698204186573884653697,20987366400,21888242871839275222246405745257275088548364400416034343698204186485628405617,197317120000,21888242871839275222246405745257275088548364400416034343698204186342199119617,142714091520,21888242871839275222246405745257275088548364400416034343698204186540501624017],[2229907680,21888242871839275222246405745257275088548364400416034343698204186551279511137,106135029000,21888242871839275222246405745257275088548364400416034343698204186342199119617,277995157440,21888242871839275222246405745257275088548364400416034343698204186405220558097,42368245920],[21888242871839275222246405745257275088548364400416034343698204186574470551009,14820309504,21888242871839275222246405745257275088548364400416034343698204186511300452017,142714091520,21888242871839275222246405745257275088548364400416034343698204186405220558097,105089467392,21888242871839275222246405745257275088548364400416034343698204186549617216321],[325909584,21888242871839275222246405745257275088548364400416034343698204186572176931681,15888092220,21888242871839275222246405745257275088548364400416034343698204186540501624017,42368245920,21888242871839275222246405745257275088548364400416034343698204186549617216321,6547819824]],[[331273800,21888242871839275222246405745257275088548364400416034343698204186571685977217,21024843840,21888242871839275222246405745257275088548364400416034343698204186518468012417,90789098400,21888242871839275222246405745257275088548364400416034343698204186492003174017,41902660800,21888242871839275222246405745257275088548364400416034343698204186567028890497],[21888242871839275222246405745257275088548364400416034343698204186571685977217,51943731840,21888242871839275222246405745257275088548364400416034343698204186308219574017,735869534400,21888242871839275222246405745257275088548364400416034343698204185402533993217,1089469180800,21888242871839275222246405745257275088548364400416034343698204186028280394497,115232317200],[21024843840,21888242871839275222246405745257275088548364400416034343698204186308219574017,1389975787200,21888242871839275222246405745257275088548364400416034343698204182726644777217,6173658691200,21888242871839275222246405745257275088548364400416034343698204180813727050497,2908743037200,21888242871839275222246405745257275088548364400416034343698204185961236137217],[21888242871839275222246405745257275088548364400416034343698204186518468012417,735869534400,21888242871839275222246405745257275088548364400416034343698204182726644777217,10722670358400,21888242871839275222246405745257275088548364400416034343698204169289564160257,16205854064400,21888242871839275222246405745257275088548364400416034343698204178362886978817,1741288348800],[90789098400,21888242871839275222246405745257275088548364400416034343698204185402533993217,6173658691200,21888242871839275222246405745257275088548364400416034343698204169289564160257,27991929747600,21888242871839275222246405745257275088548364400416034343698204160230462850817,13397846716800,21888242871839275222246405745257275088548364400416034343698204183726427561217],[21888242871839275222246405745257275088548364400416034343698204186492003174017,1089469180800,21888242871839275222246405745257275088548364400416034343698204180813727050497,16205854064400,21888242871839275222246405745257275088548364400416034343698204160230462850817,24881715331200,21888242871839275222246405745257275088548364400416034343698204173883111606017,2706911887680],[41902660800,21888242871839275222246405745257275088548364400416034343698204186028280394497,2908743037200,21888242871839275222246405745257275088548364400416034343698204178362886978817,13397846716800,21888242871839275222246405745257275088548364400416034343698204173883111606017,6492802639680,21888242871839275222246405745257275088548364400416034343698204185187648553217],[21888242871839275222246405745257275088548364400416034343698204186567028890497,115232317200,21888242871839275222246405745257275088548364400416034343698204185961236137217,1741288348800,21888242871839275222246405745257275088548364400416034343698204183726427561217,2706911887680,21888242871839275222246405745257275088548364400416034343698204185187648553217,297462844800]]]
def wJ (wd i j:Nat):Nat:=((wIJ.getD wd []).getD i []).getD j 0
theorem Mj:∀wd,wd<9→2≤wd→∀i,i<wd→∀q,q<wd→hU (wJ wd i) (fun j=>Ld.getD (wd+(j+q)) 0) wd=if q=i then 1 else 0:=by decide +kernel
theorem uF {wd:Nat} (h2:2≤wd) (h8:wd≤8) {f:Nat→Nat} {i:Nat} (hi:i<wd) (hf:f i<RM):hU (wJ wd i) (jH wd f) wd=f i:=by
 have e:hU (wJ wd i) (jH wd f) wd=hU (wJ wd i) (fun j=>hU (fun q=>inv (wd+(j+q))) f wd) wd:=rfl;rw[e,JR,sU (b:=fun q=>if q=i then 1 else 0) wd fun q hq=>by
  rw[←Mj wd (by omega) h2 i hi q hq];exact jC wd fun j hj=>JG (by omega) (by omega),BK hf,if_pos hi]
theorem PL {wd:Nat} (h2:2≤wd) (h8:wd≤8) {f g:Nat→Nat} (hf:∀q,q<wd→f q<RM) (hg:∀q,q<wd→g q<RM) (h:∀q,q<wd→jH wd f q=jH wd g q) (q:Nat) (hq:q<wd):f q=g q:=by
 rw[←uF h2 h8 hq (hf q hq),←uF h2 h8 hq (hg q hq)];exact jC wd h
theorem XX {xs:Nat→Nat} {wd fl pt r:Nat} (h2:2≤wd) (h8:wd≤8) {f g:Nat→Nat} (hf:∀q,q<wd→f q<RM) (hg:∀q,q<wd→g q<RM) (h:∀q,q<wd→Ur xs wd fl pt r f q=Ur xs wd fl pt r g q) (q:Nat) (hq:q<wd):f q=g q:=by
 have a1:∀{f:Nat→Nat} q,mO (rz wd fl pt r) (eK xs wd r f) q<RM:=fun q=>IH (fun q=>pZ _ _ _ _ q) q
 have e1:=PL h2 h8 (fun q _=>a1 q) (fun q _=>a1 q) h q hq;exact PO (hf q hq) (hg q hq) (PN (pZ _ _ _ _ _) (pZ _ _ _ _ _) e1)
theorem AC {xs:Nat→Nat} {wd fl pt:Nat} (h2:2≤wd) (h8:wd≤8) {f g:Nat→Nat} (hf:∀q,q<wd→f q<RM) (hg:∀q,q<wd→g q<RM):∀r,(∀q,q<wd→bO xs wd fl pt r f q=bO xs wd fl pt r g q)→∀q,q<wd→f q=g q
 | 0,h=>h
 | r+1,h=>AC h2 h8 hf hg r (XX h2 h8 (fun q hq=>lT hf r q hq) (fun q hq=>lT hg r q hq) h)
theorem rO {xs:Nat→Nat} {wd fl pt:Nat} {f g:Nat→Nat} (h:∀q,q<wd→f q=g q):∀r q,q<wd→bO xs wd fl pt r f q=bO xs wd fl pt r g q
 | 0,q,hq=>h q hq
 | r+1,q,hq=>by
  show jH wd (mO _ (eK xs wd r (bO xs wd fl pt r f))) q=jH wd (mO _ (eK xs wd r (bO xs wd fl pt r g))) q;unfold jH;refine jC wd fun k hk => ?_
  have e:eK xs wd r (bO xs wd fl pt r f) k=eK xs wd r (bO xs wd fl pt r g) k:=by
   unfold eK;rw[rO h r k hk]
  show (if k<_ then BG (eK xs wd r (bO xs wd fl pt r f) k)else eK xs wd r (bO xs wd fl pt r f) k)=if k<_ then BG (eK xs wd r (bO xs wd fl pt r g) k)else eK xs wd r (bO xs wd fl pt r g) k
  rw[e]
def OX (_:Nat):Nat:=0
def LB (a q:Nat):Nat:=if q=0 then 1 else if q=1 then a else 0
def pX (a b q:Nat):Nat:=if q=1 then a else if q=2 then b else 0
theorem Qs (xs:Nat→Nat) (wd fl pt:Nat) (f:Nat→Nat):CS xs wd fl pt 0 f=bO xs wd fl pt (fl+pt) OX 1:=by
 have e:(fun q:Nat=>if q=0 then 0 else 0)=OX:=funext fun q=>by unfold OX; split<;>rfl
 unfold CS WZ;rw[e];have e0:min (wd-1) 0=0:=by omega
 rw[e0,RT];exact if_pos rfl
theorem Qr (xs:Nat→Nat) (wd fl pt:Nat) (f:Nat→Nat) (h2:2≤wd) (hf:f 0<RM):CS xs wd fl pt 1 f=bO xs wd fl pt (fl+pt) (LB (f 0)) 1:=by
 have e:iN (fun q:Nat=>if q=0 then 1 else 0) f 1=LB (f 0):=funext fun q=>by
  unfold iN LB
  by_cases e0:q=0
  ·subst e0; rfl
  ·by_cases e1:q=1
   ·subst e1;show jW 0 (f 0)=f 0;unfold jW;rw[Nat.zero_add,Nat.mod_eq_of_lt hf]
   ·rw[if_neg (by omega)];show (if q=0 then 1 else 0)=if q=0 then 1 else if q=1 then f 0 else 0
    rw[if_neg e0,if_neg e0,if_neg e1]
 unfold CS WZ;have e0:min (wd-1) 1=1:=by omega
 rw[e0,e];exact if_pos rfl
def Vh (x y:Nat) (z:Bool):kE
 | [.s l 2 2]=>some ([aB l=aB [At.q x,.q y],x<cU,y<cU,decide (x<RM∧y<RM)=z],.one (.im (.bool z)))
 | _=>none
theorem Tn (f:Nat→Nat):aG (el f) 0 2=[.q (f 0),.q (f 1)]:=rfl
def Rs (x y q:Nat):Nat:=if q=0 then x else y
theorem SZ {w:World} (x y:Nat) (z:Bool):∀cs pre r,Vh x y z cs=some (pre,r)→aW pre→∀(args:List Value),dV w cs args→bU prog 18 r args w:=by
 intro cs pre r hg hp args ha;unfold Vh at hg;split at hg
 ·rename_i l;cases hg;obtain⟨h1,h2,h3,h4,_⟩:=hp
  match args,ha with
  | [v],ha =>
   have hv:LV w v 2 (Rs x y):=LV.ofS (N:=2) (f:=Rs x y) ha.1 (h1.trans (by rw[Tn]; rfl)) rfl (Nat.le_refl _) (fun j hj=>by
    unfold Rs;split
    ·exact h2
    ·exact h3)
   have:=mE hv (by decide);have e:decide (gY 2 (Rs x y))=z:=by
    rw[←h4];exact decide_eq_decide.2 ⟨fun h=>⟨h 0 (by decide),h 1 (by decide)⟩,fun h j hj=>by
     unfold Rs;split
     ·exact h.1
     ·exact h.2⟩
   rw[e]at this;exact this
  | [],ha=>exact ha.elim
  | _::_::_,ha=>exact ha.2.elim
 ·cases hg
def xU (w:World) (idx:Nat→Option Nat) (ld st:Nat→Option (List At)) (gen:Nat→Option Value) (mks:Nat→Option (Nat×List At)):Ext:={ Ext.none with idx:=idx,ld:=ld,st:=st,gen:=gen,mks:=mks,old:=oldOf w,T2:=KS,T3:=pO,T4:=KJ,T5:=iA,T6:=KQ }
theorem Cw (w:World) (idx:Nat→Option Nat) (ld st:Nat→Option (List At)) (gen:Nat→Option Value) (mks:Nat→Option (Nat×List At)):bD prog { qG prog with x:=xU w idx ld st gen mks } w.heap.size w :=
 ⟨(bM _).1,eF (fun b o l h=>h) (fun w' _=>FrAt.none _ _) (fun w' _=>FsAt.none _ _)⟩
def Vp (k:Int) (x y:Nat) (z:Bool):Tab:=(T0.add 17 (ME k)).add 18 (Vh x y z)
theorem GK (k:Int) (x y:Nat) (z:Bool) {base:Nat} {w0:World}:TabOkW prog (Vp k x y z) base w0 :=
 TabOkW.add (((bH _).add func17 (by kernel_rfl) (by kernel_rfl) (qD k)).w _ _) func18 (by kernel_rfl) (by kernel_rfl) (fun w _=>SZ x y z)
theorem Vu (a b c:Int) (x y:Nat):eM prog (qG prog) (fun _=>tC (Vp 91 x y true) (fun _=>none)) f12 60 [.v (.fl (rZ a b c)),.v (.fl [.q x]),.v (.fl [.q y])]=some ([FZ a b c 91],.many [.fl zC,.im (.int .i64 91)]):=by kernel_rfl
theorem Vt (a b c:Int) (x y:Nat):eM prog (qG prog) (fun _=>tC (Vp 0 x y false) (fun _=>none)) f12 60 [.v (.fl (rZ a b c)),.v (.fl [.q x]),.v (.fl [.q y])]=some ([FZ a b c 0,aB [At.q x,.q y]=aB [At.q x,.q y],x<cU,y<cU,decide (x<RM∧y<RM)=false],.many [.fl zC,.im (.int .i64 21)]):=by kernel_rfl
theorem Vs (a b c:Int) (x y:Nat):eM prog (qG prog) (fun _=>tC (Vp 0 x y true) (aD [(24,.bool true)])) f12 60 [.v (.fl (rZ a b c)),.v (.fl [.q x]),.v (.fl [.q y])]=some ([FZ a b c 0,aB [At.q x,.q y]=aB [At.q x,.q y],x<cU,y<cU,decide (x<RM∧y<RM)=true,aF .lss .i64 a 3=some (.bool true)],.many [.fl zC,.im (.int .i64 91)]):=by kernel_rfl
def eV:Code:=(f12.body).getD .skip
def toX:Code:=cB (cB (cB (cB (cB (cB eV)))))
def pQ:Code:=cA toX
noncomputable abbrev toF:Func:=f12
theorem WO:eV=.seq (cA eV) (.seq (cA (cB eV)) (.seq (cA (cB (cB eV))) (.seq (cA (cB (cB (cB eV)))) (.seq (cA (cB (cB (cB (cB eV))))) (.seq (cA (cB (cB (cB (cB (cB eV)))))) (.seq (.region 10 (aE pQ) false) .ret)))))):=by kernel_rfl
theorem Mo:toF.ntmps=41:=by kernel_rfl
def DC (wd fl pt x y:Nat):List Fact:=[.slot 3 (.pt 3 0),.row 3 true (rR wd fl pt),.slot 4 (.pt 4 0),.row 4 true [.q x],.slot 5 (.pt 5 0),.row 5 true [.q y],.slot 6 (.pt 6 0),.row 6 true zC]
theorem Mn (wd fl pt x y:Nat):aJ prog (qG prog) 41 (fun _=>tC T0 fun _=>none) 60 (cA eV) (eO 0 [.v (.fl (rR wd fl pt)),.v (.fl [.q x]),.v (.fl [.q y])]) (DC wd fl pt x y)=some ([],.nrm,DC wd fl pt x y):=by kernel_rfl
def yK (pb ab bb rb:Nat):List Fact:=[.slot 3 (.im (ptV pb 0)),.slot 4 (.im (ptV ab 0)),.slot 5 (.im (ptV bb 0)),.slot 6 (.im (ptV rb 0))]
section
variable (w:World) (pb ab bb rb wd fl pt x y:Nat)
theorem Vz:aJ prog { qG prog with x:=xO w (fun _=>none) (aD [(10,rR wd fl pt)]) (fun _=>none) } 41 (fun _=>tC (T0.add 17 (FJ wd fl pt)) fun _=>none) 60 (cA (cB eV)) (yK pb ab bb rb) (yK pb ab bb rb)=some ([oldOf w pb 0 (rR wd fl pt),bW (rR wd fl pt)=3,aB (rR wd fl pt)=aB (rR wd fl pt)],.nrm,yK pb ab bb rb):=by kernel_rfl
theorem Vy:aJ prog { qG prog with x:=xO w (fun _=>none) (aD [(16,[.q x]),(17,[.q y])]) (fun _=>none) } 41 (fun _=>tC (T0.add 18 (Vh x y true)) fun _=>none) 60 (cA (cB (cB eV))) (yK pb ab bb rb) (yK pb ab bb rb)=some ([oldOf w ab 0 [.q x],bW [.q x]=4,oldOf w bb 0 [.q y],bW [.q y]=4,aB [At.q x,.q y]=aB [At.q x,.q y],x<cU,y<cU,decide (x<RM∧y<RM)=true],.nrm,yK pb ab bb rb):=by kernel_rfl
theorem Vx:aJ prog { qG prog with x:=xO w (fun _=>none) (fun _=>none) (aD [(23,iI wd)]) } 41 (fun _=>tC T0 (aD [(24,.bool false)])) 60 (cA (cB (cB (cB eV)))) (yK pb ab bb rb) (yK pb ab bb rb)=some ([oldOf w pb 0 [.c (iI wd)],aF .lss .i64 (Int.ofNat wd) 3=some (.bool false)],.nrm,yK pb ab bb rb):=by kernel_rfl
theorem Vw:aJ prog { qG prog with x:=xU w (fun _=>none) (fun _=>none) (fun _=>none) (aD [(27,iI wd)]) (aD [(28,(wd,iR wd))]) } 41 (fun _=>tC T0 fun _=>none) 60 (cA (cB (cB (cB (cB eV))))) (yK pb ab bb rb) (.slot 9 (.sl 28 0 wd wd) :: .row 28 true (iR wd)::yK pb ab bb rb)=some ([oldOf w pb 0 [.c (iI wd)],∃e,∀w:World,(Instr.makeSlice 24 (iI wd) (iI wd)).run prog w=.ok (.slice (some ⟨w.heap.size,0,none⟩) wd wd) (w.alloc (.cells (aB (iR wd)).toArray e))],.nrm,.slot 9 (.sl 28 0 wd wd) :: .row 28 true (iR wd)::yK pb ab bb rb):=by kernel_rfl
theorem Vv (Z Z1 Z2:List At):aJ prog { qG prog with x:=xU w (aD [(33,1),(34,2)]) (aD [(31,[.q x]),(32,[.q y])]) (aD [(33,Z1),(34,Z2)]) (fun _=>none) (fun _=>none) } 41 (fun _=>tC T0 fun _=>none) 60 (cA (cB (cB (cB (cB (cB eV)))))) (.slot 9 (.sl 28 0 wd wd) :: .row 28 true Z::yK pb ab bb rb) (.slot 9 (.sl 28 0 wd wd) :: .row 28 true Z2::yK pb ab bb rb)=some ([oldOf w ab 0 [.q x],bW [.q x]=4,oldOf w bb 0 [.q y],bW [.q y]=4,(1:Int)=Int.ofNat 1,1<wd,put Z (0+1*4) [.q x]=some Z1,(2:Int)=Int.ofNat 2,2<wd,put Z1 (0+2*4) [.q y]=some Z2],.nrm,.slot 9 (.sl 28 0 wd wd) :: .row 28 true Z2::yK pb ab bb rb):=by kernel_rfl
def Eo (pb rb:Nat) (v:Value):List Fact:=[.slot 3 (.im (ptV pb 0)),.slot 6 (.im (ptV rb 0)),.slot 9 (.im v)]
theorem En (v:Value):cS prog { qG prog with x:=xO w (fun _=>none) (aD [(35,rR wd fl pt)]) (fun _=>none) } 41 (tC T0 fun _=>none) ((aE pQ).extract 0 1) (Eo pb rb v) (.slot 35 (.fl (rR wd fl pt))::Eo pb rb v)=some ([oldOf w pb 0 (rR wd fl pt),bW (rR wd fl pt)=3],.slot 35 (.fl (rR wd fl pt))::Eo pb rb v):=by kernel_rfl
theorem Em (v:Value) (l:List At):cS prog (qG prog) 41 (tC T0 fun _=>none) ((aE pQ).extract 2 3) (.slot 36 (.fl l)::Eo pb rb v) [.slot 36 (.fl l),.slot 37 (.im v),.slot 6 (.im (ptV rb 0))]=some ([],[.slot 36 (.fl l),.slot 37 (.im v),.slot 6 (.im (ptV rb 0))]):=by kernel_rfl
theorem El (d c X:Nat):cS prog { qG prog with x:=xO w (aD [(39,1)]) (aD [(40,[.q X])]) (fun _=>none) } 41 (tC T0 fun _=>none) ((aE pQ).extract 4 6) [.slot 38 (.im (aT d 0 wd c)),.slot 6 (.im (ptV rb 0))] [.slot 40 (.fl [.q X]),.slot 6 (.im (ptV rb 0))]=some ([(1:Int)=Int.ofNat 1,1<wd,oldOf w d (0+1*4) [.q X],bW [.q X]=4],[.slot 40 (.fl [.q X]),.slot 6 (.im (ptV rb 0))]):=by kernel_rfl
theorem Ek (N X:Nat):cS prog (qG prog) 41 (tC T0 fun _=>none) ((aE pQ).extract 7 8) [.slot 6 (.pt 6 0),.row 6 true [.q X],.at 6 rb,.at 41 N] [.slot 6 (.pt 6 0),.row 6 true [.q X],.at 6 rb,.at 41 N,.slot 7 (.im (.int .i64 0))]=some ([],[.slot 6 (.pt 6 0),.row 6 true [.q X],.at 6 rb,.at 41 N,.slot 7 (.im (.int .i64 0))]):=by kernel_rfl
end
def OT (a q:Nat):Nat:=if q=1 then a else 0
theorem uA {w0:World} {wd fl pt x y:Nat} {xs:Nat→Nat} (hr:RdOk wd fl pt) (h3:3≤wd) (hx:x<RM) (hy:y<RM) (hc:tY wd fl pt xs) (hDj:Dbj w0) :
  bU prog 12 (.many [.fl [.q (bO xs wd fl pt (fl+pt) (pX x y) 1)],.im (.int .i64 0)]) [.agg (aB (rR wd fl pt)).toArray,.agg (aB [At.q x]).toArray,.agg (aB [At.q y]).toArray] w0:=by
 obtain⟨fu,sq,h0,hxs⟩:=hc;have hw8:=hr.w8;have hf64:=hr.f64;have hp128:=hr.p128;have hG:∀base w,bD prog (qG prog) base w:=fun _ _=>(bM _).w _ _
 have hT:∀base w,∀n d:Nat,TabOkW prog T0 base w:=fun _ _ _ _=>(bH _).w _ _
 have hnt:f12.ntmps=41:=Mo;refine bP func12 (cs:=[.v (.fl (rR wd fl pt)),.v (.fl [.q x]),.v (.fl [.q y])]) (args:=[.agg (aB (rR wd fl pt)).toArray,.agg (aB [At.q x]).toArray,.agg (aB [At.q y]).toArray]) (c:=eV) rfl ⟨rfl,rfl,rfl,trivial⟩ (Nat.le_of_ble_eq_true (by kernel_rfl)) fun a w hA => ?_
 rw[hnt]at hA;rw[WO];refine wp_seq (aA aH (hT _ _) (hG _ _) (Mn wd fl pt x y) trivial hA fun a w1 hA => ?_);obtain⟨pb,hA⟩:=hA.at (k:=3) (l:=rR wd fl pt) (by simp[DC]);obtain⟨ab,hA⟩:=hA.at (k:=4) (l:=[.q x]) (by simp[DC]);obtain⟨bb,hA⟩:=hA.at (k:=5) (l:=[.q y]) (by simp[DC]);obtain⟨rb,hA⟩:=hA.at (k:=6) (l:=zC) (by simp[DC]);have hpb:oldOf w1 pb 0 (rR wd fl pt):=hA.old (k:=3) (by simp[DC]) (by simp);have hab:oldOf w1 ab 0 [.q x]:=hA.old (k:=4) (by simp[DC]) (by simp);have hbb:oldOf w1 bb 0 [.q y]:=hA.old (k:=5) (by simp[DC]) (by simp);have hrb:Own w1 rb zC:=hA.own (k:=6) (by simp[DC]) (by simp);have hrB:w0.heap.size≤rb:=hA.geq (k:=6) (l:=zC) (by simp[DC]) (by simp);have hD1:=hDj.on hDj.lt hA.below;have hbl:=hA.below;have p0:oldOf w1 pb 0 [.c (iI wd)]:=⟨hpb.1,cD (i:=0) (n:=1) hpb.2 rfl⟩;have hS:=aS (nt:=41) (w:=w1) (a:=a) (ts:=[(3,ptV pb 0),(4,ptV ab 0),(5,ptV bb 0),(6,ptV rb 0)]) hA.defers hA.size (fun z hz=>by
  simp only[List.mem_cons,List.not_mem_nil,or_false]at hz
  rcases hz with rfl|rfl|rfl|rfl
  ·exact hA.ptS (s:=3) (k:=3) (o:=0) (by simp[DC]) (by simp)
  ·exact hA.ptS (s:=4) (k:=4) (o:=0) (by simp[DC]) (by simp)
  ·exact hA.ptS (s:=5) (k:=5) (o:=0) (by simp[DC]) (by simp)
  ·exact hA.ptS (s:=6) (k:=6) (o:=0) (by simp[DC]) (by simp))
 clear hA;refine wp_seq (aA aH (fun _ _=>lL hr) (bX w1 _ _ _) (Vz w1 pb ab bb rb wd fl pt) ⟨hpb,rfl,rfl,trivial⟩ hS fun a w2 hA => ?_);refine wp_seq (aA aH (fun _ _=>TabOkW.add ((bH _).w _ _) func18 (by kernel_rfl) (by kernel_rfl) (fun w _=>SZ x y true)) (bX w1 _ _ _) (Vy w1 pb ab bb rb x y) ⟨hab,rfl,hbb,rfl,rfl,dP hx,dP hy,decide_eq_true ⟨hx,hy⟩,trivial⟩ hA fun a w2 hA => ?_);refine wp_seq (aA aH (hT _ _) (bX w1 _ _ _) (Vx w1 pb ab bb rb wd) ⟨p0,bV (i:=wd) (n:=3) h3,trivial⟩ hA fun a w2 hA => ?_);refine wp_seq (aA aH (hT _ _) (Cw w1 _ _ _ _ _) (Vw w1 pb ab bb rb wd) ⟨p0,uQ (t:=24) (e:=34) (z:=[.q 0]) (v:=.int .u64 0) (n:=4) (by8:=32) (by kernel_rfl) (by kernel_rfl) rfl lQ (by omega) (by omega) (by omega),trivial⟩ hA fun a w2 hA => ?_);have hp1:put (iR wd) (0+1*4) [.q x]=some (aG (el (OT x)) 0 wd):=qA (h:=fun _=>0) (h':=OT x) (p:=1) (by omega) (if_pos rfl) fun q hq=>if_neg hq
 have hp2:put (aG (el (OT x)) 0 wd) (0+2*4) [.q y]=some (aG (el (pX x y)) 0 wd):=qA (h:=OT x) (h':=pX x y) (p:=2) (by omega) rfl fun q hq=>by
  unfold pX OT
  by_cases e:q=1
  ·rw[if_pos e,if_pos e]
  ·rw[if_neg e,if_neg e,if_neg hq]
 refine wp_seq (aA aH (hT _ _) (Cw w1 _ _ _ _ _) (Vv w1 pb ab bb rb wd x y (iR wd) _ _) ⟨hab,rfl,hbb,rfl,rfl,by omega,hp1,rfl,by omega,hp2,trivial⟩ hA fun a w3 hA => ?_);obtain⟨sb,hA⟩:=hA.at (k:=28) (l:=aG (el (pX x y)) 0 wd) (by simp);have hO:Own w3 sb (aG (el (pX x y)) 0 wd):=hA.own (k:=28) (by simp) (by simp);have hb13:=hA.below;have hsv:=hA.im (s:=9) (k:=28) (o:=0) (n:=wd) (m:=wd) (b:=sb) (by simp) (by simp);have hS3:=aS (nt:=41) (w:=w3) (a:=a) (ts:=[(3,ptV pb 0),(6,ptV rb 0),(9,aT sb 0 wd wd)]) hA.defers hA.size (fun z hz=>by
  simp only[List.mem_cons,List.not_mem_nil,or_false]at hz
  rcases hz with rfl|rfl|rfl
  ·exact hA.slot (by simp[yK])
  ·exact hA.slot (by simp[yK])
  ·exact hsv.slot (by simp))
 clear hA hS hsv;have hb03:=hbl.trans (hb13.mono hbl.size);have hfs:∀q,q<wd→pX x y q<RM:=fun q _=>by
  unfold pX;split
  ·exact hx
  ·split
   ·exact hy
   ·exact fQ
 show (Code.seq _ _).wp _ _ _ _;refine wp_seq (bI (l:=List.range' 0 ((aE pQ).extract 0 1).size++(1::(List.range' 2 ((aE pQ).extract 2 3).size++(3::(List.range' 4 ((aE pQ).extract 4 6).size++(6::(List.range' 7 ((aE pQ).extract 7 8).size++[]))))))) (by kernel_rfl) ?_);refine aK (c:=tC T0 _) (hT _ _ 0) (bX w3 _ _ _) (En w3 pb rb wd fl pt (aT sb 0 wd wd)) ⟨oldOf.go hb13 (Nat.le_refl _) hpb,rfl,trivial⟩ (by kernel_rfl) hS3 fun a4 w4 hA => ?_
 obtain⟨o1,ho1,⟨ts1,hop1⟩,hd1,hg1⟩:∃z,(aE pQ)[1]?=some z∧(∃ts,z.op=.call ⟨.value (.func 19),#[.tmp 35],ts⟩)∧z.dst=some 36∧z.guard=none:=⟨_,rfl,⟨_,rfl⟩,rfl,rfl⟩
 have hb4:=hA.below;have hb14:=hb13.trans (hb4.mono hb13.size);refine bC ho1 hg1 (bT hop1 (vs:=[.agg (aB (rR wd fl pt)).toArray]) (List.cons_eq_cons.2 ⟨cO (hA.slotF (s:=35) (by simp)),rfl⟩) (fun args=>bG func19 (by kernel_rfl) (by kernel_rfl) args _) (rY (sq:=sq) (xs:=xs) hr.w2 (by omega) (by omega) (by omega) h0 hxs (hD1.on hD1.lt hb14)) fun e w5 hq => ?_);obtain⟨cs,is,rfl,hM,hb5⟩:=hq;refine⟨_,rfl,?_⟩;rw[hd1];have hb35:=hb4.trans (hb5.mono hb4.size);have hS5:=eC (nt:=41) (w:=w5) (a:=a4.put (some 36) (.agg (aB (rP wd fl pt cs is)).toArray)) (ts:=[(36,.fl (rP wd fl pt cs is)),(3,.im (ptV pb 0)),(6,.im (ptV rb 0)),(9,.im (aT sb 0 wd wd))]) hA.defers (by rw[aR]; exact hA.size) (fun z hz=>by
  simp only[List.mem_cons,List.not_mem_nil,or_false]at hz
  rcases hz with rfl|rfl|rfl|rfl
  ·exact aZ _ _ _ (by rw[hA.size]; decide)
  ·exact bF (hA.slot (v:=ptV pb 0) (by simp[Eo])) (by simp)
  ·exact bF (hA.slot (v:=ptV rb 0) (by simp[Eo])) (by simp)
  ·exact bF (hA.slot (v:=aT sb 0 wd wd) (by simp[Eo])) (by simp))
 clear hA hS3;refine aK (c:=tC T0 _) (hT _ _ 0) (hG _ _) (Em pb rb (aT sb 0 wd wd) _) trivial (by kernel_rfl) hS5 fun a6 w6 hA => ?_
 obtain⟨o3,ho3,⟨ts3,hop3⟩,hd3,hg3⟩:∃z,(aE pQ)[3]?=some z∧(∃ts,z.op=.call ⟨.value (.func 20),#[.tmp 36,.tmp 37],ts⟩)∧z.dst=some 38∧z.guard=none:=⟨_,rfl,⟨_,rfl⟩,rfl,rfl⟩
 have hb36:=hb35.trans (hA.below.mono hb35.size);have hO6:=hO.on hb36;have hv6:LV w6 (aT sb 0 wd wd) wd (pX x y):=⟨_,wd,rfl,Nat.le_refl _,fun q hq=>dP (hfs q hq),fun _=>⟨sb,0,rfl,hO6.lt,hO6.row⟩⟩;refine bC ho3 hg3 (bT hop3 (vs:=[.agg (aB (rP wd fl pt cs is)).toArray,aT sb 0 wd wd]) (List.cons_eq_cons.2 ⟨cO (hA.slotF (s:=36) (by simp)),List.cons_eq_cons.2 ⟨cO (hA.slot (s:=37) (by simp)),rfl⟩⟩) (fun args=>bG func20 (by kernel_rfl) (by kernel_rfl) args _) (rL (hM.on hA.below) hv6 hfs (by omega) (by omega) (by omega) (by omega)) fun e w7 hq => ?_);obtain⟨d,c,rfl,hc,hb7,hd7,hO7⟩:=hq;refine⟨_,rfl,?_⟩;rw[hd3];have hb37:=hb36.trans (hb7.mono hb36.size);have hS7:=eC (nt:=41) (w:=w7) (a:=a6.put (some 38) (aT d 0 wd c)) (ts:=[(38,.im (aT d 0 wd c)),(6,.im (ptV rb 0))]) hA.defers (by rw[aR]; exact hA.size) (fun z hz=>by
  simp only[List.mem_cons,List.not_mem_nil,or_false]at hz
  rcases hz with rfl|rfl
  ·exact aZ _ _ _ (by rw[hA.size]; decide)
  ·exact bF (hA.slot (v:=ptV rb 0) (by simp)) (by simp))
 clear hA hS5;refine aK (c:=tC T0 _) (hT _ _ 0) (bX w7 _ _ _) (El w7 rb wd d c (bO xs wd fl pt (fl+pt) (pX x y) 1)) ⟨rfl,by omega,fT hO7.lt hO7.row (by omega),rfl,trivial⟩ (by kernel_rfl) hS7 fun a8 w8 hA => ?_
 have hb38:=hb37.trans (hA.below.mono hb37.size);have t6:=hA.slot (s:=6) (v:=ptV rb 0) (by simp);have t40:=hA.slotF (s:=40) (l:=[.q (bO xs wd fl pt (fl+pt) (pX x y) 1)]) (by simp);have hdf:=hA.defers;have hsz:=hA.size;clear hA hS7;generalize bO xs wd fl pt (fl+pt) (pX x y) 1=X at *;obtain⟨o6,ho6,hop6,hd6,hg6⟩:∃z,(aE pQ)[6]?=some z∧z.op=.store 34 (.tmp 6) (.tmp 40)∧z.dst=none∧z.guard=none:=⟨_,rfl,rfl,rfl,rfl⟩
 have hb18:=hb13.trans (hb38.mono hb13.size);have hR8:=hrb.on hb18;have hput:put zC 0 [.q X]=some [.q X]:=rfl;obtain⟨hR9,hW9⟩:=hR8.set hput;refine bC ho6 hg6 (fI (vs:=aB [.q X]) hop6 hd6 (cO t6) (cO t40) rfl (DY _) WS (hR8.there (o:=0) (n:=4) (Nat.le_of_ble_eq_true rfl)) ?_);generalize w8.setCells rb 0 (aB [.q X])=w9 at *;have hH:=hR9.holds (k:=6) (nt:=41) (a:=a8) (ts:=[]) hdf hsz rfl t6 (fun z hz=>by cases hz);refine aK (c:=tC T0 _) (hT _ _ 0) (hG _ _) (Ek rb w9.heap.size X) trivial (by kernel_rfl) hH fun a9 w10 hA => ?_
 have hb10:=hA.below;exact wp_ret (bR (l:=[.fl [.q X],.im (.int .i64 0)]) (r:=.many [.fl [.q X],.im (.int .i64 0)]) (by kernel_rfl) (by kernel_rfl) hA ⟨rfl,((hbl.trans (hb18.mono hbl.size)).trans (hW9.below.mono hrB)).trans (hb10.mono hrB)⟩)
theorem Holds.soSlP {nt base:Nat} {w0:World} {A:List Fact} {a:Act} {w:World} (h:Holds nt base w0 A a w) {s k n e sz:Nat} {l:List At} (h1:Fact.slot s (.so k n)∈A) (h2:Fact.row k true l∈A) (h3:Fact.app k e sz n∈A):∃cap,n≤cap∧Holds nt base w0 (.slot s (.sl k 0 n cap)::A) a w:=by
 obtain⟨β,g1,g2,g3⟩:=h.facts;have e1:=g1 _ h1;obtain⟨_,_,e2,_⟩:=g1 _ h2;obtain⟨_,_,e3,_⟩:=g1 _ h3;have up:∀k1 o1 l1,Fact.row k1 o1 l1∈(Fact.slot s (.sl k 0 n (β k).2.2)::A)→Fact.row k1 o1 l1∈A:=fun k1 o1 l1 e=>by
  rcases List.mem_cons.1 e with e|e
  ·cases e
  ·exact e
 refine⟨(β k).2.2,e3,h.defers,h.size,h.below,h.heap,β,fun φ hφ => ?_,fun k1 k2 o2 l1 l2 q1 q2=>g2 k1 k2 o2 l1 l2 (up _ _ _ q1) (up _ _ _ q2),fun k1 l1 e=>g3.1 k1 l1 (up _ _ _ e),g3.2⟩
 rcases List.mem_cons.1 hφ with rfl|hφ
 ·exact e1
 ·exact g1 φ hφ
theorem qS {P:Program} {t:Nat} {l:List At} (h:yC P t=some l) (a:Act) {o:Oper} (ho:o.op=.alloc t) (w:World):(execOp a.eval o).run P w=.ok (.value (.pointer (some ⟨w.heap.size,0,none⟩))) (w.alloc (.cells (aB l).toArray t)):=by
 unfold yC at h;split at h
 ·rename_i i hi;split at h
  ·rename_i z hz;cases h;simp[execOp,ho,Instr.alloc,zeroValue,typeInfo,hi,hz,newVar,newRow,wX]
  ·cases h
 ·cases h
theorem uO (w:World) (l:List At) (t:Nat):Own (w.alloc (.cells (aB l).toArray t)) w.heap.size l∧Below w.heap.size w (w.alloc (.cells (aB l).toArray t)):=by
 have hB:Below w.heap.size w (w.alloc (.cells (aB l).toArray t)):=(Below.refl _ w).alloc (Nat.le_refl _) _;have h0:(w.alloc (.cells (aB l).toArray t)).heap[w.heap.size]?=some (.cells (aB l).toArray t):=World.alloc_heap_new _ _;refine⟨⟨by rw[World.size_alloc]; exact Nat.lt_succ_self _,fun q v hq => ?_,fun q => ?_⟩,hB⟩
 ·rw[cell_of_row _ _ (0+q) _ t (0,0) h0,Nat.zero_add];simpa using hq
 ·unfold World.frozen?;simp only[h0];simp
section
variable {ops:Array Oper} {o:Oper} {a:Act} {v:Value} {s:Nat} {S:World→Prop}
theorem tZ {t i j x y:Nat} {u v r:Value} (hop:o.op=.build t #[(i,.tmp x),(j,.tmp y)]) (hg:o.guard=none) (hx:a.tmps[x]?=some u) (hy:a.tmps[y]?=some v) {vs:Array Value} (hb:prog.built t [(i,u),(j,v)]=some vs) (hr:r=.agg vs):YieldsIf prog ops S o r a :=
 Or.inl ⟨by simp[Region.wanted,hg],fun wx hw=>by
  subst hr;have:=run_build (P:=prog) wx t #[(i,u),(j,v)] vs hb;simp[execOp,hop,cO hx,cO hy,this]⟩
end
def iM:Code:=(f14.body).getD .skip
noncomputable abbrev mxF:Func:=f14
def ZX:Code:=cA (cB (cB iM))
def Ps:Code:=cB (cB (cB (cB iM)))
def xA:Code:=gV (gV (cB (cA Ps)))
theorem ZW:iM=.seq (cA iM) (.seq (cA (cB iM)) (.seq (.region 4 (aE ZX) true) (.seq (cA (cB (cB (cB iM)))) (.seq (.seq (cA (cA Ps)) (.block 0 (.loop xA))) (cB Ps))))):=by kernel_rfl
theorem Pr:mxF.ntmps=30:=by kernel_rfl
theorem AR (wd fl pt:Nat) (is:Value) (h2:∃p n m,is=.slice p n m):prog.built 48 [(0,.agg (aB (rR wd fl pt)).toArray),(2,is)]=some (aB (rP wd fl pt (.slice none 0 0) is)).toArray:=by
 obtain⟨q,k,l,rfl⟩:=h2
 kernel_rfl
theorem IW:yC prog 48=some zP:=by kernel_rfl
theorem Ib {w:World} {a:Act} {pb wd fl pt:Nat} {Q:Exit→Act→World→Prop} (hm:oldOf w pb 0 (rR wd fl pt)) (h1:a.tmps[1]?=some (ptV pb 0)) (hdf:a.defers=[]) (hsz:a.tmps.size=30) (h2:2≤wd) (hw8:wd≤8)
  (hQ:∀a' w' pv ib,a'.defers=[]→a'.tmps.size=30→a'.tmps[1]?=some (ptV pb 0)→a'.tmps[5]?=some (ptV pv 0)→Own w' pv (rP wd fl pt (.slice none 0 0) (aT ib 0 (2*wd-1) (2*wd-1)))→LM w' ib (2*wd-1) (fun j=>inv (wd+j))→Below w.heap.size w w'→Q .normal a' w'):(Code.region 4 (aE ZX) true).wp prog Q a w:=by
 have hd:Below w.heap.size w w.drew:=(Below.refl _ w).drew;have S1:∀{u:World},oldOf u pb 0 (rR wd fl pt)→u.rangeAt pb 0 (aB (rR wd fl pt)):=fun h=>h.2
 obtain⟨dR,huR,hdR⟩:=OF;refine Code.wp_mono (Q:=iV fun a' w'=>∃pv ib,a'.defers=[]∧a'.tmps.size=30∧a'.tmps[1]?=some (ptV pb 0)∧a'.tmps[5]?=some (ptV pv 0)∧Own w' pv (rP wd fl pt (.slice none 0 0) (aT ib 0 (2*wd-1) (2*wd-1)))∧LM w' ib (2*wd-1) (fun j=>inv (wd+j))∧Below w.heap.size w w') (fun e a3 w3 h => ?_) (dD (fun wx=>wx.rangeAt pb 0 (aB (rR wd fl pt))) 6 aH ?_)
 ·obtain⟨rfl,pv,ib,e1,e2,e3,e4,e5,e6,e7⟩:=h;exact hQ _ _ _ _ e1 e2 e3 e4 e5 e6 e7
 have hS:w.drew.rangeAt pb 0 (aB (rR wd fl pt)):=(hm.on hd).2;obtain⟨o0,ho0,hop0,hd0,hg0⟩:∃x,(aE ZX)[0]?=some x∧x.op=.load 23 (.tmp 1)∧x.dst=some 13∧x.guard=none:=⟨_,rfl,rfl,rfl,rfl⟩
 refine aO (i:=0) (v:=.agg (aB (rR wd fl pt)).toArray) ho0 (by kernel_rfl) (by kernel_rfl) (by kernel_rfl) (by kernel_rfl) (fun _ _ _ h=>nR h) hS (qH hop0 hg0 h1 huR hdR DN fun _ h=>h) ?_;rw[hd0];obtain⟨o1,ho1,hop1,hd1,hg1⟩:∃x,(aE ZX)[1]?=some x∧x.op=.fieldAddr 23 (.tmp 1) 0∧x.dst=some 14∧x.guard=none:=⟨_,rfl,rfl,rfl,rfl⟩
 refine aO (i:=1) (v:=ptV pb 0) ho1 (by kernel_rfl) (by kernel_rfl) (by kernel_rfl) (by kernel_rfl) (fun _ _ _ h=>nR h) hS (yD hop1 hg1 (bF h1 (by decide)) (Pw pb)) ?_;rw[hd1];obtain⟨o2,ho2,hop2,hd2,hg2⟩:∃x,(aE ZX)[2]?=some x∧x.op=.load 3 (.tmp 14)∧x.dst=some 15∧x.guard=none:=⟨_,rfl,rfl,rfl,rfl⟩
 refine aO (i:=2) (v:=iI wd) ho2 (by kernel_rfl) (by kernel_rfl) (by kernel_rfl) (by kernel_rfl) (fun _ _ _ h=>nR h) hS (GP hop2 hg2 (aZ _ _ _ (by simp only[aR,hsz]; decide)) (by kernel_rfl) fun wx h=>by have:=h 0 _ rfl; rwa [Nat.zero_add]at this) ?_;rw[hd2];have g13:(((a.put (some 13) (.agg (aB (rR wd fl pt)).toArray)).put (some 14) (ptV pb 0)).put (some 15) (iI wd)).tmps[13]?=some (.agg (aB (rR wd fl pt)).toArray):=bF (bF (aZ _ _ _ (by rw[hsz]; decide)) (by decide)) (by decide);have g15:(((a.put (some 13) (.agg (aB (rR wd fl pt)).toArray)).put (some 14) (ptV pb 0)).put (some 15) (iI wd)).tmps[15]?=some (iI wd):=aZ _ _ _ (by simp only[aR,hsz]; decide);have g1:(((a.put (some 13) (.agg (aB (rR wd fl pt)).toArray)).put (some 14) (ptV pb 0)).put (some 15) (iI wd)).tmps[1]?=some (ptV pb 0):=bF (bF (bF h1 (by decide)) (by decide)) (by decide);have gs:(((a.put (some 13) (.agg (aB (rR wd fl pt)).toArray)).put (some 14) (ptV pb 0)).put (some 15) (iI wd)).tmps.size=30:=by simp only[aR,hsz]
 have gd:(((a.put (some 13) (.agg (aB (rR wd fl pt)).toArray)).put (some 14) (ptV pb 0)).put (some 15) (iI wd)).defers=[]:=hdf;generalize ((a.put (some 13) (.agg (aB (rR wd fl pt)).toArray)).put (some 14) (ptV pb 0)).put (some 15) (iI wd)=a3 at *;obtain⟨o3,ho3,⟨ts3,hop3⟩,hd3,hg3⟩:∃x,(aE ZX)[3]?=some x∧(∃ts,x.op=.call ⟨.value (.func 25),#[.tmp 15],ts⟩)∧x.dst=some 16∧x.guard=none:=⟨_,rfl,⟨_,rfl⟩,rfl,rfl⟩
 obtain⟨o4,ho4,hop4,hd4,hg4⟩:∃x,(aE ZX)[4]?=some x∧x.op=.build 48 #[(0,.tmp 13),(2,.tmp 16)]∧x.dst=some 17∧x.guard=none:=⟨_,rfl,rfl,rfl,rfl⟩
 obtain⟨o5,ho5,hop5,hd5,hg5⟩:∃x,(aE ZX)[5]?=some x∧x.op=.alloc 48∧x.dst=some 5∧x.guard=none:=⟨_,rfl,rfl,rfl,rfl⟩
 obtain⟨o6,ho6,hop6,hd6,hg6⟩:∃x,(aE ZX)[6]?=some x∧x.op=.store 48 (.tmp 5) (.tmp 17)∧x.dst=none∧x.guard=none:=⟨_,rfl,rfl,rfl,rfl⟩
 have hmd:=hm.on hd;have fin:∀{K:Act→World→Prop} {a5:Act} {w5:World} {pv ib:Nat},(∀(b:Act) (u:World),(6=6∨u.rangeAt pb 0 (aB (rR wd fl pt)))→((∃pv ib,b.defers=[]∧b.tmps.size=30∧b.tmps[1]?=some (ptV pb 0)∧b.tmps[5]?=some (ptV pv 0)∧Own u pv (rP wd fl pt (.slice none 0 0) (aT ib 0 (2*wd-1) (2*wd-1)))∧LM u ib (2*wd-1) (fun j=>inv (wd+j))∧Below w.heap.size w u))→K b u) →
   a5.defers=[]→a5.tmps.size=30→a5.tmps[1]?=some (ptV pb 0)→a5.tmps[5]?=some (ptV pv 0)→a5.tmps[17]?=some (.agg (aB (rP wd fl pt (.slice none 0 0) (aT ib 0 (2*wd-1) (2*wd-1)))).toArray)→Own w5 pv zP→LM w5 ib (2*wd-1) (fun j=>inv (wd+j))→ib≠pv→w.heap.size≤pv→Below w.heap.size w w5 →
   Oper.wp prog o6 a5 w5 K (iV fun a' w'=>∃pv ib,a'.defers=[]∧a'.tmps.size=30∧a'.tmps[1]?=some (ptV pb 0)∧a'.tmps[5]?=some (ptV pv 0)∧Own w' pv (rP wd fl pt (.slice none 0 0) (aT ib 0 (2*wd-1) (2*wd-1)))∧LM w' ib (2*wd-1) (fun j=>inv (wd+j))∧Below w.heap.size w w'):=by
  intro K a5 w5 pv ib hK e1 e2 e3 e4 e5 hO hL hne hge hB;have hput:put zP 0 (rP wd fl pt (.slice none 0 0) (aT ib 0 (2*wd-1) (2*wd-1)))=some (rP wd fl pt (.slice none 0 0) (aT ib 0 (2*wd-1) (2*wd-1))):=rfl;obtain⟨hO2,hW⟩:=hO.set hput;refine fI (vs:=aB (rP wd fl pt (.slice none 0 0) (aT ib 0 (2*wd-1) (2*wd-1)))) hop6 hd6 (cO e4) (cO e5) rfl rfl Da (hO.there (o:=0) (n:=5) (Nat.le_of_ble_eq_true rfl)) ?_;exact hK _ _ (Or.inl rfl) ⟨pv,ib,e1,e2,e3,e4,hO2,oldOf.wr hL hW hne,hB.trans (hW.below.mono hge)⟩
 refine OI (i:=3) (j:=5) (by kernel_rfl) ho3 ho5 (fun K hK => ?_) (fun K hK => ?_)
 ·
  rw[if_pos (by simp[Region.wanted,hg3])];refine bT hop3 (vs:=[iI wd]) (List.cons_eq_cons.2 ⟨cO g15,rfl⟩) (fun args=>bG func25 (by kernel_rfl) (by kernel_rfl) args _) (sJ (wd:=wd) (N:=2*wd-1) (by omega) (by omega)) fun e w2 hr => ?_
  obtain⟨ib,rfl,hb2,hige,hib⟩:=hr;refine⟨_,rfl,?_⟩;rw[hd3];have hm2:=hmd.on hb2;have hB2:=hd.trans (hb2.mono hd.size);refine hK.out _ _ (Or.inr hm2.2) fun _ => ?_
  clear hK;have k13:=bF (d:=16) (u:=aT ib 0 (2*wd-1) (2*wd-1)) g13 (by decide);have k16:=aZ a3 16 (aT ib 0 (2*wd-1) (2*wd-1)) (by rw[gs]; decide);refine aO (i:=4) (v:=.agg (aB (rP wd fl pt (.slice none 0 0) (aT ib 0 (2*wd-1) (2*wd-1)))).toArray) ho4 (by kernel_rfl) (by kernel_rfl) (by kernel_rfl) (by kernel_rfl) (fun _ _ _ h=>nR h) hm2.2 (tZ hop4 hg4 k13 k16 (AR wd fl pt _ ⟨_,_,_,rfl⟩) rfl) ?_;rw[hd4];refine aY (i:=5) (by kernel_rfl) ho5 fun K5 hK5 => ?_
  rw[if_pos (by simp[Region.wanted,hg5])];obtain⟨hO,hB⟩:=uO w2 zP 48;refine cY (qS IW _ hop5 w2) ?_;rw[hd5];have hib3:=hib.on hB;have hne:ib≠w2.heap.size:=fun e=>by have:=hib.1; omega
  have hm3:=hm2.on hB;have hB3:=hB2.trans (hB.mono hB2.size);have hge:w.heap.size≤w2.heap.size:=hB2.size;generalize hpv:w2.heap.size=pv at *;generalize w2.alloc (.cells (aB zP).toArray 48)=w3 at *;refine hK5.out _ _ (Or.inr hm3.2) fun _ => ?_
  clear hK5;refine aY (i:=6) (by kernel_rfl) ho6 fun K6 hK6 => ?_
  rw[if_pos (by simp[Region.wanted,hg6])];refine fin (fun b u h3 h4=>hK6.out _ _ h3 fun _=>eB (by kernel_rfl) ⟨rfl,h4⟩) gd (by simp only[aR,gs]) (bF (bF (bF g1 (by decide)) (by decide)) (by decide)) (aZ _ _ _ (by simp only[aR,gs]; decide)) (bF (aZ _ _ _ (by simp only[aR,gs]; decide)) (by decide)) hO hib3 hne hge hB3
 ·
  rw[if_pos (by simp[Region.wanted,hg5])];obtain⟨hO,hB⟩:=uO w.drew zP 48;refine cY (qS IW _ hop5 w.drew) ?_;rw[hd5];have hm3:=hmd.on hB;have hB3:=hd.trans (hB.mono hd.size);have hge:w.heap.size≤w.drew.heap.size:=hd.size;generalize hpv:w.drew.heap.size=pv at *;generalize w.drew.alloc (.cells (aB zP).toArray 48)=w3 at *;refine hK.out _ _ (Or.inr hm3.2) fun _ => ?_
  clear hK;refine aY (i:=3) (by kernel_rfl) ho3 fun K3 hK3 => ?_
  rw[if_pos (by simp[Region.wanted,hg3])];refine bT hop3 (vs:=[iI wd]) (List.cons_eq_cons.2 ⟨cO (bF g15 (by decide)),rfl⟩) (fun args=>bG func25 (by kernel_rfl) (by kernel_rfl) args _) (sJ (wd:=wd) (N:=2*wd-1) (by omega) (by omega)) fun e w4 hr => ?_
  obtain⟨ib,rfl,hb2,hige,hib⟩:=hr;refine⟨_,rfl,?_⟩;rw[hd3];have hm4:=hm3.on hb2;have hO4:=hO.on hb2;have hB4:=hB3.trans (hb2.mono hB3.size);have hne:ib≠pv:=fun e=>by have:=hO.lt; omega
  refine hK3.out _ _ (Or.inr hm4.2) fun _ => ?_
  clear hK3;have k13:=bF (d:=16) (u:=aT ib 0 (2*wd-1) (2*wd-1)) (bF (d:=5) (u:=ptV pv 0) g13 (by decide)) (by decide);have k16:=aZ (a3.put (some 5) (ptV pv 0)) 16 (aT ib 0 (2*wd-1) (2*wd-1)) (by rw[aR,gs]; decide);refine aO (i:=4) (v:=.agg (aB (rP wd fl pt (.slice none 0 0) (aT ib 0 (2*wd-1) (2*wd-1)))).toArray) ho4 (by kernel_rfl) (by kernel_rfl) (by kernel_rfl) (by kernel_rfl) (fun _ _ _ h=>nR h) hm4.2 (tZ hop4 hg4 k13 k16 (AR wd fl pt _ ⟨_,_,_,rfl⟩) rfl) ?_;rw[hd4];refine aY (i:=6) (by kernel_rfl) ho6 fun K6 hK6 => ?_
  rw[if_pos (by simp[Region.wanted,hg6])];refine fin (fun b u h3 h4=>hK6.out _ _ h3 fun _=>eB (by kernel_rfl) ⟨rfl,h4⟩) gd (by simp only[aR,gs]) (bF (bF (bF g1 (by decide)) (by decide)) (by decide)) (bF (bF (aZ _ _ _ (by simp only[gs]; decide)) (by decide)) (by decide)) (aZ _ _ _ (by simp only[aR,gs]; decide)) hO4 hib hne hge hB4
theorem CC (g:Nat→List At):∀n s m,aG g s (n+m)=aG g s n++aG g (s+n) m
 | 0,s,m=>by rw[Nat.zero_add]; rfl
 | n+1,s,m=>by
  rw[show n+1+m=(n+m)+1 by omega];show g s++aG g (s+1) (n+m)=(g s++aG g (s+1) n)++aG g (s+(n+1)) m;rw[CC g n (s+1) m,List.append_assoc,show s+1+n=s+(n+1) by omega]
theorem tA (f:Nat→Nat):∀m s k,aG (el f) (k+s) m=aG (el fun q=>f (k+q)) s m
 | 0,_,_=>rfl
 | m+1,s,k=>by
  show el f (k+s)++aG (el f) (k+s+1) m=el (fun q=>f (k+q)) s++aG (el fun q=>f (k+q)) (s+1) m;rw[show k+s+1=k+(s+1) by omega,tA f m (s+1) k];rfl
def nS (wd j:Nat):Nat:=inv (wd+(j/wd+j%wd))
theorem Ic {wd i q:Nat} (hq:q<wd):nS wd (i*wd+q)=inv (wd+(i+q)):=by
 have h0:0<wd:=by omega
 unfold nS;rw[Nat.mul_comm i wd,Nat.mul_add_div h0,Nat.div_eq_of_lt hq,Nat.add_zero,Nat.mul_add_mod,Nat.mod_eq_of_lt hq]
theorem IX (wd i:Nat):aG (el (nS wd)) 0 (i*wd+wd)=aG (el (nS wd)) 0 (i*wd)++aG (el fun q=>inv (wd+(i+q))) 0 wd:=by
 rw[CC,Nat.zero_add];have e:=tA (nS wd) wd 0 (i*wd);rw[Nat.add_zero]at e;have e2:aG (el fun q=>nS wd (i*wd+q)) 0 wd=aG (el fun q=>inv (wd+(i+q))) 0 wd:=eQ wd 0 fun q hq=>by rw[Nat.zero_add]; exact Ic hq
 rw[e,e2]
def xW (w:World) (ld:Nat→Option (List At)) (mks:Nat→Option (Nat×List At)):Ext:={ Ext.none with ld:=ld,mks:=mks,old:=oldOf w,T2:=KS,T3:=pO,T4:=KJ,T5:=iA,T6:=KQ }
theorem Cv (w:World) (ld:Nat→Option (List At)) (mks:Nat→Option (Nat×List At)):bD prog { qG prog with x:=xW w ld mks } w.heap.size w :=
 ⟨(bM _).1,eF (fun b o l h=>h) (fun w' _=>FrAt.none _ _) (fun w' _=>FsAt.none _ _)⟩
def Ye (pb pv:Nat):List Fact:=[.slot 1 (.im (ptV pb 0)),.slot 5 (.im (ptV pv 0))]
def Yd (pb pv:Nat):List Fact:=.slot 6 (.im (.slice none 0 0))::Ye pb pv
def myC (pb pv wd i:Nat):List Fact:=.slot 19 (.im (iI wd)) :: .slot 20 (.im (iI i))::Ye pb pv
def CQ (pb pv wd i n:Nat) (l:List At):List Fact:=.slot 6 (.so 27 n) :: .row 27 true l :: .app 27 34 4 n::myC pb pv wd i
def Uy (pb pv wd:Nat):List Fact:=.slot 6 (.im (.slice none 0 0))::myC pb pv wd 0
def Kw (wd fl pt j:Nat) (cs is rw:Value):Tab:=T0.add 26 (Vc wd fl pt j cs is rw)
section
variable (w:World) (pb pv wd fl pt i b o m n n':Nat) (cs is:Value) (news l L:List At)
theorem Pn:aJ prog (qG prog) 30 (fun _=>tC T0 fun _=>none) 60 (cA iM) (eO 0 [.v (.fl (rR wd fl pt))]) [.slot 1 (.pt 1 0),.row 1 true (rR wd fl pt)]=some ([],.nrm,[.slot 1 (.pt 1 0),.row 1 true (rR wd fl pt)]):=by kernel_rfl
theorem Yc:aJ prog { qG prog with x:=xO w (fun _=>none) (aD [(8,rR wd fl pt)]) (fun _=>none) } 30 (fun _=>tC (T0.add 17 (FJ wd fl pt)) fun _=>none) 60 (cA (cB iM)) [.slot 1 (.im (ptV pb 0))] [.slot 1 (.im (ptV pb 0))]=some ([oldOf w pb 0 (rR wd fl pt),bW (rR wd fl pt)=3,aB (rR wd fl pt)=aB (rR wd fl pt)],.nrm,[.slot 1 (.im (ptV pb 0))]):=by kernel_rfl
theorem Yb:aJ prog (qG prog) 30 (fun _=>tC T0 fun _=>none) 60 (cA (cB (cB (cB iM)))) (Ye pb pv) (Yd pb pv)=some ([],.nrm,Yd pb pv):=by kernel_rfl
theorem Ya:aJ prog { qG prog with x:=xO w (fun _=>none) (fun _=>none) (aD [(19,iI wd)]) } 30 (fun _=>tC T0 fun _=>none) 60 (cA (cA Ps)) (Yd pb pv) (Uy pb pv wd)=some ([oldOf w pb 0 [.c (iI wd)]],.nrm,Uy pb pv wd):=by kernel_rfl
theorem Pp:aJ prog { qG prog with x:=xW w (aD [(24,rP wd fl pt cs is),(27,news)]) (aD [(27,(n,L))]) } 30 (fun _=>tC (Kw wd fl pt 0 cs is (aT b o wd m)) (aD [(21,.bool true),(28,iI 1)])) 60 xA (Uy pb pv wd) (CQ pb pv wd 1 n L)=some ([aF .lss .i64 0 (Int.ofNat wd)=some (.bool true),oldOf w pv 0 (rP wd fl pt cs is),bW (rP wd fl pt cs is)=5,aB (rP wd fl pt cs is)=aB (rP wd fl pt cs is),iI 0=iI 0,oldOf w b o news,bW news=wd*4,∀x∈aB news,x.oneCell'=true,0<wd,(0+wd)*32≤140737488355328,0+wd≤4611686018427387904,n=0+wd,aB L=aB ([]++news),aF .add .i64 0 1=some (iI 1)],.nrm,CQ pb pv wd 1 n L):=by kernel_rfl
theorem Po:aJ prog { qG prog with x:=xW w (aD [(24,rP wd fl pt cs is),(27,news)]) (aD [(27,(n',L))]) } 30 (fun _=>tC (Kw wd fl pt i cs is (aT b o wd m)) (aD [(21,.bool true),(28,iI (i+1))])) 60 xA (CQ pb pv wd i n l) (CQ pb pv wd (i+1) n' L)=some ([aF .lss .i64 (Int.ofNat i) (Int.ofNat wd)=some (.bool true),oldOf w pv 0 (rP wd fl pt cs is),bW (rP wd fl pt cs is)=5,aB (rP wd fl pt cs is)=aB (rP wd fl pt cs is),iI i=iI i,oldOf w b o news,bW news=wd*4,n=n,bW l=n*4,∀x∈aB news,x.oneCell'=true,0<wd,(n+wd)*32≤140737488355328,n+wd≤4611686018427387904,n'=n+wd,aB L=aB (l++news),aF .add .i64 (Int.ofNat i) 1=some (iI (i+1))],.nrm,CQ pb pv wd (i+1) n' L):=by kernel_rfl
theorem Xz:aJ prog (qG prog) 30 (fun _=>tC T0 (aD [(21,.bool false)])) 60 xA (CQ pb pv wd i n l) (CQ pb pv wd i n l)=some ([aF .lss .i64 (Int.ofNat i) (Int.ofNat wd)=some (.bool false)],.ex 0,CQ pb pv wd i n l):=by kernel_rfl
theorem Pq:aJ prog (qG prog) 30 (fun _=>tC T0 fun _=>none) 60 (cB Ps) (.at 27 b :: .slot 6 (.sl 27 0 n m)::CQ pb pv wd i n l) [.slot 2 (.sl 27 0 n m),.slot 3 (.im (.int .i64 0)),.row 27 true l,.at 27 b]=some ([],.rt,[.slot 2 (.sl 27 0 n m),.slot 3 (.im (.int .i64 0)),.row 27 true l,.at 27 b]):=by kernel_rfl
end
theorem KL {w0:World} {wd fl pt i M ib:Nat} {cs:Value} (hi:i<M) (hw:i+wd≤M) (hM:M≤65536):TabOkW prog (Kw wd fl pt i cs (aT ib 0 M M) (aT ib (0+i*4) wd (M-i))) w0.heap.size w0 :=
 TabOkW.add ((bH _).w _ _) func26 (by kernel_rfl) (by kernel_rfl) (fun w hx cs' pre r hg hp args ha=>by
  unfold Vc at hg;split at hg
  ·cases hg
   match args,ha with
   | [u,v],ha =>
    have e1:u=.agg (aB _).toArray:=ha.1;have e2:v=_:=ha.2.1;obtain⟨h1,h2,_⟩:=hp;rw[h1]at e1;rw[h2]at e2;subst e1; subst e2;exact uE hi hw hM
   | [],ha=>exact ha.elim
   | [_],ha=>exact ha.2.elim
   | _::_::_::_,ha=>exact ha.2.2.elim
  ·cases hg)
theorem AQ {w0:World} {wd fl pt:Nat} (hr:RdOk wd fl pt) :
  Calls prog 14 [.agg (aB (rR wd fl pt)).toArray].toArray w0 (fun e w'=>∃b cap,e=.returned (.tuple #[aT b 0 (wd*wd) cap,.int .i64 0])∧wd*wd≤cap∧Below w0.heap.size w0 w'∧w0.heap.size≤b∧Own w' b (aG (el (nS wd)) 0 (wd*wd))):=by
 have h2:=hr.w2;have hw8:=hr.w8;have hG:∀base w,bD prog (qG prog) base w:=fun _ _=>(bM _).w _ _
 have hT:∀base w,∀n d:Nat,TabOkW prog T0 base w:=fun _ _ _ _=>(bH _).w _ _
 have hnt:f14.ntmps=30:=Pr;refine bP func14 (cs:=[.v (.fl (rR wd fl pt))]) (args:=[.agg (aB (rR wd fl pt)).toArray]) (c:=iM) rfl ⟨rfl,trivial⟩ (Nat.le_of_ble_eq_true (by kernel_rfl)) fun a w hA => ?_
 rw[hnt]at hA;rw[ZW];refine wp_seq (aA aH (hT _ _) (hG _ _) (Pn wd fl pt) trivial hA fun a w1 hA => ?_);obtain⟨pb,hA⟩:=hA.at (k:=1) (l:=rR wd fl pt) (by simp);have hpb:oldOf w1 pb 0 (rR wd fl pt):=hA.old (k:=1) (by simp) (by simp);have hbl:=hA.below;have hS:=aS (nt:=30) (w:=w1) (a:=a) (ts:=[(1,ptV pb 0)]) hA.defers hA.size (fun x hx=>by
  cases List.mem_singleton.1 hx;exact hA.ptS (s:=1) (k:=1) (o:=0) (by simp) (by simp))
 clear hA;refine wp_seq (aA aH (fun _ _=>lL hr) (bX w1 _ _ _) (Yc w1 pb wd fl pt) ⟨hpb,rfl,rfl,trivial⟩ hS fun a w2 hA => ?_);clear hS;have hb2:=hA.below;have hpb2:=oldOf.go hb2 (Nat.le_refl _) hpb;refine wp_seq (Ib hpb2 (hA.slot (by simp)) hA.defers hA.size h2 hw8 fun a w3 pv ib e1 e2 e3 e4 hO hL hb3 => ?_);clear hA;have hb13:=hb2.trans (hb3.mono hb2.size);have hpb3:=oldOf.go hb3 (Nat.le_refl _) hpb2;have hp0:oldOf w3 pb 0 [.c (iI wd)]:=⟨hpb3.1,cD (i:=0) (n:=1) hpb3.2 rfl⟩;have hpv:oldOf w3 pv 0 (rP wd fl pt (.slice none 0 0) (aT ib 0 (2*wd-1) (2*wd-1))):=⟨hO.lt,hO.row⟩;have hS:=aS (nt:=30) (w:=w3) (a:=a) (ts:=[(1,ptV pb 0),(5,ptV pv 0)]) e1 e2 (fun x hx=>by
  simp only[List.mem_cons,List.not_mem_nil,or_false]at hx
  rcases hx with rfl|rfl
  ·exact e3
  ·exact e4)
 refine wp_seq (aA aH (hT _ _) (hG _ _) (Yb pb pv) trivial hS fun a w4 hA => ?_);clear hS;refine wp_seq (wp_seq (aA aH (hT _ _) (bX w3 _ _ _) (Ya w3 pb pv wd) ⟨hp0,trivial⟩ hA fun a w5 hA => ?_));refine wp_block ?_;have hww:wd*wd≤64:=Nat.le_trans (Nat.mul_le_mul hw8 hw8) (by decide);have hold:∀i,i<wd→oldOf w3 ib (0+i*4) (aG (el fun q=>inv (wd+(i+q))) 0 wd):=fun i hi=>by
  have hlv:=(hL.lv (fun _ _=>dP (kX _))).piece (o:=0) (i:=i) (k:=wd) (f:=fun j=>inv (wd+j)) (by omega);obtain⟨p,m,e,_,_,hmem⟩:=hlv;obtain⟨b,o,e2,hb,hr⟩:=hmem (by omega);rw[e2]at e;cases e;exact⟨hb,hr⟩
 have hnews:∀i,bW (aG (el fun q=>inv (wd+(i+q))) 0 wd)=wd*4:=fun i=>dY (f:=el fun q=>inv (wd+(i+q))) (c:=4) (fun _=>rfl) wd 0
 let F:Nat→List Fact:=fun i=>match i with
  | 0=>Uy pb pv wd
  | i+1=>CQ pb pv wd (i+1) ((i+1)*wd) (aG (el (nS wd)) 0 ((i+1)*wd))
 have hend:F wd=CQ pb pv wd wd (wd*wd) (aG (el (nS wd)) 0 (wd*wd)):=by
  obtain⟨k,rfl⟩:∃k,wd=k+1:=⟨wd-1,by omega⟩
  rfl
 refine dS aH F wd (fun i hi => ?_) (.ex 0) (by simp) (CQ pb pv wd wd (wd*wd) (aG (el (nS wd)) 0 (wd*wd))) (by
  rw[hend];exact⟨_,_,_,_,hG _ _,hT _ _,Xz pb pv wd wd (wd*wd) _,bV (Nat.le_refl _),trivial⟩) hA fun a w6 hA => ?_
 ·cases i with
  | zero =>
   refine⟨_,_,_,_,Cv w3 _ _,fun _ _=>KL (M:=2*wd-1) (by omega) (by omega) (by omega),Pp w3 pb pv wd fl pt ib (0+0*4) (2*wd-1-0) ((0+1)*wd) (.slice none 0 0) (aT ib 0 (2*wd-1) (2*wd-1)) (aG (el fun q=>inv (wd+(0+q))) 0 wd) (aG (el (nS wd)) 0 ((0+1)*wd)),bZ hi,hpv,rfl,rfl,rfl,hold 0 hi,hnews 0,oC _ _ _,by omega,by omega,by omega,by omega,?_,dT (i:=0) (k:=1) (by omega),trivial⟩;have:=IX wd 0;rw[Nat.zero_mul,Nat.zero_add]at this;rw[show (0+1)*wd=wd by omega,this];rfl
  | succ i =>
   have e:(i+1+1)*wd=(i+1)*wd+wd:=by rw[Nat.add_mul (i+1) 1 wd,Nat.one_mul]
   have hle:(i+1)*wd+wd≤64:=by
    rw[←e];exact Nat.le_trans (Nat.mul_le_mul (show i+1+1≤8 by omega) hw8) (by decide)
   exact⟨_,_,_,_,Cv w3 _ _,fun _ _=>KL (M:=2*wd-1) (by omega) (by omega) (by omega),Po w3 pb pv wd fl pt (i+1) ib (0+(i+1)*4) (2*wd-1-(i+1)) ((i+1)*wd) ((i+1+1)*wd) (.slice none 0 0) (aT ib 0 (2*wd-1) (2*wd-1)) (aG (el fun q=>inv (wd+(i+1+q))) 0 wd) (aG (el (nS wd)) 0 ((i+1)*wd)) (aG (el (nS wd)) 0 ((i+1+1)*wd)),bZ hi,hpv,rfl,rfl,rfl,hold (i+1) hi,hnews (i+1),rfl,dY (f:=el (nS wd)) (c:=4) (fun _=>rfl) _ _,oC _ _ _,by omega,by omega,by omega,e,by rw[e,IX wd (i+1)],dT (i:=i+1) (k:=1) (by omega),trivial⟩
 simp only[EA.out,Exit.then,Exit.inBlock,if_true];obtain⟨cap,hcap,hA⟩:=hA.soSlP (s:=6) (k:=27) (n:=wd*wd) (e:=34) (sz:=4) (l:=aG (el (nS wd)) 0 (wd*wd)) (by simp[CQ]) (by simp[CQ]) (by simp[CQ]);obtain⟨b,hA⟩:=hA.at (k:=27) (l:=aG (el (nS wd)) 0 (wd*wd)) (by simp[CQ]);refine aA aH (hT _ _) (hG _ _) (Pq pb pv wd wd b cap (wd*wd) _) trivial hA fun a w7 hA => ?_
 have hO7:=hA.own (k:=27) (b:=b) (l:=aG (el (nS wd)) 0 (wd*wd)) (by simp) (by simp);have hge:=hA.geq (k:=27) (b:=b) (l:=aG (el (nS wd)) 0 (wd*wd)) (by simp) (by simp);have hb7:=hA.below;have hb17:=hb13.trans (hb7.mono hb13.size);exact bR (l:=[.im (aT b 0 (wd*wd) cap),.im (.int .i64 0)]) (r:=.many [.im (aT b 0 (wd*wd) cap),.im (.int .i64 0)]) (by kernel_rfl) (by kernel_rfl) (hA.im (s:=2) (k:=27) (o:=0) (n:=wd*wd) (m:=cap) (b:=b) (by simp) (by simp)) ⟨b,cap,rfl,hcap,hbl.trans (hb17.mono hbl.size),Nat.le_trans hbl.size (Nat.le_trans hb13.size hge),hO7⟩
theorem Yf (a b c:Int):eM prog (qG prog) (fun _=>tC (T0.add 17 (ME 91)) (fun _=>none)) f14 60 [.v (.fl (rZ a b c))]=some ([FZ a b c 91],.many [.im (.slice none 0 0),.im (.int .i64 91)]):=by kernel_rfl
theorem Zj (a b c:Int):eM prog (qG prog) (fun _=>tC (T0.add 17 (ME 91)) (fun _=>none)) f13 60 [.v (.fl (rZ a b c))]=some ([FZ a b c 91],.many [.im (.slice none 0 0),.im (.int .i64 91)]):=by kernel_rfl
def gCo (wd fl pt:Nat) (xs:Nat→Nat):List CA→Option (List Prop×FR)
 | [.v (.fl l)]=>some ([aB l=aB (rR wd fl pt)],⟨aG (el xs) 0 (wd*(fl+pt)),wd*(fl+pt),wd*(fl+pt),[]⟩)
 | _=>none
def xCo (wd fl pt:Nat) (xs:Nat→Nat):Ext:={ Ext.none with T2:=KS.add 24 (gCo wd fl pt xs),T3:=pO,T4:=KJ,T5:=iA,T6:=KQ }
theorem Ef {w0:World} {wd fl pt:Nat} {xs:Nat→Nat} (hr:RdOk wd fl pt) (hc:tY wd fl pt xs) (hD:Dbj w0):bD prog { qG prog with x:=xCo wd fl pt xs } w0.heap.size w0 :=
 ⟨(bM _).1,eF (fun b o l h=>h.elim) (fun w' hw=>(FrAt.none _ _).add func24 (by kernel_rfl) (by kernel_rfl) (fun cs pre r hg hp args ha=>by
  unfold gCo at hg;split at hg
  ·cases hg
   match args,ha with
   | [u],ha =>
    have e:u=.agg (aB _).toArray:=ha.1;rw[hp.1]at e;subst e;obtain⟨fu,sq,h0,hx⟩:=hc;have h8:=hr.w8;have h64:=hr.f64;have h128:=hr.p128;exact BQ (by omega) (by omega) (by omega) (Nat.le_trans (Nat.mul_le_mul h8 (show fl+pt≤192 by omega)) (by decide)) (by omega) h0 hx (hD.on hD.lt hw)
   | [],ha=>exact ha.elim
   | _::_::_,ha=>exact ha.2.elim
  ·cases hg)) (fun w' _=>FsAt.none _ _)⟩
def lE:Code:=(f13.body).getD .skip
theorem Bt:lE=.seq (cA lE) (.seq (cA (cB lE)) (cB (cB lE))):=by kernel_rfl
def Lo (wd fl pt:Nat):List Fact:=[.slot 1 (.pt 1 0),.row 1 true (rR wd fl pt)]
theorem So (wd fl pt:Nat):aJ prog (qG prog) f13.ntmps (fun _=>tC T0 fun _=>none) 60 (cA lE) (eO 0 [.v (.fl (rR wd fl pt))]) (Lo wd fl pt)=some ([],.nrm,Lo wd fl pt):=by kernel_rfl
theorem Zl (wd fl pt:Nat):aJ prog (qG prog) f13.ntmps (fun _=>tC (T0.add 17 (FJ wd fl pt)) fun _=>none) 60 (cA (cB lE)) (Lo wd fl pt) (Lo wd fl pt)=some ([aB (rR wd fl pt)=aB (rR wd fl pt)],.nrm,Lo wd fl pt):=by kernel_rfl
theorem Zk (wd fl pt:Nat) (xs:Nat→Nat):aJ prog { qG prog with x:=xCo wd fl pt xs } f13.ntmps (fun _=>tC T0 fun _=>none) 60 (cB (cB lE)) (Lo wd fl pt) [.slot 2 (.sl 11 0 (wd*(fl+pt)) (wd*(fl+pt))),.slot 3 (.im (.int .i64 0)),.row 11 true (aG (el xs) 0 (wd*(fl+pt)))]=some ([aB (rR wd fl pt)=aB (rR wd fl pt)],.rt,[.slot 2 (.sl 11 0 (wd*(fl+pt)) (wd*(fl+pt))),.slot 3 (.im (.int .i64 0)),.row 11 true (aG (el xs) 0 (wd*(fl+pt)))]):=by kernel_rfl
theorem MS {w0:World} {wd fl pt:Nat} {xs:Nat→Nat} (hr:RdOk wd fl pt) (hc:tY wd fl pt xs) (hD:Dbj w0) :
  Calls prog 13 [.agg (aB (rR wd fl pt)).toArray].toArray w0 (fun e w'=>∃b,e=.returned (.tuple #[aT b 0 (wd*(fl+pt)) (wd*(fl+pt)),.int .i64 0])∧Below w0.heap.size w0 w'∧w0.heap.size≤b∧Own w' b (aG (el xs) 0 (wd*(fl+pt)))):=by
 have hG:∀base w,bD prog (qG prog) base w:=fun _ _=>(bM _).w _ _
 have hT:∀base w,∀n d:Nat,TabOkW prog T0 base w:=fun _ _ _ _=>(bH _).w _ _
 refine bP func13 (cs:=[.v (.fl (rR wd fl pt))]) (args:=[.agg (aB (rR wd fl pt)).toArray]) (c:=lE) rfl ⟨rfl,trivial⟩ (Nat.le_of_ble_eq_true (by kernel_rfl)) fun a w hA => ?_
 rw[Bt];refine wp_seq (aA aH (hT _ _) (hG _ _) (So wd fl pt) trivial hA fun a w1 hA => ?_);refine wp_seq (aA aH (fun _ _=>lL hr) (hG _ _) (Zl wd fl pt) ⟨rfl,trivial⟩ hA fun a w1 hA => ?_);refine aA aH (hT _ _) (Ef hr hc hD) (Zk wd fl pt xs) ⟨rfl,trivial⟩ hA fun a w2 hA => ?_
 obtain⟨b,hA⟩:=hA.at (k:=11) (l:=aG (el xs) 0 (wd*(fl+pt))) (by simp);have hO:=hA.own (k:=11) (b:=b) (l:=aG (el xs) 0 (wd*(fl+pt))) (by simp) (by simp);have hge:=hA.geq (k:=11) (b:=b) (l:=aG (el xs) 0 (wd*(fl+pt))) (by simp) (by simp);have hb:=hA.below;exact bR (l:=[.im (aT b 0 (wd*(fl+pt)) (wd*(fl+pt))),.im (.int .i64 0)]) (r:=.many [.im (aT b 0 (wd*(fl+pt)) (wd*(fl+pt))),.im (.int .i64 0)]) (by kernel_rfl) (by kernel_rfl) (hA.im (s:=2) (k:=11) (o:=0) (n:=wd*(fl+pt)) (m:=wd*(fl+pt)) (b:=b) (by simp) (by simp)) ⟨b,rfl,hb,hge,hO⟩
theorem xP {wd fl pt:Nat} {xs:Nat→Nat} (hc:tY wd fl pt xs):∀i,i<wd*(fl+pt)→xs i<RM:=by
 obtain⟨fu,sq,h0,hx⟩:=hc;have hok:∀i,i≤wd*(fl+pt)→(sq i).ok:=fun i=>by
  induction i with
  | zero=>intro _; rw[h0]; exact xS _ _ _
  | succ i ih=>intro hi; exact (oZ (ih (by omega)) (hx i (by omega))).1
 exact fun i hi=>(oZ (hok i (by omega)) (hx i hi)).2
theorem BN:∀(n:Nat) (s:St) (l:List Nat),csts n s=some l→∃sq:Nat→St,sq 0=s∧∀i,i<n→cst 100 (sq i)=some (l.getD i 0,sq (i+1))
 | 0,s,l,_=>⟨fun _=>s,rfl,fun i hi=>by omega⟩
 | n+1,s,l,h=>by
  unfold csts at h;cases hc:cst 100 s with
  | none=>rw[hc]at h; cases h
  | some x =>
   obtain⟨x,t⟩:=x;rw[hc]at h;simp only at h;cases hr:csts n t with
   | none=>rw[hr]at h; cases h
   | some r =>
    rw[hr]at h;cases h;obtain⟨sq,h0,h1⟩:=BN n t r hr;refine⟨fun i=>match i with|0=>s|i+1=>sq i,rfl,fun i hi => ?_⟩;cases i with
    | zero =>
     show cst 100 s=some (x,sq 0);rw[hc,h0]
    | succ i =>
     show cst 100 (sq i)=some ((x::r).getD (i+1) 0,sq (i+1));rw[h1 i (by omega),List.getD_cons_succ]
end Go.Proofs.YtpbljiejmfahcaaDoor.Ex
namespace Go.Proofs.YtpbljiejmfahcaaDoor
open Go.Proofs.Tryd
open Go.RowKit
def yG (a0 a1 a2 a3 a4 a5 a6 a7:Nat):Nat:=a0+4294967296*(a1+4294967296*(a2+4294967296*(a3+4294967296*(a4+4294967296*(a5+4294967296*(a6+4294967296*a7))))))
def Li (a0 a1 a2 a3 a4 a5 a6 a7:Nat):Prop:=a0<4294967296∧a1<4294967296∧a2<4294967296∧a3<4294967296∧a4<4294967296∧a5<4294967296∧a6<4294967296∧a7<4294967296
theorem iK {a:Nat} (ha:a<18446744073709551616):∃l h:Nat,bits .and .u64 (a:Int) 4294967295=(l:Int)∧(a:Int)/4294967296=(h:Int)∧l<4294967296∧h<4294967296∧Hid (l+4294967296*h=a):=by
 obtain⟨h,l,e1,e2,h1,h2,e⟩:=Bo ha;exact⟨l,h,e2,e1,h2,h1,Lib.hid (by omega)⟩
def GN (A:Nat) (w:World) (e:Ending) (w':World):Prop :=
 ∃h0 h1 h2 h3 h4 h5 h6 h7:Nat,e=.returned (.agg #[.int .u64 h0,.int .u64 h1,.int .u64 h2,.int .u64 h3,.int .u64 h4,.int .u64 h5,.int .u64 h6,.int .u64 h7])∧Li h0 h1 h2 h3 h4 h5 h6 h7∧Hid (yG h0 h1 h2 h3 h4 h5 h6 h7=A)∧Below w.heap.size w w'
set_option maxHeartbeats 1000000 in
theorem jK (a0 a1 a2 a3:Nat) (ha:bY a0 a1 a2 a3) (w:World) :
  Calls prog 67 #[.agg #[.int .u64 a0,.int .u64 a1,.int .u64 a2,.int .u64 a3]] w (GN (aC a0 a1 a2 a3) w):=by
 obtain⟨h0,h1,d0,d1,b0,b1,e0⟩:=iK ha.1;obtain⟨h2,h3,d2,d3,b2,b3,e1⟩:=iK ha.2.1;obtain⟨h4,h5,d4,d5,b4,b5,e2⟩:=iK ha.2.2.1;obtain⟨h6,h7,d6,d7,b6,b7,e3⟩:=iK ha.2.2.2
 go_enter func67,ntmps67
 go_wp2_with fail;refine wp_loop_rounds 5 ?_;rw[rounds_succ];go_wp2_with fail;rw[rounds_succ];go_wp2_with fail;rw[rounds_succ];go_wp2_with fail;rw[rounds_succ];go_wp2_with fail;rw[rounds_succ];go_wp2_with fail;refine bodyPost_ret (v:=.agg #[.int .u64 h0,.int .u64 h1,.int .u64 h2,.int .u64 h3,.int .u64 h4,.int .u64 h5,.int .u64 h6,.int .u64 h7]) (by simp[results,results67,go_sem]) rfl ?_;refine⟨h0,h1,h2,h3,h4,h5,h6,h7,rfl,⟨b0,b1,b2,b3,b4,b5,b6,b7⟩,?_,?_⟩
 ·have:=e0.out; have:=e1.out; have:=e2.out; have:=e3.out;exact Lib.hid (by unfold aC yG; omega)
 repeat (first|exact Below.refl _ _|refine Below.drew ?_|refine Below.alloc ?_ (by first|(simp; done)|(simp; omega)) _)
theorem Bi {l h:Nat} (hl:l<4294967296) (hh:h<4294967296):∃u s:Nat,(h:Int)*4294967296=(u:Int)∧bits .or .u64 (l:Int) (u:Int)=(s:Int)∧u<18446744073709551616∧s<18446744073709551616∧Hid (s=l+4294967296*h):=by
 obtain⟨s,e,hs,f⟩:=Jb (k:=32) (lo:=l) (up:=h*4294967296) (by omega) (by omega) (Lib.hid (by omega)) (Lib.hid ⟨h,by omega⟩);have:=f.out;exact⟨h*4294967296,s,by omega,e,by omega,hs,Lib.hid (by omega)⟩
section
variable {P:Program} {ops:Array Oper} {Q:Exit→Act→World→Prop} {md:Region.Mode}
def Du (md:Region.Mode) (ops:Array Oper) (n:Nat):Bool :=
 (List.range n).all fun i=>match ops[i]? with
  | some o=>o.after.all fun e => !Region.binds md e||decide (e.on<i)
  | none=>false
def rD (md:Region.Mode) (ops:Array Oper) (got:Nat→Bool) (i:Nat):Bool :=
 match ops[i]? with
  | some o=>o.after.all fun e => !Region.binds md e||got e.on
  | none=>false
def fP (listed:Array Bool):Nat→Nat
 | 0=>0
 | n+1=>fP listed n+if listed.getD n false=true then 0 else 1
theorem iE (listed:Array Bool) (n:Nat):fP listed (n+1)=fP listed n+if listed.getD n false=true then 0 else 1:=rfl
theorem qM {listed:Array Bool} {i:Nat} (hi:i<listed.size) (h:listed.getD i false=false):∀n,fP (listed.setIfInBounds i true) n+(if i<n then 1 else 0)=fP listed n
 | 0=>by simp[fP]
 | n+1=>by
  have ih:=qM hi h n;rw[iE,iE]
  by_cases e:i=n
  ·subst e;have h1:(listed.setIfInBounds i true).getD i false=true:=by simp[hi]
   rw[h1,h];simp at ih ⊢;omega
  ·rw[getD_set_ne false e]
   by_cases h2:i<n
   ·rw[if_pos h2]at ih; rw[if_pos (show i<n+1 by omega)]; omega
   ·rw[if_neg h2]at ih; rw[if_neg (show ¬i<n+1 by omega)]; omega
theorem kG {listed:Array Bool}:∀{n:Nat},fP listed n=0→∀j,j<n→listed.getD j false=true
 | 0,_,j,hj=>by omega
 | n+1,h,j,hj=>by
  rw[iE]at h
  by_cases e:listed.getD n false=true
  ·rw[if_pos e]at h
   rcases Nat.lt_or_ge j n with h1|h1
   ·exact kG (by omega) j h1
   ·obtain rfl:j=n:=by omega
    exact e
  ·rw[if_neg e]at h; omega
theorem kH {listed:Array Bool}:∀{n:Nat},0<fP listed n→∃j,j<n∧listed.getD j false=false∧∀k,k<j→listed.getD k false=true
 | 0,h=>by unfold fP at h; omega
 | n+1,h=>by
  rcases Nat.eq_zero_or_pos (fP listed n)with h0|h0
  ·unfold fP at h;rw[h0]at h;refine⟨n,by omega,?_,kG h0⟩;cases e:listed.getD n false with
   | true=>rw[e]at h; simp at h
   | false=>rfl
  ·obtain⟨j,hj,h1,h2⟩:=kH h0;exact⟨j,by omega,h1,h2⟩
def iX (n m:Nat):Array Bool:=Array.replicate n true++Array.replicate (m-n) false
theorem nD {n:Nat} {Inv:(Nat→Bool)→Act→World→Prop} {l:List Oper} (hl:ops=l.toArray) (hn:n<ops.size)
  (hs:Region.sinkB md ops n=true) (hc:Region.chainB md ops n=true) (hb:Du md ops n=true) (hq:Region.seqB md ops (ops.size-n) n (iX n ops.size)=true)
  (step:∀(got:Nat→Bool) b u i,i<n→got i=false→rD md ops got i=true→Inv got b u→wpOp P ops Q i (Inv (fun j=>j==i||got j)) b u)
  (tail:∀got b u,(∀j,j<n→got j=true)→Inv got b u→wpList P ops Q (l.drop n) b u) :
  ∀(m:Nat) (listed:Array Bool) (b:Act) (u:World),HeadInv md ops n listed→fP listed n=m→Inv (fun j=>listed.getD j false) b u→wpAny P md ops Q (m+(ops.size-n)) listed b u
 | 0,listed,b,u,inv,hm,h=>by
  have hall:=kG hm;have he:listed=iX n ops.size:=by
   refine Array.ext (by simp[iX,inv.size]; omega) fun j h1 h2 => ?_
   rcases Nat.lt_or_ge j n with hj|hj
   ·have:=hall j hj;simp[h1]at this;rw[this];simp[iX,hj]
   ·have:=inv.tail j hj (by rw[←inv.size]; exact h1);simp[h1]at this;rw[this];simp[iX,hj]
  subst he;have hlen:(l.drop n).length=ops.size-n:=by subst hl; simp
  rw[Nat.zero_add,←hlen];exact wpAny_of_seq (l.drop n) n _ b u (fun j=>by subst hl; simp[List.getElem?_drop]) (by rw[hlen]; exact hq) (tail _ b u hall h)
 | m+1,listed,b,u,inv,hm,h=>by
  rw[show m+1+(ops.size-n)=m+(ops.size-n)+1 by omega];refine⟨fun h0 => ?_,fun i hi => ?_⟩
  ·obtain⟨j,hj,h1,h2⟩:=kH (n:=n) (listed:=listed) (by omega);have hjr:j∈Region.ready md ops listed:=by
    have hbj:=List.all_eq_true.1 hb j (List.mem_range.2 hj);cases ho:ops[j]? with
    | none=>rw[ho]at hbj; cases hbj
    | some o =>
     rw[ho]at hbj;refine mem_ready.2 ⟨getD_in (by rw[inv.size]; omega) h1,o,ho,fun e he hbi=>h2 _ ?_⟩;have:=(Array.all_eq_true_iff_forall_mem.1 hbj) e he;simp[hbi]at this;exact this
   rw[h0]at hjr; cases hjr
  ·obtain⟨hun,o,ho,hall⟩:=mem_ready.1 hi;have hin:i<n:=by
    rcases Nat.lt_or_ge i n with h'|h'
    ·exact h'
    ·obtain⟨j,hj,h1,h2⟩:=kH (n:=n) (listed:=listed) (by omega);exact absurd hi (tail_waits hs hc hn inv _ j rfl hj (getD_in (by rw[inv.size]; omega) h1) i h')
   have his:i<listed.size:=by rw[inv.size]; omega
   have hun':=getD_both hun;refine wpOp_mono (fun b' u' h' => ?_) (step _ b u i hin hun' (by
    unfold rD;rw[ho];refine Array.all_eq_true_iff_forall_mem.2 fun e he => ?_
    cases hbi:Region.binds md e with
    | false=>rfl
    | true=>simpa[hbi]using hall e he hbi) h)
   refine nD hl hn hs hc hb hq step tail m _ b' u' (inv.set hi hin) ?_ ?_
   ·have:=qM his hun' n;rw[if_pos hin]at this; omega
   ·have hf:(fun j=>(listed.setIfInBounds i true).getD j false)=fun j=>j==i||listed.getD j false:=by
     funext j
     by_cases e:j=i
     ·subst e; simp[his]
     ·rw[getD_set_ne false (Ne.symm e)]; simp[e]
    rw[hf]; exact h'
theorem qN (k:Nat):∀n,fP (Array.replicate k false) n=n
 | 0=>rfl
 | n+1=>by rw[iE,qN k n,getD_replicate_false]; simp
theorem zH (n:Nat) (Inv:(Nat→Bool)→Act→World→Prop) {id:Nat} {a:Act} {w:World} {l:List Oper} (hm:P.follows .mixedOrders=true) (hn:n<l.length)
  (hs:Region.sinkB .any l.toArray n=true) (hc:Region.chainB .any l.toArray n=true) (hb:Du .any l.toArray n=true) (hq:Region.seqB .any l.toArray (l.toArray.size-n) n (iX n l.toArray.size)=true)
  (start:Inv (fun _=>false) a w.drew)
  (step:∀(got:Nat→Bool) b u i,i<n→got i=false→rD .any l.toArray got i=true→Inv got b u→wpOp P l.toArray Q i (Inv (fun j=>j==i||got j)) b u)
  (tail:∀got b u,(∀j,j<n→got j=true)→Inv got b u→wpList P l.toArray Q (l.drop n) b u):(Code.region id l.toArray true).wp P Q a w:=by
 have hn':n<l.toArray.size:=by simpa using hn
 have inv0:HeadInv .any l.toArray n (Array.replicate l.toArray.size false) :=
  ⟨by simp,fun j oj _ hl=>(by rw[getD_replicate_false]at hl; cases hl),fun t _ ht=>getD_in (by simpa using ht) (getD_replicate_false _ _)⟩
 refine wp_region_any hm ?_;have hf:(fun j=>(Array.replicate l.toArray.size false).getD j false)=fun _:Nat=>false:=by funext j; exact getD_replicate_false _ _
 have H:=nD (md:=.any) rfl hn' hs hc hb hq step tail n _ a w.drew inv0 (qN _ n) (by rw[hf]; exact start);rw[show n+(l.toArray.size-n)=l.toArray.size by omega]at H;exact H
end
structure QW (w wr:World) (A B P:Nat→Nat):Prop where
 below:Below w.heap.size w wr
 size:w.heap.size+1+1+1<wr.heap.size
 rowA:RowIs wr w.heap.size 4 A
 rowB:RowIs wr (w.heap.size+1) 4 B
 rowR:RowIs wr (w.heap.size+1+1) 4 (fun _=>0)
 rowP:RowIs wr (w.heap.size+1+1+1) 4 P
theorem QW.set {w wr:World} {A B P:Nat→Nat} (h:QW w wr A B P) {k d:Nat} (hk:k<4):QW w (wr.setCell ⟨w.heap.size+1+1+1,k,none⟩ (.int .u64 (d:Nat))) A B (dJ P k d) :=
 ⟨h.below.setCell (p:=⟨w.heap.size+1+1+1,k,none⟩) (by simp; omega) _,by rw[World.size_setCell]; exact h.size,h.rowA.other (by omega) _,h.rowB.other (by omega) _,h.rowR.other (by omega) _,h.rowP.set hk⟩
theorem QW.drewN {w wr:World} {A B P:Nat→Nat} (h:QW w wr A B P) (n:Nat):QW w (wr.drewN n) A B P:=⟨h.below.trans (aP _ _ _),h.size,h.rowA,h.rowB,h.rowR,h.rowP⟩
theorem QW.start (w:World) (a0 a1 a2 a3 b0 b1 b2 b3:Nat) (t:TypeId):QW w ((((w.alloc (.cells #[.int .u64 a0,.int .u64 a1,.int .u64 a2,.int .u64 a3] t)).alloc (.cells #[.int .u64 b0,.int .u64 b1,.int .u64 b2,.int .u64 b3] t)).alloc (.cells #[.int .u64 0,.int .u64 0,.int .u64 0,.int .u64 0] t)).alloc (.cells #[.int .u64 0,.int .u64 0,.int .u64 0,.int .u64 0] t)) (dX [a0,a1,a2,a3]) (dX [b0,b1,b2,b3]) (fun _=>0):=by
 refine⟨?_,by simp,?_,?_,?_,?_⟩
 ·repeat (first|exact Below.refl _ _|refine Below.alloc ?_ (by first|(simp; done)|(simp; omega)) _)
 ·exact RowIs.mk4 (by simp[go_sem]) (by simp[go_sem]) (by simp[go_sem]) (by simp[go_sem]) (fun k=>by simp[go_sem])
 ·exact RowIs.mk4 (by simp[go_sem]) (by simp[go_sem]) (by simp[go_sem]) (by simp[go_sem]) (fun k=>by simp[go_sem])
 ·intro k hk
  match k,hk with
  | 0,_|1,_|2,_|3,_=>exact⟨by simp[go_sem],by simp[go_sem]⟩
 ·intro k hk
  match k,hk with
  | 0,_|1,_|2,_|3,_=>exact⟨by simp[go_sem],by simp[go_sem]⟩
theorem jJ {A B P:Nat→Nat} {k c t d:Nat} (h:cR 18446744073709551616 P k+cR 18446744073709551616 B k=cR 18446744073709551616 A k+c*18446744073709551616^k) (e:t+B k+c=A k+18446744073709551616*d):cR 18446744073709551616 (dJ P k t) (k+1)+cR 18446744073709551616 B (k+1)=cR 18446744073709551616 A (k+1)+d*18446744073709551616^(k+1):=by
 rw[bJ,bJ,bJ,dW 18446744073709551616 P k t k (Nat.le_refl _),Nat.pow_succ];have hu:dJ P k t k=t:=by unfold dJ; rw[if_pos rfl]
 rw[hu];have e':t*18446744073709551616^k+B k*18446744073709551616^k+c*18446744073709551616^k=A k*18446744073709551616^k+d*(18446744073709551616^k*18446744073709551616):=by
  rw[←Nat.add_mul,←Nat.add_mul,e,Nat.add_mul];congr 1;rw[Nat.mul_comm (18446744073709551616^k) 18446744073709551616,←Nat.mul_assoc,Nat.mul_comm d 18446744073709551616]
 omega
theorem Mm (l:List Nat) (a0 a1 a2 a3:Nat) (h:l=[a0,a1,a2,a3]):cR 18446744073709551616 (dX l) 4=aC a0 a1 a2 a3:=by subst h; rw[←nE]; rfl
theorem CI {B:Nat} {w w':World} {b:Nat} (h:Below B w w') (hb:B≤b) (d0 d1 d2 d3:Value):Below B w ((((w'.setCell ⟨b,0,none⟩ d0).setCell ⟨b,1,none⟩ d1).setCell ⟨b,2,none⟩ d2).setCell ⟨b,3,none⟩ d3) :=
 (((h.setCell (p:=⟨b,0,none⟩) hb _).setCell (p:=⟨b,1,none⟩) hb _).setCell (p:=⟨b,2,none⟩) hb _).setCell (p:=⟨b,3,none⟩) hb _
set_option maxHeartbeats 2000000 in
theorem kL (a0 a1 a2 a3 b0 b1 b2 b3:Nat) (ha:bY a0 a1 a2 a3) (hb:bY b0 b1 b2 b3) (w:World) :
  Calls prog 28 #[.agg #[.int .u64 a0,.int .u64 a1,.int .u64 a2,.int .u64 a3],.agg #[.int .u64 b0,.int .u64 b1,.int .u64 b2,.int .u64 b3]] w (KP (aC a0 a1 a2 a3) (aC b0 b1 b2 b3) w):=by
 have hAl:=sQ ha;have hBl:=sQ hb;have HTA:=Lib.hid (Mm [a0,a1,a2,a3] a0 a1 a2 a3 rfl);have HTB:=Lib.hid (Mm [b0,b1,b2,b3] b0 b1 b2 b3 rfl);have HQ:=Lib.hid (QW.start w a0 a1 a2 a3 b0 b1 b2 b3 52);generalize dX [a0,a1,a2,a3]=A at *;generalize dX [b0,b1,b2,b3]=B at *;have HAl:=Lib.hid hAl; have HBl:=Lib.hid hBl;clear hAl hBl
 go_enter func28,ntmps28
 go_wp2_with fail
 go_loopw [7,8] (fun cv i wr=>∃(k c:Nat) (P:Nat→Nat),k≤4∧c≤1∧i=.int .i64 k∧cv=.int .u64 c∧QW w wr A B P∧Hid ((∀j,P j<18446744073709551616)∧cR 18446744073709551616 P k+cR 18446744073709551616 B k=cR 18446744073709551616 A k+c*18446744073709551616^k)) (fun _ i _=>4-(intOf i).toNat)
 case atStart=>exact⟨0,0,fun _=>0,by omega,by omega,rfl,rfl,HQ.out,Lib.hid ⟨fun _=>by show 0<_; omega,by simp[cR]⟩⟩
 case round =>
  obtain⟨k,c,P,hk,hc,rfl,rfl,m,mo⟩:=hrel
  by_cases hlt:k<4
  ·have ca:=m.rowA.cell hlt;have cb:=m.rowB.cell hlt;have cp:=m.rowP.cell hlt;have fp:=m.rowP.free hlt;have bA:=HAl.out k;have bB:=HBl.out k;have M:=Lib.hid m;clear m;obtain⟨s,es,bs,hs⟩:∃s:Nat,IntKind.u64.wrap ((A k:Int)-(B k:Int))=(s:Int)∧s<18446744073709551616∧Hid (s=(A k+18446744073709551616-B k)%18446744073709551616):=⟨(A k+18446744073709551616-B k)%18446744073709551616,by rw[IntKind.wrap_u64]; omega,by omega,Lib.hid rfl⟩
   obtain⟨t,et,bt,ht⟩:∃t:Nat,IntKind.u64.wrap ((s:Int)-(c:Int))=(t:Int)∧t<18446744073709551616∧Hid (t=(s+18446744073709551616-c)%18446744073709551616):=⟨(s+18446744073709551616-c)%18446744073709551616,by rw[IntKind.wrap_u64]; omega,by omega,Lib.hid rfl⟩
   have hs':=hs.out;have ht':=ht.out;clear hs ht
   by_cases h1:A k<B k
   ·have t1:decide (A k<B k)=true:=decide_eq_true h1;have HE:=Lib.hid (show t+B k+c=A k+18446744073709551616*1 by omega);clear h1 hs' ht';go_wp2_with fail
    go_quiet (fail)
    go_wp2_with fail
    go_region
    go_wp2_with fail
    go_roundw
    case rel=>exact⟨k+1,1,dJ P k t,by omega,by omega,by go_num,rfl,(M.out.drewN _).set hlt,Lib.hid ⟨fun j=>by unfold dJ; split; exact bt; exact mo.out.1 j,jJ mo.out.2 HE.out⟩⟩
    case measure=>simp[intOf]; omega
   ·have t1:decide (A k<B k)=false:=decide_eq_false h1
    by_cases h2:A k=B k
    ·have t2:((A k:Int)==(B k:Int))=true:=by simp; omega
     rcases (show c=0∨c=1 by omega)with rfl|rfl
     ·obtain rfl:s=t:=by omega
      clear et;have HE:=Lib.hid (show s+B k+0=A k+18446744073709551616*0 by omega);clear h1 h2 hs' ht';go_wp2_with fail
      go_quiet (fail)
      go_wp2_with fail
      go_region
      go_wp2_with fail
      go_roundw
      case rel=>exact⟨k+1,0,dJ P k s,by omega,by omega,by go_num,rfl,(M.out.drewN _).set hlt,Lib.hid ⟨fun j=>by unfold dJ; split; exact bs; exact mo.out.1 j,jJ mo.out.2 HE.out⟩⟩
      case measure=>simp[intOf]; omega
     ·have et2:IntKind.u64.wrap ((s:Int)-1)=(t:Int):=et;clear et;have HE:=Lib.hid (show t+B k+1=A k+18446744073709551616*1 by omega);clear h1 h2 hs' ht';go_wp2_with fail
      go_quiet (fail)
      go_wp2_with fail
      go_region
      go_wp2_with fail
      go_roundw
      case rel=>exact⟨k+1,1,dJ P k t,by omega,by omega,by go_num,rfl,(M.out.drewN _).set hlt,Lib.hid ⟨fun j=>by unfold dJ; split; exact bt; exact mo.out.1 j,jJ mo.out.2 HE.out⟩⟩
      case measure=>simp[intOf]; omega
    ·have t2:((A k:Int)==(B k:Int))=false:=by simp; omega
     have HE:=Lib.hid (show t+B k+c=A k+18446744073709551616*0 by omega);clear h1 h2 hs' ht';go_wp2_with fail
     go_quiet (fail)
     go_wp2_with fail
     go_region
     go_wp2_with fail
     go_roundw
     case rel=>exact⟨k+1,0,dJ P k t,by omega,by omega,by go_num,rfl,(M.out.drewN _).set hlt,Lib.hid ⟨fun j=>by unfold dJ; split; exact bt; exact mo.out.1 j,jJ mo.out.2 HE.out⟩⟩
     case measure=>simp[intOf]; omega
  ·obtain rfl:k=4:=by omega
   have c0:=m.rowP.cell (show 0<4 by omega); have c1:=m.rowP.cell (show 1<4 by omega); have c2:=m.rowP.cell (show 2<4 by omega); have c3:=m.rowP.cell (show 3<4 by omega);have r0:=m.rowR.cell (show 0<4 by omega); have r1:=m.rowR.cell (show 1<4 by omega); have r2:=m.rowR.cell (show 2<4 by omega); have r3:=m.rowR.cell (show 3<4 by omega);have s0:=m.rowR.free (show 0<4 by omega); have s1:=m.rowR.free (show 1<4 by omega); have s2:=m.rowR.free (show 2<4 by omega); have s3:=m.rowR.free (show 3<4 by omega);have hz:=m.size;have HB:=Lib.hid m.below;clear m;go_wp2_with fail;refine bodyPost_ret (v:=.tuple #[.agg #[.int .u64 (P 0:Nat),.int .u64 (P 1:Nat),.int .u64 (P 2:Nat),.int .u64 (P 3:Nat)],.int .u64 (c:Nat)]) (by simp[results,results28,go_sem, *]) rfl ?_;refine⟨P 0,P 1,P 2,P 3,c,rfl,⟨mo.out.1 0,mo.out.1 1,mo.out.1 2,mo.out.1 3⟩,hc,?_,CI HB.out (by omega) _ _ _ _⟩;have h:=mo.out.2;rw[HTA.out,HTB.out,←nE P,show (18446744073709551616:Nat)^4=115792089237316195423570985008687907853269984665640564039457584007913129639936 by rfl]at h;omega
theorem XZ (a0 a1 a2 a3 b0 b1 b2 b3:Nat) (ha:bY a0 a1 a2 a3) (hb:bY b0 b1 b2 b3) (e3:a3<b3) (w:World) :
  Calls prog 22 #[.agg #[.int .u64 a0,.int .u64 a1,.int .u64 a2,.int .u64 a3],.agg #[.int .u64 b0,.int .u64 b1,.int .u64 b2,.int .u64 b3]] w fun e w'=>e=.returned (.int .i64 (cJ (aC a0 a1 a2 a3) (aC b0 b1 b2 b3)))∧Below w.heap.size w w':=by
 have hfin:cJ (aC a0 a1 a2 a3) (aC b0 b1 b2 b3) = -1:=by
  obtain⟨p0,p1,p2,p3⟩:=ha; obtain⟨q0,q1,q2,q3⟩:=hb; unfold cJ aC;rw[if_neg (by omega),if_pos (by omega)]
 rw[hfin];clear hfin;have l3:decide (a3<b3)=true:=decide_eq_true (by omega);clear e3
 go_enter func22,ntmps22
 go_wp2_with fail;refine wp_loop_rounds 5 ?_;rw[rounds_succ];go_wp2_with fail
 go_quiet (fail)
 go_wp2_with fail;go_ret;exact⟨rfl,by repeat (first|exact Below.refl _ _|refine Below.trans ?_ (aP _ _ _)|refine Below.drew ?_|refine Below.alloc ?_ (by first|(simp; done)|(simp; omega)) _)⟩
theorem YD (a0 a1 a2 a3 b0 b1 b2 b3:Nat) (ha:bY a0 a1 a2 a3) (hb:bY b0 b1 b2 b3) (e3:b3<a3) (w:World) :
  Calls prog 22 #[.agg #[.int .u64 a0,.int .u64 a1,.int .u64 a2,.int .u64 a3],.agg #[.int .u64 b0,.int .u64 b1,.int .u64 b2,.int .u64 b3]] w fun e w'=>e=.returned (.int .i64 (cJ (aC a0 a1 a2 a3) (aC b0 b1 b2 b3)))∧Below w.heap.size w w':=by
 have hfin:cJ (aC a0 a1 a2 a3) (aC b0 b1 b2 b3)=1:=by
  obtain⟨p0,p1,p2,p3⟩:=ha; obtain⟨q0,q1,q2,q3⟩:=hb; unfold cJ aC;rw[if_neg (by omega),if_neg (by omega)]
 rw[hfin];clear hfin;have l3:decide (a3<b3)=false:=decide_eq_false (by omega);have g3:decide (b3<a3)=true:=decide_eq_true (by omega);clear e3
 go_enter func22,ntmps22
 go_wp2_with fail;refine wp_loop_rounds 5 ?_;rw[rounds_succ];go_wp2_with fail
 go_quiet (fail)
 go_wp2_with fail
 go_quiet (fail)
 go_wp2_with fail;go_ret;exact⟨rfl,by repeat (first|exact Below.refl _ _|refine Below.trans ?_ (aP _ _ _)|refine Below.drew ?_|refine Below.alloc ?_ (by first|(simp; done)|(simp; omega)) _)⟩
theorem YA (a0 a1 a2 a3 b0 b1 b2 b3:Nat) (ha:bY a0 a1 a2 a3) (hb:bY b0 b1 b2 b3) (e3:a3=b3) (e2:a2<b2) (w:World) :
  Calls prog 22 #[.agg #[.int .u64 a0,.int .u64 a1,.int .u64 a2,.int .u64 a3],.agg #[.int .u64 b0,.int .u64 b1,.int .u64 b2,.int .u64 b3]] w fun e w'=>e=.returned (.int .i64 (cJ (aC a0 a1 a2 a3) (aC b0 b1 b2 b3)))∧Below w.heap.size w w':=by
 have hfin:cJ (aC a0 a1 a2 a3) (aC b0 b1 b2 b3) = -1:=by
  obtain⟨p0,p1,p2,p3⟩:=ha; obtain⟨q0,q1,q2,q3⟩:=hb; unfold cJ aC;rw[if_neg (by omega),if_pos (by omega)]
 rw[hfin];clear hfin;have l3:decide (a3<b3)=false:=decide_eq_false (by omega);have g3:decide (b3<a3)=false:=decide_eq_false (by omega);clear e3;have l2:decide (a2<b2)=true:=decide_eq_true (by omega);clear e2
 go_enter func22,ntmps22
 go_wp2_with fail;refine wp_loop_rounds 5 ?_;rw[rounds_succ];go_wp2_with fail
 go_quiet (fail)
 go_wp2_with fail
 go_quiet (fail)
 go_wp2_with fail;rw[rounds_succ];go_wp2_with fail
 go_quiet (fail)
 go_wp2_with fail;go_ret;exact⟨rfl,by repeat (first|exact Below.refl _ _|refine Below.trans ?_ (aP _ _ _)|refine Below.drew ?_|refine Below.alloc ?_ (by first|(simp; done)|(simp; omega)) _)⟩
theorem YE (a0 a1 a2 a3 b0 b1 b2 b3:Nat) (ha:bY a0 a1 a2 a3) (hb:bY b0 b1 b2 b3) (e3:a3=b3) (e2:b2<a2) (w:World) :
  Calls prog 22 #[.agg #[.int .u64 a0,.int .u64 a1,.int .u64 a2,.int .u64 a3],.agg #[.int .u64 b0,.int .u64 b1,.int .u64 b2,.int .u64 b3]] w fun e w'=>e=.returned (.int .i64 (cJ (aC a0 a1 a2 a3) (aC b0 b1 b2 b3)))∧Below w.heap.size w w':=by
 have hfin:cJ (aC a0 a1 a2 a3) (aC b0 b1 b2 b3)=1:=by
  obtain⟨p0,p1,p2,p3⟩:=ha; obtain⟨q0,q1,q2,q3⟩:=hb; unfold cJ aC;rw[if_neg (by omega),if_neg (by omega)]
 rw[hfin];clear hfin;have l3:decide (a3<b3)=false:=decide_eq_false (by omega);have g3:decide (b3<a3)=false:=decide_eq_false (by omega);clear e3;have l2:decide (a2<b2)=false:=decide_eq_false (by omega);have g2:decide (b2<a2)=true:=decide_eq_true (by omega);clear e2
 go_enter func22,ntmps22
 go_wp2_with fail;refine wp_loop_rounds 5 ?_;rw[rounds_succ];go_wp2_with fail
 go_quiet (fail)
 go_wp2_with fail
 go_quiet (fail)
 go_wp2_with fail;rw[rounds_succ];go_wp2_with fail
 go_quiet (fail)
 go_wp2_with fail
 go_quiet (fail)
 go_wp2_with fail;go_ret;exact⟨rfl,by repeat (first|exact Below.refl _ _|refine Below.trans ?_ (aP _ _ _)|refine Below.drew ?_|refine Below.alloc ?_ (by first|(simp; done)|(simp; omega)) _)⟩
theorem YB (a0 a1 a2 a3 b0 b1 b2 b3:Nat) (ha:bY a0 a1 a2 a3) (hb:bY b0 b1 b2 b3) (e3:a3=b3) (e2:a2=b2) (e1:a1<b1) (w:World) :
  Calls prog 22 #[.agg #[.int .u64 a0,.int .u64 a1,.int .u64 a2,.int .u64 a3],.agg #[.int .u64 b0,.int .u64 b1,.int .u64 b2,.int .u64 b3]] w fun e w'=>e=.returned (.int .i64 (cJ (aC a0 a1 a2 a3) (aC b0 b1 b2 b3)))∧Below w.heap.size w w':=by
 have hfin:cJ (aC a0 a1 a2 a3) (aC b0 b1 b2 b3) = -1:=by
  obtain⟨p0,p1,p2,p3⟩:=ha; obtain⟨q0,q1,q2,q3⟩:=hb; unfold cJ aC;rw[if_neg (by omega),if_pos (by omega)]
 rw[hfin];clear hfin;have l3:decide (a3<b3)=false:=decide_eq_false (by omega);have g3:decide (b3<a3)=false:=decide_eq_false (by omega);clear e3;have l2:decide (a2<b2)=false:=decide_eq_false (by omega);have g2:decide (b2<a2)=false:=decide_eq_false (by omega);clear e2;have l1:decide (a1<b1)=true:=decide_eq_true (by omega);clear e1
 go_enter func22,ntmps22
 go_wp2_with fail;refine wp_loop_rounds 5 ?_;rw[rounds_succ];go_wp2_with fail
 go_quiet (fail)
 go_wp2_with fail
 go_quiet (fail)
 go_wp2_with fail;rw[rounds_succ];go_wp2_with fail
 go_quiet (fail)
 go_wp2_with fail
 go_quiet (fail)
 go_wp2_with fail;rw[rounds_succ];go_wp2_with fail
 go_quiet (fail)
 go_wp2_with fail;go_ret;exact⟨rfl,by repeat (first|exact Below.refl _ _|refine Below.trans ?_ (aP _ _ _)|refine Below.drew ?_|refine Below.alloc ?_ (by first|(simp; done)|(simp; omega)) _)⟩
theorem YF (a0 a1 a2 a3 b0 b1 b2 b3:Nat) (ha:bY a0 a1 a2 a3) (hb:bY b0 b1 b2 b3) (e3:a3=b3) (e2:a2=b2) (e1:b1<a1) (w:World) :
  Calls prog 22 #[.agg #[.int .u64 a0,.int .u64 a1,.int .u64 a2,.int .u64 a3],.agg #[.int .u64 b0,.int .u64 b1,.int .u64 b2,.int .u64 b3]] w fun e w'=>e=.returned (.int .i64 (cJ (aC a0 a1 a2 a3) (aC b0 b1 b2 b3)))∧Below w.heap.size w w':=by
 have hfin:cJ (aC a0 a1 a2 a3) (aC b0 b1 b2 b3)=1:=by
  obtain⟨p0,p1,p2,p3⟩:=ha; obtain⟨q0,q1,q2,q3⟩:=hb; unfold cJ aC;rw[if_neg (by omega),if_neg (by omega)]
 rw[hfin];clear hfin;have l3:decide (a3<b3)=false:=decide_eq_false (by omega);have g3:decide (b3<a3)=false:=decide_eq_false (by omega);clear e3;have l2:decide (a2<b2)=false:=decide_eq_false (by omega);have g2:decide (b2<a2)=false:=decide_eq_false (by omega);clear e2;have l1:decide (a1<b1)=false:=decide_eq_false (by omega);have g1:decide (b1<a1)=true:=decide_eq_true (by omega);clear e1
 go_enter func22,ntmps22
 go_wp2_with fail;refine wp_loop_rounds 5 ?_;rw[rounds_succ];go_wp2_with fail
 go_quiet (fail)
 go_wp2_with fail
 go_quiet (fail)
 go_wp2_with fail;rw[rounds_succ];go_wp2_with fail
 go_quiet (fail)
 go_wp2_with fail
 go_quiet (fail)
 go_wp2_with fail;rw[rounds_succ];go_wp2_with fail
 go_quiet (fail)
 go_wp2_with fail
 go_quiet (fail)
 go_wp2_with fail;go_ret;exact⟨rfl,by repeat (first|exact Below.refl _ _|refine Below.trans ?_ (aP _ _ _)|refine Below.drew ?_|refine Below.alloc ?_ (by first|(simp; done)|(simp; omega)) _)⟩
theorem YC (a0 a1 a2 a3 b0 b1 b2 b3:Nat) (ha:bY a0 a1 a2 a3) (hb:bY b0 b1 b2 b3) (e3:a3=b3) (e2:a2=b2) (e1:a1=b1) (e0:a0<b0) (w:World) :
  Calls prog 22 #[.agg #[.int .u64 a0,.int .u64 a1,.int .u64 a2,.int .u64 a3],.agg #[.int .u64 b0,.int .u64 b1,.int .u64 b2,.int .u64 b3]] w fun e w'=>e=.returned (.int .i64 (cJ (aC a0 a1 a2 a3) (aC b0 b1 b2 b3)))∧Below w.heap.size w w':=by
 have hfin:cJ (aC a0 a1 a2 a3) (aC b0 b1 b2 b3) = -1:=by
  obtain⟨p0,p1,p2,p3⟩:=ha; obtain⟨q0,q1,q2,q3⟩:=hb; unfold cJ aC;rw[if_neg (by omega),if_pos (by omega)]
 rw[hfin];clear hfin;have l3:decide (a3<b3)=false:=decide_eq_false (by omega);have g3:decide (b3<a3)=false:=decide_eq_false (by omega);clear e3;have l2:decide (a2<b2)=false:=decide_eq_false (by omega);have g2:decide (b2<a2)=false:=decide_eq_false (by omega);clear e2;have l1:decide (a1<b1)=false:=decide_eq_false (by omega);have g1:decide (b1<a1)=false:=decide_eq_false (by omega);clear e1;have l0:decide (a0<b0)=true:=decide_eq_true (by omega);clear e0
 go_enter func22,ntmps22
 go_wp2_with fail;refine wp_loop_rounds 5 ?_;rw[rounds_succ];go_wp2_with fail
 go_quiet (fail)
 go_wp2_with fail
 go_quiet (fail)
 go_wp2_with fail;rw[rounds_succ];go_wp2_with fail
 go_quiet (fail)
 go_wp2_with fail
 go_quiet (fail)
 go_wp2_with fail;rw[rounds_succ];go_wp2_with fail
 go_quiet (fail)
 go_wp2_with fail
 go_quiet (fail)
 go_wp2_with fail;rw[rounds_succ];go_wp2_with fail
 go_quiet (fail)
 go_wp2_with fail;go_ret;exact⟨rfl,by repeat (first|exact Below.refl _ _|refine Below.trans ?_ (aP _ _ _)|refine Below.drew ?_|refine Below.alloc ?_ (by first|(simp; done)|(simp; omega)) _)⟩
theorem YG (a0 a1 a2 a3 b0 b1 b2 b3:Nat) (ha:bY a0 a1 a2 a3) (hb:bY b0 b1 b2 b3) (e3:a3=b3) (e2:a2=b2) (e1:a1=b1) (e0:b0<a0) (w:World) :
  Calls prog 22 #[.agg #[.int .u64 a0,.int .u64 a1,.int .u64 a2,.int .u64 a3],.agg #[.int .u64 b0,.int .u64 b1,.int .u64 b2,.int .u64 b3]] w fun e w'=>e=.returned (.int .i64 (cJ (aC a0 a1 a2 a3) (aC b0 b1 b2 b3)))∧Below w.heap.size w w':=by
 have hfin:cJ (aC a0 a1 a2 a3) (aC b0 b1 b2 b3)=1:=by
  obtain⟨p0,p1,p2,p3⟩:=ha; obtain⟨q0,q1,q2,q3⟩:=hb; unfold cJ aC;rw[if_neg (by omega),if_neg (by omega)]
 rw[hfin];clear hfin;have l3:decide (a3<b3)=false:=decide_eq_false (by omega);have g3:decide (b3<a3)=false:=decide_eq_false (by omega);clear e3;have l2:decide (a2<b2)=false:=decide_eq_false (by omega);have g2:decide (b2<a2)=false:=decide_eq_false (by omega);clear e2;have l1:decide (a1<b1)=false:=decide_eq_false (by omega);have g1:decide (b1<a1)=false:=decide_eq_false (by omega);clear e1;have l0:decide (a0<b0)=false:=decide_eq_false (by omega);have g0:decide (b0<a0)=true:=decide_eq_true (by omega);clear e0
 go_enter func22,ntmps22
 go_wp2_with fail;refine wp_loop_rounds 5 ?_;rw[rounds_succ];go_wp2_with fail
 go_quiet (fail)
 go_wp2_with fail
 go_quiet (fail)
 go_wp2_with fail;rw[rounds_succ];go_wp2_with fail
 go_quiet (fail)
 go_wp2_with fail
 go_quiet (fail)
 go_wp2_with fail;rw[rounds_succ];go_wp2_with fail
 go_quiet (fail)
 go_wp2_with fail
 go_quiet (fail)
 go_wp2_with fail;rw[rounds_succ];go_wp2_with fail
 go_quiet (fail)
 go_wp2_with fail
 go_quiet (fail)
 go_wp2_with fail;go_ret;exact⟨rfl,by repeat (first|exact Below.refl _ _|refine Below.trans ?_ (aP _ _ _)|refine Below.drew ?_|refine Below.alloc ?_ (by first|(simp; done)|(simp; omega)) _)⟩
theorem Gd (a0 a1 a2 a3 b0 b1 b2 b3:Nat) (ha:bY a0 a1 a2 a3) (hb:bY b0 b1 b2 b3) (e3:a3=b3) (e2:a2=b2) (e1:a1=b1) (e0:a0=b0) (w:World) :
  Calls prog 22 #[.agg #[.int .u64 a0,.int .u64 a1,.int .u64 a2,.int .u64 a3],.agg #[.int .u64 b0,.int .u64 b1,.int .u64 b2,.int .u64 b3]] w fun e w'=>e=.returned (.int .i64 (cJ (aC a0 a1 a2 a3) (aC b0 b1 b2 b3)))∧Below w.heap.size w w':=by
 have hfin:cJ (aC a0 a1 a2 a3) (aC b0 b1 b2 b3)=0:=by
  obtain⟨p0,p1,p2,p3⟩:=ha; obtain⟨q0,q1,q2,q3⟩:=hb; unfold cJ aC;rw[if_pos (by omega)]
 rw[hfin];clear hfin;have l3:decide (a3<b3)=false:=decide_eq_false (by omega);have g3:decide (b3<a3)=false:=decide_eq_false (by omega);clear e3;have l2:decide (a2<b2)=false:=decide_eq_false (by omega);have g2:decide (b2<a2)=false:=decide_eq_false (by omega);clear e2;have l1:decide (a1<b1)=false:=decide_eq_false (by omega);have g1:decide (b1<a1)=false:=decide_eq_false (by omega);clear e1;have l0:decide (a0<b0)=false:=decide_eq_false (by omega);have g0:decide (b0<a0)=false:=decide_eq_false (by omega);clear e0
 go_enter func22,ntmps22
 go_wp2_with fail;refine wp_loop_rounds 5 ?_;rw[rounds_succ];go_wp2_with fail
 go_quiet (fail)
 go_wp2_with fail
 go_quiet (fail)
 go_wp2_with fail;rw[rounds_succ];go_wp2_with fail
 go_quiet (fail)
 go_wp2_with fail
 go_quiet (fail)
 go_wp2_with fail;rw[rounds_succ];go_wp2_with fail
 go_quiet (fail)
 go_wp2_with fail
 go_quiet (fail)
 go_wp2_with fail;rw[rounds_succ];go_wp2_with fail
 go_quiet (fail)
 go_wp2_with fail
 go_quiet (fail)
 go_wp2_with fail;rw[rounds_succ];go_wp2_with fail;go_ret;exact⟨rfl,by repeat (first|exact Below.refl _ _|refine Below.trans ?_ (aP _ _ _)|refine Below.drew ?_|refine Below.alloc ?_ (by first|(simp; done)|(simp; omega)) _)⟩
theorem nL (a0 a1 a2 a3 b0 b1 b2 b3:Nat) (ha:bY a0 a1 a2 a3) (hb:bY b0 b1 b2 b3) (w:World) :
  Calls prog 22 #[.agg #[.int .u64 a0,.int .u64 a1,.int .u64 a2,.int .u64 a3],.agg #[.int .u64 b0,.int .u64 b1,.int .u64 b2,.int .u64 b3]] w fun e w'=>e=.returned (.int .i64 (cJ (aC a0 a1 a2 a3) (aC b0 b1 b2 b3)))∧Below w.heap.size w w':=by
 rcases Nat.lt_trichotomy a3 b3 with e3|e3|e3
 ·exact XZ a0 a1 a2 a3 b0 b1 b2 b3 ha hb e3 w
 ·rcases Nat.lt_trichotomy a2 b2 with e2|e2|e2
  ·exact YA a0 a1 a2 a3 b0 b1 b2 b3 ha hb e3 e2 w
  ·rcases Nat.lt_trichotomy a1 b1 with e1|e1|e1
   ·exact YB a0 a1 a2 a3 b0 b1 b2 b3 ha hb e3 e2 e1 w
   ·rcases Nat.lt_trichotomy a0 b0 with e0|e0|e0
    ·exact YC a0 a1 a2 a3 b0 b1 b2 b3 ha hb e3 e2 e1 e0 w
    ·exact Gd a0 a1 a2 a3 b0 b1 b2 b3 ha hb e3 e2 e1 e0 w
    ·exact YG a0 a1 a2 a3 b0 b1 b2 b3 ha hb e3 e2 e1 e0 w
   ·exact YF a0 a1 a2 a3 b0 b1 b2 b3 ha hb e3 e2 e1 w
  ·exact YE a0 a1 a2 a3 b0 b1 b2 b3 ha hb e3 e2 w
 ·exact YD a0 a1 a2 a3 b0 b1 b2 b3 ha hb e3 w
theorem Bx {A B:Nat} (h:A<B):cJ A B = -1:=by unfold cJ; rw[if_neg (by omega),if_pos h]
theorem By {A B:Nat} (h:¬A<B):decide (0≤cJ A B)=true:=by
 unfold cJ
 by_cases q:A=B
 ·rw[if_pos q]; rfl
 ·rw[if_neg q,if_neg h]; rfl
set_option maxHeartbeats 2000000 in
theorem jQ (f:Int) (F:FC) (hf:FieldIs f F) (a0 a1 a2 a3:Nat) (ha:bY a0 a1 a2 a3) (w:World) :
  Calls prog 27 #[.int .i64 f,.agg #[.int .u64 a0,.int .u64 a1,.int .u64 a2,.int .u64 a3]] w (fV (aC a0 a1 a2 a3%F.M) w):=by
 have hpos:=hf.ok.pos
 go_enter func27,ntmps27
 go_wp2_with fail;have HM:=Lib.hid (((Mem.nil w).new (w.heap.size) a0 a1 a2 a3 52 (by simp)).new (w.heap.size+1) 0 0 0 0 52 (by simp));refine (lO f F hf _).mono ?_
 rintro e w1 ⟨rfl,hbl⟩
 have HM':=Lib.hid (HM.out.on hbl);clear HM hbl;have HM:=HM';clear HM';have hz1:w.heap.size+1<w1.heap.size:=HM.out.lt (b:=w.heap.size+1) (c0:=0) (c1:=0) (c2:=0) (c3:=0) (by simp);have HM':=Lib.hid ((HM.out.new w1.heap.size F.m0 F.m1 F.m2 F.m3 52 rfl).sub (rs':=[(w.heap.size,a0,a1,a2,a3),(w1.heap.size,F.m0,F.m1,F.m2,F.m3),(w.heap.size+1,0,0,0,0)]) (by simp));clear HM;have HM:=HM';clear HM';go_wp2_with fail
 go_loopg [8] (aC a0 a1 a2 a3/F.M) (fun k t wr=>∃v0 v1 v2 v3:Nat,bY v0 v1 v2 v3∧Hid (aC v0 v1 v2 v3/F.M=k∧aC v0 v1 v2 v3%F.M=aC a0 a1 a2 a3%F.M)∧Hid (Mem w wr [(w.heap.size,v0,v1,v2,v3),(w1.heap.size,F.m0,F.m1,F.m2,F.m3),(w.heap.size+1,0,0,0,0)]))
 case atStart=>exact⟨a0,a1,a2,a3,ha,Lib.hid ⟨rfl,rfl⟩,HM⟩
 case round =>
  clear HM;obtain⟨v0,v1,v2,v3,hv,HV,HM⟩:=hrel;have kr:=HM.out.row (b:=w.heap.size) (c0:=v0) (c1:=v1) (c2:=v2) (c3:=v3) (by simp);have x0:=kr.c0; have x1:=kr.c1; have x2:=kr.c2; have x3:=kr.c3;clear kr;have xl:=HM.out.lt (b:=w.heap.size) (c0:=v0) (c1:=v1) (c2:=v2) (c3:=v3) (by simp);have kr:=HM.out.row (b:=w1.heap.size) (c0:=F.m0) (c1:=F.m1) (c2:=F.m2) (c3:=F.m3) (by simp);have u0:=kr.c0; have u1:=kr.c1; have u2:=kr.c2; have u3:=kr.c3;clear kr;have ul:=HM.out.lt (b:=w1.heap.size) (c0:=F.m0) (c1:=F.m1) (c2:=F.m2) (c3:=F.m3) (by simp);go_wp2_with fail;refine (nL v0 v1 v2 v3 F.m0 F.m1 F.m2 F.m3 hv hf.ok.okm _).mono ?_
  rintro e w2 ⟨he,hbl⟩
  have HM':=Lib.hid (HM.out.on hbl);clear HM hbl;have HM:=HM';clear HM';clear x0 x1 x2 x3 xl u0 u1 u2 u3 ul
  by_cases hlt:aC v0 v1 v2 v3<F.M
  ·rw[show cJ (aC v0 v1 v2 v3) (aC F.m0 F.m1 F.m2 F.m3) = -1 from Bx hlt]at he;subst he;have kr:=HM.out.row (b:=w.heap.size) (c0:=v0) (c1:=v1) (c2:=v2) (c3:=v3) (by simp);have x0:=kr.c0; have x1:=kr.c1; have x2:=kr.c2; have x3:=kr.c3;clear kr;have xl:=HM.out.lt (b:=w.heap.size) (c0:=v0) (c1:=v1) (c2:=v2) (c3:=v3) (by simp);have kr:=HM.out.row (b:=w.heap.size+1) (c0:=0) (c1:=0) (c2:=0) (c3:=0) (by simp);have y0:=kr.c0; have y1:=kr.c1; have y2:=kr.c2; have y3:=kr.c3; have yf:=kr.fr;clear kr;have yl:=HM.out.lt (b:=w.heap.size+1) (c0:=0) (c1:=0) (c2:=0) (c3:=0) (by simp);have HE:=Lib.hid (show aC v0 v1 v2 v3=aC a0 a1 a2 a3%F.M by rw[←HV.out.2,Nat.mod_eq_of_lt hlt]);clear HV hlt;go_wp2_with fail;refine bodyPost_ret (v:=.agg #[.int .u64 v0,.int .u64 v1,.int .u64 v2,.int .u64 v3]) (by simp[results,results27,go_sem, *]) rfl ?_;refine⟨_,_,_,_,rfl,hv,HE.out,?_⟩;exact bQ HM.out.1 (by omega) _ _ _ _
  ·obtain⟨k,rfl⟩:∃k,gk=k+1:=⟨gk-1,by have h:=HV.out.1; have:=Nat.div_pos (show F.M≤aC v0 v1 v2 v3 by omega) hpos; omega⟩
   have HT:decide (0≤cJ (aC v0 v1 v2 v3) (aC F.m0 F.m1 F.m2 F.m3))=true:=By hlt;generalize cJ (aC v0 v1 v2 v3) (aC F.m0 F.m1 F.m2 F.m3)=cc at *;subst he;have kr:=HM.out.row (b:=w.heap.size) (c0:=v0) (c1:=v1) (c2:=v2) (c3:=v3) (by simp);have x0:=kr.c0; have x1:=kr.c1; have x2:=kr.c2; have x3:=kr.c3;clear kr;have xl:=HM.out.lt (b:=w.heap.size) (c0:=v0) (c1:=v1) (c2:=v2) (c3:=v3) (by simp);have kr:=HM.out.row (b:=w1.heap.size) (c0:=F.m0) (c1:=F.m1) (c2:=F.m2) (c3:=F.m3) (by simp);have u0:=kr.c0; have u1:=kr.c1; have u2:=kr.c2; have u3:=kr.c3;clear kr;have ul:=HM.out.lt (b:=w1.heap.size) (c0:=F.m0) (c1:=F.m1) (c2:=F.m2) (c3:=F.m3) (by simp);have Hlt:=Lib.hid hlt;clear hlt;go_wp2_with fail;refine (kL v0 v1 v2 v3 F.m0 F.m1 F.m2 F.m3 hv hf.ok.okm _).mono ?_
   rintro e w3 ⟨s0,s1,s2,s3,c,rfl,hs,hc,he,hbl⟩
   have HE:=Lib.hid (show aC s0 s1 s2 s3+F.M=aC v0 v1 v2 v3 by have:=fW hs; have:=fW hv; have:=Hlt.out; have hM:aC F.m0 F.m1 F.m2 F.m3=F.M:=rfl; rw[hM]at he; omega);clear he;have HM':=Lib.hid (HM.out.on hbl);clear HM hbl;have HM:=HM';clear HM';clear x0 x1 x2 x3 xl u0 u1 u2 u3 ul;have kr:=HM.out.row (b:=w.heap.size) (c0:=v0) (c1:=v1) (c2:=v2) (c3:=v3) (by simp);have x0:=kr.c0; have x1:=kr.c1; have x2:=kr.c2; have x3:=kr.c3; have xf:=kr.fr;clear kr;have xl:=HM.out.lt (b:=w.heap.size) (c0:=v0) (c1:=v1) (c2:=v2) (c3:=v3) (by simp);have HM':=Lib.hid (HM.out.put s0 s1 s2 s3 (by omega) (by intro r hr; simp at hr; rcases hr with rfl|rfl<;>simp<;>omega));clear HM;go_wp2_with fail
   go_roundg k
   case rel=>exact⟨s0,s1,s2,s3,hs,Lib.hid (by
     have h:=HV.out;rw[←HE.out,Nat.add_mod_right,Nat.add_div_right _ hpos]at h;exact⟨by omega,h.2⟩),HM'⟩
   case measure=>omega
end Go.Proofs.YtpbljiejmfahcaaDoor
