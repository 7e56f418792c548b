/- Et03 -/
import Derived.KernelRfl
import Derived.Laws.MakeOwn
import Derived.WalkKit
import Derived.WalkLawsBesides
import Derived.WalkSpells
import Derived.ProofKit
import Derived.RegionTactic
import Derived.BigRegion
import Derived.BigQuiet
import Derived.Deep.QuietTactic
import Derived.ChangeAlike
import Derived.Laws.Externs
import Derived.LoopN
import Derived.Below
import Derived.Lib.Hide
import Derived.Shelf.Small.Bits
import Derived.Shelf.Strconv.Itoa0
import Derived.Shelf.Bits.Mul64
import Derived.StillTailTactics
import Derived.Laws.Bits64b
import Derived.Laws.Bits64
import Derived.Deep.Draws
import Derived.LoopTactic
import Derived.Test.YtpjlhhpjpnacmaaGreatDoorEt02
import Derived.Test.YtpjlhhpjpnacmaaGreatDoorProg
import Derived.Test.YtpjlhhpjpnacmaaGreatDoorEt00
set_option maxRecDepth 100000
set_option linter.unusedVariables false
set_option linter.unusedSimpArgs false
set_option linter.unnecessarySimpa false
namespace Go.Proofs.YtpjlhhpjpnacmaaGreatDoor.Ex
open Go.Proofs.Tryz
open Go.RowKit
def oldOf (w:World) (b o:Nat) (l:List At):Prop:=b<w.heap.size∧w.rangeAt b o (aA l)
theorem bJ {base:Nat} {w w':World} (h:Below base w w') {b o:Nat} {l:List Value} (hb:b<base) (hr:w.rangeAt b o l):w'.rangeAt b o l:=fun j v hj=>by
 rw[h.cell hb];exact hr j v hj
abbrev Tab2:=Nat→List CA→Option (List Prop×FR)
def WR:Tab2:=fun _ _=>none
def FrOk (P:Program) (T:Tab2):Prop:=∀f cs pre r,T f cs=some (pre,r)→bC pre →
 (∀args w,(callFunc f args).run P w=.ok (.enter f args) w)∧∀(args:List Value) (w:World),cP w cs args→Calls P f args.toArray w (fun e w'=>r.ok w e w')
theorem Hd (P:Program):FrOk P WR:=fun _ _ _ _ h=>by cases h
def Tab2.add (T:Tab2) (f:Nat) (g:List CA→Option (List Prop×FR)):Tab2:=fun f' cs=>bif Nat.beq f' f then g cs else T f' cs
theorem FrOk.add {P:Program} {T:Tab2} (hT:FrOk P T) {f:Nat} {fn:Func} (hf:P.funcs[f]?=some fn) (hn:(fn.name == "runtime.NumGoroutine")=false) (hb:fn.body.isNone=false) {g:List CA→Option (List Prop×FR)}
  (h:∀cs pre r,g cs=some (pre,r)→bC pre→∀(args:List Value) (w:World),cP w cs args→Calls P f args.toArray w (fun e w'=>r.ok w e w')):FrOk P (T.add f g):=by
 intro f' cs pre r hg hp;unfold Tab2.add at hg;cases hb':Nat.beq f' f<;>rw[hb']at hg
 ·exact hT f' cs pre r hg hp
 ·cases Nat.eq_of_beq_eq_true hb';exact⟨cC hf hn hb,h cs pre r hg hp⟩
abbrev Tab3:=Nat→List CA→Option (List Prop×FS)
abbrev aBn:=Nat→List CA→Option (List Prop×Nat×List At)
def FsOk (P:Program) (T:Tab3):Prop:=∀f cs pre r,T f cs=some (pre,r)→bC pre →
 (∀args w,(callFunc f args).run P w=.ok (.enter f args) w)∧∀(args:List Value) (w:World),cP w cs args→Calls P f args.toArray w (fun e w'=>r.ok w e w')
def Qw (P:Program) (T:aBn):Prop:=∀f cs pre j l,T f cs=some (pre,j,l)→bC pre →
 (∀args w,(callFunc f args).run P w=.ok (.enter f args) w)∧∀(args:List Value) (w:World),cP w cs args→∀b o n m,args[j]?=some (.slice (some ⟨b,o,none⟩) n m)→(∀q,w.frozen? ⟨b,q,none⟩=false) →
  Calls P f args.toArray w (fun e w'=>e=.returned (.slice (some ⟨b,o,none⟩) n m)∧WrAt w w' b l∧w'.rangeAt b o (aA l))
abbrev Tab5:=Nat→List CA→Option (List Prop×Nat×RV×List At)
def PtOk (P:Program) (T:Tab5):Prop:=∀f cs pre j r l,T f cs=some (pre,j,r,l)→bC pre →
 (∀args w,(callFunc f args).run P w=.ok (.enter f args) w)∧∀(args:List Value) (w:World),cP w cs args→∀b o,args[j]?=some (.pointer (some ⟨b,o,none⟩))→(∀q,w.frozen? ⟨b,q,none⟩=false) →
  Calls P f args.toArray w (fun e w'=>e=.returned r.den∧WrC w w' b∧w'.rangeAt b 0 (aA l))
def kX:Tab5:=fun _ _=>none
theorem jL (P:Program):PtOk P kX:=fun _ _ _ _ _ _ h=>by cases h
def Tab5.add (T:Tab5) (f:Nat) (g:List CA→Option (List Prop×Nat×RV×List At)):Tab5:=fun f' cs=>bif Nat.beq f' f then g cs else T f' cs
theorem PtOk.add {P:Program} {T:Tab5} (hT:PtOk P T) {f:Nat} {fn:Func} (hf:P.funcs[f]?=some fn) (hn:(fn.name == "runtime.NumGoroutine")=false) (hb:fn.body.isNone=false) {g:List CA→Option (List Prop×Nat×RV×List At)}
  (h:∀cs pre j r l,g cs=some (pre,j,r,l)→bC pre→∀(args:List Value) (w:World),cP w cs args→∀b o,args[j]?=some (.pointer (some ⟨b,o,none⟩))→(∀q,w.frozen? ⟨b,q,none⟩=false) →
   Calls P f args.toArray w (fun e w'=>e=.returned r.den∧WrC w w' b∧w'.rangeAt b 0 (aA l))):PtOk P (T.add f g):=by
 intro f' cs pre j r l hg hp;unfold Tab5.add at hg;cases hb':Nat.beq f' f<;>rw[hb']at hg
 ·exact hT f' cs pre j r l hg hp
 ·cases Nat.eq_of_beq_eq_true hb';exact⟨cC hf hn hb,h cs pre j r l hg hp⟩
theorem PtOk.ad {P:Program} {T:Tab5} (hT:PtOk P T) {f:Nat} {fn:Func} (hf:P.funcs[f]?=some fn) {g:List CA→Option (List Prop×Nat×RV×List At)}
 (h:∀cs pre j r l,g cs=some (pre,j,r,l)→bC pre→∀(args:List Value) (w:World),cP w cs args→∀b o,args[j]?=some (.pointer (some ⟨b,o,none⟩))→(∀q,w.frozen? ⟨b,q,none⟩=false)→Calls P f args.toArray w (fun e w'=>e=.returned r.den∧WrC w w' b∧w'.rangeAt b 0 (aA l))) (hn:(fn.name == "runtime.NumGoroutine")=false:=by kernel_rfl) (hb:fn.body.isNone=false:=by kernel_rfl):PtOk P (T.add f g):=hT.add hf hn hb h
abbrev Tab6:=Nat→Nat→List At→List CB→Option (List Prop×RV×List At)
def Gp (b:Nat) (w:World) (r:RV) (l:List At) (e:Ending) (w':World):Prop:=e=.returned r.den∧WrC w w' b∧w'.rangeAt b 0 (aA l)
def PbOk (P:Program) (T:Tab6):Prop:=∀f b row cs pre r l,T f b row cs=some (pre,r,l)→bC pre→(∀args w,(callFunc f args).run P w=.ok (.enter f args) w) ∧
 ∀(args:List Value) (w:World),b<w.heap.size→w.rangeAt b 0 (aA row)→(∀q,w.frozen? ⟨b,q,none⟩=false)→CBs w b cs args→Calls P f args.toArray w (Gp b w r l)
def Gy:Tab6:=fun _ _ _ _=>none
theorem yQ (P:Program):PbOk P Gy:=fun _ _ _ _ _ _ _ h=>by cases h
def Tab6.add (T:Tab6) (f:Nat) (g:Nat→List At→List CB→Option (List Prop×RV×List At)):Tab6:=fun f' b row cs=>bif Nat.beq f' f then g b row cs else T f' b row cs
theorem PbOk.add {P:Program} {T:Tab6} (hT:PbOk P T) {f:Nat} {fn:Func} (hf:P.funcs[f]?=some fn) (hn:(fn.name == "runtime.NumGoroutine")=false) (hb:fn.body.isNone=false) {g:Nat→List At→List CB→Option (List Prop×RV×List At)}
  (h:∀b row cs pre r l,g b row cs=some (pre,r,l)→bC pre→∀(args:List Value) (w:World),b<w.heap.size→w.rangeAt b 0 (aA row)→(∀q,w.frozen? ⟨b,q,none⟩=false)→CBs w b cs args→Calls P f args.toArray w (Gp b w r l)):PbOk P (T.add f g):=by
 intro f' b row cs pre r l hg hp;unfold Tab6.add at hg;cases hb':Nat.beq f' f<;>rw[hb']at hg
 ·exact hT f' b row cs pre r l hg hp
 ·cases Nat.eq_of_beq_eq_true hb';exact⟨cC hf hn hb,h b row cs pre r l hg hp⟩
def SS:Tab3:=fun _ _=>none
def XB:aBn:=fun _ _=>none
theorem Hc (P:Program):FsOk P SS:=fun _ _ _ _ h=>by cases h
theorem EK (P:Program):Qw P XB:=fun _ _ _ _ _ h=>by cases h
def Tab3.add (T:Tab3) (f:Nat) (g:List CA→Option (List Prop×FS)):Tab3:=fun f' cs=>bif Nat.beq f' f then g cs else T f' cs
theorem FsOk.add {P:Program} {T:Tab3} (hT:FsOk P T) {f:Nat} {fn:Func} (hf:P.funcs[f]?=some fn) (hn:(fn.name == "runtime.NumGoroutine")=false) (hb:fn.body.isNone=false) {g:List CA→Option (List Prop×FS)}
  (h:∀cs pre r,g cs=some (pre,r)→bC pre→∀(args:List Value) (w:World),cP w cs args→Calls P f args.toArray w (fun e w'=>r.ok w e w')):FsOk P (T.add f g):=by
 intro f' cs pre r hg hp;unfold Tab3.add at hg;cases hb':Nat.beq f' f<;>rw[hb']at hg
 ·exact hT f' cs pre r hg hp
 ·cases Nat.eq_of_beq_eq_true hb';exact⟨cC hf hn hb,h cs pre r hg hp⟩
theorem FsOk.ad {P:Program} {T:Tab3} (hT:FsOk P T) {f:Nat} {fn:Func} (hf:P.funcs[f]?=some fn) {g:List CA→Option (List Prop×FS)}
 (h:∀cs pre r,g cs=some (pre,r)→bC pre→∀(args:List Value) (w:World),cP w cs args→Calls P f args.toArray w (fun e w'=>r.ok w e w')) (hn:(fn.name == "runtime.NumGoroutine")=false:=by kernel_rfl) (hb:fn.body.isNone=false:=by kernel_rfl):FsOk P (T.add f g):=hT.add hf hn hb h
theorem Ot {P:Program} {x:Ext} {w:World} (h2:FrOk P x.T2) (ho:∀b o l,x.old b o l→oldOf w b o l) (h3:FsOk P x.T3) (h4:Qw P x.T4) (h5:PtOk P x.T5:=by exact jL _) (h6:PbOk P x.T6:=by exact yQ _):ExtOk P x w.heap.size w:=fun w' hb =>
 ⟨fun b o l h=>bJ hb (ho b o l h).1 (ho b o l h).2,fun f cs pre r hg hp=>⟨(h2 f cs pre r hg hp).1,fun args ha=>(h2 f cs pre r hg hp).2 args w' ha⟩,
  fun f cs pre r hg hp=>⟨(h3 f cs pre r hg hp).1,fun args ha=>(h3 f cs pre r hg hp).2 args w' ha⟩,fun f cs pre j l hg hp=>⟨(h4 f cs pre j l hg hp).1,fun args ha=>(h4 f cs pre j l hg hp).2 args w' ha⟩,fun f cs pre j r l hg hp=>⟨(h5 f cs pre j r l hg hp).1,fun args ha b o hj hz _=>(h5 f cs pre j r l hg hp).2 args w' ha b o hj hz⟩,fun f b row cs pre r l hg hp=>⟨(h6 f b row cs pre r l hg hp).1,fun args=>(h6 f b row cs pre r l hg hp).2 args w'⟩⟩
def FrAt (P:Program) (T:Tab2) (w:World):Prop:=∀f cs pre r,T f cs=some (pre,r)→bC pre→(∀args w,(callFunc f args).run P w=.ok (.enter f args) w)∧∀(args:List Value),cP w cs args→Calls P f args.toArray w (fun e w'=>r.ok w e w')
def FsAt (P:Program) (T:Tab3) (w:World):Prop:=∀f cs pre r,T f cs=some (pre,r)→bC pre→(∀args w,(callFunc f args).run P w=.ok (.enter f args) w)∧∀(args:List Value),cP w cs args→Calls P f args.toArray w (fun e w'=>r.ok w e w')
theorem FrAt.none (P:Program) (w:World):FrAt P WR w:=fun _ _ _ _ h=>by cases h
theorem FsAt.none (P:Program) (w:World):FsAt P SS w:=fun _ _ _ _ h=>by cases h
theorem jT {P:Program} {x:Ext} {base:Nat} {w:World} (ho:∀b o l,x.old b o l→b<base∧w.rangeAt b o (aA l)) (h2:∀w',Below base w w'→FrAt P x.T2 w') (h3:∀w',Below base w w'→FsAt P x.T3 w') (h4:Qw P x.T4:=by exact EK _) (h5:PtOk P x.T5:=by exact jL _) (h6:PbOk P x.T6:=by exact yQ _):ExtOk P x base w:=fun w' hb =>
 ⟨fun b o l h=>bJ hb (ho b o l h).1 (ho b o l h).2,h2 w' hb,h3 w' hb,fun f cs pre j l hg hp=>⟨(h4 f cs pre j l hg hp).1,fun args ha=>(h4 f cs pre j l hg hp).2 args w' ha⟩,fun f cs pre j r l hg hp=>⟨(h5 f cs pre j r l hg hp).1,fun args ha b o hj hz _=>(h5 f cs pre j r l hg hp).2 args w' ha b o hj hz⟩,fun f b row cs pre r l hg hp=>⟨(h6 f b row cs pre r l hg hp).1,fun args=>(h6 f b row cs pre r l hg hp).2 args w'⟩⟩
def qY (P:Program) (x:Ext):EqT:={ qG P with x:=x }
theorem Si {P:Program} {x:Ext} {w:World} (h2:FrOk P x.T2) (ho:∀b o l,x.old b o l→oldOf w b o l) (h3:FsOk P x.T3) (h4:Qw P x.T4) (h5:PtOk P x.T5:=by exact jL _) (h6:PbOk P x.T6:=by exact yQ _):bQ P (qY P x) w.heap.size w:=⟨(aV P).1,Ot h2 ho h3 h4 h5 h6⟩
def Se (P:Program) (A:List Fact):List ResultVar→Option FR
 | .tmp s::rest=>(match tX A s with
  | some (.sl k 0 n m)=>(match dZ A k,rZ P A rest with
   | some (true,l),some post=>some ⟨l,n,m,post⟩
   | _,_=>none)
  | _=>none)
 | _=>none
theorem AL {P:Program} {fn:Func} {A:List Fact} {r:FR} {w:World} (h:Se P A fn.results.toList=some r) {a:Act} {w':World} (hA:Holds fn.ntmps w.heap.size w A a w'):bodyPost P fn (fun e w'=>r.ok w e w') .ret a w':=by
 obtain⟨β,hok,_⟩:=hA.facts;unfold Se at h;split at h
 ·rename_i s rest hx;split at h
  ·rename_i k n m hl;split at h
   ·rename_i l post hr hp;cases h;obtain⟨g1,g2,g3,_⟩:=hok _ (bM hr);obtain⟨g4,g5,g6⟩:=g3 rfl;have hs:=hok _ (fW hl);simp only[Fact.ok,AV.den]at hs;rw[g5]at hs g2;have hv:a.tmps.getD s undef=.slice (some ⟨(β k).1,0,none⟩) n m:=by simp[hs]
    have h1:(vC a.tmps (.tmp s)).run P w'=.ok (.slice (some ⟨(β k).1,0,none⟩) n m) w':=by
     show (pure (a.tmps.getD s undef):Sem Value).run P w'=_;rw[hv]; rfl
    have h2:=kF hok hp;have hres:(results fn a.tmps).run P w'=.ok ((⟨l,n,m,post⟩:FR).val (β k).1) w':=by
     show ((fn.results.mapM (vC a.tmps)) >>= fun vs=>pure (if h:vs.size=1 then vs[0]else .tuple vs):Sem Value).run P w'=_;have hm:(List.toArray <$> fn.results.toList.mapM (vC a.tmps)).run P w'=.ok (.slice (some ⟨(β k).1,0,none⟩) n m::post.map TV.den).toArray w':=by
      rw[hx];simp[List.mapM_cons,h1,h2]
     rw[Array.mapM_eq_mapM_toList,Sem.run_bind,hm,Result.andThen_ok,Sem.run_pure];refine congrArg (fun x=>Result.ok x w') ?_;unfold FR.val;cases post with
     | nil=>rfl
     | cons t ts=>rw[dif_neg (by simp)]; rfl
    exact⟨hA.defers,_,hres,(β k).1,rfl,hA.below,g4,g1,g2,g6⟩
   ·cases h
  ·cases h
 ·cases h
theorem Holds.at {nt base:Nat} {w0:World} {A:List Fact} {a:Act} {w:World} (h:Holds nt base w0 A a w) {k:Nat} {l:List At} (hk:Fact.row k true l∈A):∃b,Holds nt base w0 (.at k b::A) a w:=by
 obtain⟨β,h1,h2,h3⟩:=h.facts;obtain⟨_,_,g3,_⟩:=h1 _ hk;have up:∀k1 o1 l1,Fact.row k1 o1 l1∈(Fact.at k (β k).1::A)→Fact.row k1 o1 l1∈A:=fun k1 o1 l1 e=>by
  rcases List.mem_cons.1 e with e|e
  ·cases e
  ·exact e
 refine⟨(β k).1,h.defers,h.size,h.below,h.heap,β,fun φ hφ => ?_,fun k1 k2 o2 l1 l2 e1 e2=>h2 k1 k2 o2 l1 l2 (up _ _ _ e1) (up _ _ _ e2),fun k1 l1 e=>h3.1 k1 l1 (up _ _ _ e),h3.2⟩
 rcases List.mem_cons.1 hφ with rfl|hφ
 ·exact⟨rfl,(g3 rfl).2.1⟩
 ·exact h1 φ hφ
def Ok (P:Program) (base:Nat) (w0:World) (nt:Nat) (c:Code) (A:List Fact) (e:EA) (L:List Fact):Prop :=
 ∃q C f ps,bQ P q base w0∧(∀n d,TabOkW P ((C n).T d) base w0)∧aX P q nt C f c A L=some (ps,e,L)∧bC ps
section
variable {P:Program} {nt base:Nat} {w0:World} {Q:Exit→Act→World→Prop}
theorem Ok.wp (hm:P.follows .mixedOrders=true) {c:Code} {A L:List Fact} {e:EA} (h:Ok P base w0 nt c A e L) {a:Act} {w:World} (hA:Holds nt base w0 A a w) (hQ:∀a w,Holds nt base w0 L a w→Q e.out a w):c.wp P Q a w:=by
 obtain⟨q,C,f,ps,h1,h2,h3,h4⟩:=h;exact aB hm h2 h1 h3 h4 hA hQ
theorem kG (hm:P.follows .mixedOrders=true) {c:Code} (A:Nat→List Fact) (N:Nat) (hstep:∀i,i<N→Ok P base w0 nt c (A i) .nrm (A (i+1)))
  (e:EA) (he:e ≠ .nrm) (A':List Fact) (hend:Ok P base w0 nt c (A N) e A')
  {a:Act} {w:World} (hA:Holds nt base w0 (A 0) a w) (hQ:∀a w,Holds nt base w0 A' a w→Q e.out a w):(Code.loop c).wp P Q a w:=by
 have key:∀m i a w,i+m=N→Holds nt base w0 (A i) a w→Un P c Q (m+1) a w:=by
  intro m
  induction m with
  | zero =>
   intro i a w hi hA;have:i=N:=by omega
   subst this;unfold Un;refine hend.wp hm hA fun a w hA1 => ?_
   have:=hQ a w hA1;cases e with
   | nrm=>exact (he rfl).elim
   | ex id=>exact this
   | rt=>exact this
  | succ m ih =>
   intro i a w hi hA;unfold Un;exact (hstep i (by omega)).wp hm hA fun a w hA1=>ih (i+1) a w (by omega) hA1
 exact dU (key N 0 a w (by omega) hA)
end
theorem TabOkW.add {P:Program} {T:Tab} {base:Nat} {w0:World} (hT:TabOkW P T base w0) {f:Nat} {fn:Func} (hf:P.funcs[f]?=some fn) (hn:(fn.name == "runtime.NumGoroutine")=false) (hb:fn.body.isNone=false) {g:List CA→Option (List Prop×RV)}
  (h:∀w,Below base w0 w→∀cs pre r,g cs=some (pre,r)→bC pre→∀(args:List Value),cP w cs args→Calls P f args.toArray w (fun e w'=>e=.returned r.den∧Below w.heap.size w w')):TabOkW P (T.add f g) base w0:=by
 intro w hw f' cs pre r hg hp;unfold Tab.add at hg;cases hb':Nat.beq f' f<;>rw[hb']at hg
 ·exact hT w hw f' cs pre r hg hp
 ·cases Nat.eq_of_beq_eq_true hb';exact⟨cC hf hn hb,h w hw cs pre r hg hp⟩
theorem oldOf.go {base:Nat} {w0 w:World} (hb:Below base w0 w) (hbase:base≤w0.heap.size) {b o:Nat} {l:List At} (h:b<base∧w0.rangeAt b o (aA l)):oldOf w b o l :=
 ⟨Nat.lt_of_lt_of_le h.1 (Nat.le_trans hbase hb.size),bJ hb h.1 h.2⟩
def assoc {α:Type}:List (Nat×α)→Nat→Option α
 | [],_=>none
 | (k,v)::r,s=>bif Nat.beq k s then some v else assoc r s
def iI (n:Nat):Value:=.int .i64 (Int.ofNat n)
def aM (b o n m:Nat):Value:=.slice (some ⟨b,o,none⟩) n m
def ptV (b o:Nat):Value:=.pointer (some ⟨b,o,none⟩)
theorem kT {n:Nat} (h:n<9223372036854775808):IntKind.i64.wrap (n:Int)=n:=by rw[IntKind.wrap_i64]; omega
theorem Sp {i n:Nat}:aN .lss .i64 (Int.ofNat i) (Int.ofNat n)=some (.bool (decide (i<n))):=by
 show some (Value.bool (decide ((i:Int)<(n:Int))))=_
 by_cases h:i<n
 ·rw[decide_eq_true h,decide_eq_true (by omega)]
 ·rw[decide_eq_false h,decide_eq_false (by omega)]
theorem fA {i n:Nat} (h:i<n):aN .lss .i64 (Int.ofNat i) (Int.ofNat n)=some (.bool true):=by rw[Sp,decide_eq_true h]
theorem dM {i n:Nat} (h:n≤i):aN .lss .i64 (Int.ofNat i) (Int.ofNat n)=some (.bool false):=by rw[Sp,decide_eq_false (by omega)]
theorem gN {i k:Nat} (h:i+k<9223372036854775808):aN .add .i64 (Int.ofNat i) (Int.ofNat k)=some (iI (i+k)):=by
 show some (Value.int .i64 (IntKind.i64.wrap ((i:Int)+(k:Int))))=_;rw[show (i:Int)+(k:Int)=((i+k:Nat):Int) by omega,kT h];rfl
theorem nV {i k:Nat} (h:k≤i) (hi:i<9223372036854775808):aN .sub .i64 (Int.ofNat i) (Int.ofNat k)=some (iI (i-k)):=by
 show some (Value.int .i64 (IntKind.i64.wrap ((i:Int)-(k:Int))))=_;rw[show (i:Int)-(k:Int)=((i-k:Nat):Int) by omega,kT (by omega)];rfl
theorem So {i k:Nat} (h:i*k<9223372036854775808):aN .mul .i64 (Int.ofNat i) (Int.ofNat k)=some (iI (i*k)):=by
 show some (Value.int .i64 (IntKind.i64.wrap ((i:Int)*(k:Int))))=_;rw[show (i:Int)*(k:Int)=((i*k:Nat):Int) by simp,kT h];rfl
theorem Aw {i k:Nat} (hk:0<k) (h:i<9223372036854775808):aN .quo .i64 (Int.ofNat i) (Int.ofNat k)=some (iI (i/k)):=by
 show (if (k:Int)=0 then none else some (Value.int .i64 (IntKind.i64.wrap ((i:Int).tdiv (k:Int)))))=_;rw[if_neg (by omega),show (i:Int).tdiv (k:Int)=((i/k:Nat):Int)from rfl,kT (Nat.lt_of_le_of_lt (Nat.div_le_self _ _) h)];rfl
section
variable {E:Env} {ops big:Array Oper} {base:Nat} {w0:World} {A A':List Fact} {TF:List (Option Nat×Fact)} {rs:List Rec} {ps:List Prop} {Q:Exit→Act→World→Prop}
theorem FK {off:Nat} {R:List Nat} (hT:∀d,TabOkW E.P (E.T d) base w0) (hq:bQ E.P E.q base w0) (hrun:wJ E false ops ops.toList 0 (A.map fun φ=>(none,φ)) [] []=some (ps,TF,rs)) (hps:bC ps) (hchk:Hn false ops rs=true)
  (hsub:∀i,i<ops.size→big[off+i]?=ops[i]?) (hg:∀(i:Nat) (o:Oper),ops[i]?=some o→o.guard=none)
  (hQ:∀a w,Inv E false ops base w0 TF rs (fun i=>i<ops.size) a w→wpOps E.P big Q R a w) :
  ∀(m k:Nat) (a:Act) (w:World),k+m=ops.size→Inv E false ops base w0 TF rs (fun i=>i<k) a w→wpOps E.P big Q (List.range' (off+k) m++R) a w
 | 0,k,a,w,hk,hI=>by
  have:k=ops.size:=by omega
  subst this;exact hQ a w hI
 | m+1,k,a,w,hk,hI=>by
  have hlt:k<ops.size:=by omega
  have ho:ops[k]?=some ops[k]:=Array.getElem?_eq_getElem hlt;have hst:=rN hT hq hrun hps hchk (Q:=Q) hI ho (Nat.lt_irrefl k) (fun j hj=>by unfold OO at hj; simpa using hj);have hgk:=hg k _ ho;have hw1:∀y,Region.wanted ops[k] y=true:=fun y=>by unfold Region.wanted; rw[hgk]
  rw[if_pos (hw1 _)]at hst;simp only[List.range'_succ,List.cons_append,wpOps];rw[hsub k hlt,ho];simp only;have hnext:∀a' w',Inv E false ops base w0 TF rs (fun j=>j=k∨j<k) a' w'→wpOps E.P big Q (List.range' (off+k+1) m++R) a' w':=fun a' w' h=>by
   have:=FK hT hq hrun hps hchk hsub hg hQ m (k+1) a' w' (by omega) (by
    have:(fun j=>j<k+1)=fun j=>j=k∨j<k:=funext fun j=>propext (by omega)
    rwa [this])
   rwa [←Nat.add_assoc]at this
  rw[if_pos (hw1 _)];exact Or.inl (Oper.wp_mono hnext hst)
theorem MS {off:Nat} {R:List Nat} (hT:∀d,TabOkW E.P (E.T d) base w0) (hq:bQ E.P E.q base w0) (h:zE E false ops A=some (ps,A')) (hps:bC ps)
  (hsub:∀i,i<ops.size→big[off+i]?=ops[i]?) (hg:ops.toList.all (fun o=>o.guard.isNone)=true) {a:Act} {w:World} (hA:Holds E.nt base w0 A a w)
  (hQ:∀a w,Holds E.nt base w0 A' a w→wpOps E.P big Q R a w):wpOps E.P big Q (List.range' off ops.size++R) a w:=by
 unfold zE at h;split at h
 ·rename_i ps' TF rs hrun;cases hc:(Hn false ops rs&&Hj false ops)<;>rw[hc]at h
  ·cases h
  ·cases h;rw[Bool.and_eq_true]at hc;have hg':∀(i:Nat) (o:Oper),ops[i]?=some o→o.guard=none:=fun i o ho=>by
    rw[List.all_eq_true]at hg;have:=hg o (Array.mem_toList_iff.2 (Array.mem_of_getElem? ho));simpa using this
   have:=FK (off:=off) (R:=R) (Q:=Q) hT hq hrun hps hc.1 hsub hg' (fun a w hI=>hQ a w (pC hrun (fun _ h=>h) hI)) ops.size 0 a w (by omega) (by
    have:(fun i=>i<0)=fun _:Nat=>False:=funext fun i=>propext ⟨fun h=>by omega,fun h=>h.elim⟩
    rw[this];exact jX hrun hA)
   rwa [Nat.add_zero]at this
 ·cases h
end
def cX (P:Program) (q:EqT) (nt:Nat) (c:Cfg) (ops:Array Oper) (A K:List Fact):Option (List Prop×List Fact) :=
 match zE (Sr P q nt c) false ops A with
 | some (ps,A1)=>match pick A1 K with|some L=>some (ps,L)|none=>none
 | none=>none
theorem GX {P:Program} {q:EqT} {nt base off:Nat} {c:Cfg} {w0:World} {ops big:Array Oper} {A K L:List Fact} {ps:List Prop} {Q:Exit→Act→World→Prop} {R:List Nat} (hT:∀d,TabOkW P (c.T d) base w0) (hq:bQ P q base w0) (h:cX P q nt c ops A K=some (ps,L)) (hps:bC ps)
  (hsub:∀i,i<ops.size→big[off+i]?=ops[i]?) (hg:ops.toList.all (fun o=>o.guard.isNone)=true) {a:Act} {w:World} (hA:Holds nt base w0 A a w)
  (hQ:∀a w,Holds nt base w0 L a w→wpOps P big Q R a w):wpOps P big Q (List.range' off ops.size++R) a w:=by
 unfold cX at h;split at h
 ·rename_i ps' A1 h1;split at h
  ·rename_i L' h2;cases h;exact MS (E:=Sr P q nt c) hT hq h1 hps hsub hg hA fun a w hA1=>hQ a w (hA1.sub (iE h2))
  ·cases h
 ·cases h
theorem aJ {P:Program} {q:EqT} {nt base s e:Nat} {c:Cfg} {w0:World} {big:Array Oper} {A K L:List Fact} {ps:List Prop} {Q:Exit→Act→World→Prop} {R:List Nat} (hT:∀d,TabOkW P (c.T d) base w0) (hq:bQ P q base w0) (h:cX P q nt c (big.extract s e) A K=some (ps,L)) (hps:bC ps)
  (hg:(big.extract s e).toList.all (fun o=>o.guard.isNone)=true) {a:Act} {w:World} (hA:Holds nt base w0 A a w)
  (hQ:∀a w,Holds nt base w0 L a w→wpOps P big Q R a w):wpOps P big Q (List.range' s (big.extract s e).size++R) a w :=
 GX hT hq h hps (fun i hi=>by
  have hi':i<min e big.size-s:=by simpa using hi
  rw[Array.getElem?_extract,if_pos hi']) hg hA hQ
theorem bE {P:Program} {big:Array Oper} {Q:Exit→Act→World→Prop} {R:List Nat} {i:Nat} {o:Oper} (ho:big[i]?=some o) (hg:o.guard=none) {a:Act} {w:World} (h:o.wp P a w (fun a w=>wpOps P big Q R a w) Q):wpOps P big Q (i::R) a w:=by
 simp only[wpOps];rw[ho];simp only;have hw:∀y,Region.wanted o y=true:=fun y=>by unfold Region.wanted; rw[hg]
 rw[if_pos (hw _)];exact Or.inl h
def aE:Code→Array Oper
 | .region _ ops _=>ops
 | _ => #[]
section
variable {P:Program} {nt base:Nat} {w0:World} {A:List Fact} {a:Act} {w:World}
theorem Holds.im (h:Holds nt base w0 A a w) {s k o n m b:Nat} (h1:Fact.slot s (.sl k o n m)∈A) (h2:Fact.at k b∈A):Holds nt base w0 (.slot s (.im (aM b o n m))::A) a w:=by
 obtain⟨β,g1,g2,g3⟩:=h.facts;have e1:=g1 _ h1;have e2:=g1 _ h2;simp only[Fact.ok]at e1 e2;have up:∀k1 o1 l1,Fact.row k1 o1 l1∈(Fact.slot s (.im (aM b o n m))::A)→Fact.row k1 o1 l1∈A:=fun k1 o1 l1 e=>by
  rcases List.mem_cons.1 e with e|e
  ·cases e
  ·exact e
 refine⟨h.defers,h.size,h.below,h.heap,β,fun φ hφ => ?_,fun k1 k2 o2 l1 l2 q1 q2=>g2 k1 k2 o2 l1 l2 (up _ _ _ q1) (up _ _ _ q2),fun k1 l1 e=>g3.1 k1 l1 (up _ _ _ e),g3.2⟩
 rcases List.mem_cons.1 hφ with rfl|hφ
 ·show a.tmps[s]?=_;rw[e1];simp[AV.den,e2,aM]
 ·exact g1 φ hφ
theorem Holds.old (h:Holds nt base w0 A a w) {k b:Nat} {l:List At} (h1:Fact.row k true l∈A) (h2:Fact.at k b∈A):oldOf w b 0 l:=by
 obtain⟨β,g1,g2⟩:=h.facts;obtain⟨e1,e2,_⟩:=g1 _ h1;have e3:=g1 _ h2;simp only[Fact.ok]at e3;rw[e3.1]at e1 e2;rw[e3.2]at e2;exact⟨e1,e2⟩
theorem Holds.slot (h:Holds nt base w0 A a w) {s:Nat} {v:Value} (h1:Fact.slot s (.im v)∈A):a.tmps[s]?=some v:=by
 obtain⟨β,g1,g2⟩:=h.facts;exact g1 _ h1
theorem Holds.slotF (h:Holds nt base w0 A a w) {s:Nat} {l:List At} (h1:Fact.slot s (.fl l)∈A):a.tmps[s]?=some (.agg (aA l).toArray):=by
 obtain⟨β,g1,g2⟩:=h.facts;exact g1 _ h1
theorem Holds.put (h:Holds nt base w0 A a w) {w':World} (hb:Below w.heap.size w w') {d:Nat} (hd:d<nt) (v:TV) (hA:∀φ∈A,qT (some d) none φ=false):Holds nt base w0 (.slot d v.av::A) (a.put (some d) v.den) w':=by
 obtain⟨β,g1,g2,g3,gt⟩:=h.facts;have hP:=tR (base:=base) (β:=β) (a:=a) (w:=w) (w':=w') (M:=A) v.av (d:=d) (by rw[h.size]; exact hd) h.heap hb;rw[TV.av_den]at hP;have up:∀k1 o1 l1,Fact.row k1 o1 l1∈(Fact.slot d v.av::A)→Fact.row k1 o1 l1∈A:=fun k1 o1 l1 e=>by
  rcases List.mem_cons.1 e with e|e
  ·cases e
  ·exact e
 refine⟨by rw[mL]; exact h.defers,by rw[aH]; exact h.size,h.below.trans (hb.mono h.heap),Nat.le_trans h.heap hb.size,β,fun φ hφ => ?_,fun k1 k2 o2 l1 l2 q1 q2=>g2 k1 k2 o2 l1 l2 (up _ _ _ q1) (up _ _ _ q2),fun k1 l1 e=>g3 k1 l1 (up _ _ _ e),Nat.le_trans gt.size hb.size,fun p h1 h2 => ?_,gt.shape.trans (Shape.below hb)⟩
 ·rcases List.mem_cons.1 hφ with rfl|hφ
  ·exact hP.ok _ (List.mem_singleton.2 rfl)
  ·exact aEa hP (g1 φ hφ) (hA φ hφ) fun kk k own l q=>by cases q
 ·have hlt:=Nat.lt_of_lt_of_le h2 gt.size;have:=gt.mem p h1 h2;exact⟨(hb.cell hlt).trans this.1,(hb.frozen hlt).trans this.2⟩
theorem vX {o:Oper} {K:Act→World→Prop} {Q:Exit→Act→World→Prop} {id:Nat} {xs:Array Operand} {ts:Array TypeId} {vs:List Value} {v:Value} (ho:o.op=.call ⟨.value (.func id),xs,ts⟩) (hv:xs.toList.map a.eval=vs)
  (he:∀xs,(callFunc id xs).run P w=.ok (.enter id xs) w) (hc:Calls P id vs.toArray w (fun e w'=>e=.returned v∧Below w.heap.size w w')) (hK:∀w',Below w.heap.size w w'→K (a.put o.dst v) w'):o.wp P a w K Q:=by
 have ea:xs.map a.eval=vs.toArray:=by rw[←Array.toArray_toList (xs:=xs.map a.eval),Array.toList_map,hv]
 have hrun:(execOp a.eval o).run P w=.ok (.enter id vs.toArray) w:=by
  have hf:a.eval (.func id)=.func (.func id) #[] #[]:=rfl;simp[execOp,ho,resolve,Deferred.ofValue,hf,invoke,ea,he]
 unfold Oper.wp;rw[hrun];refine Calls.mono hc ?_
 rintro e w' ⟨rfl,hb⟩
 exact hK w' hb
end
def cJ (f:Nat→List At):Nat→Nat→List At
 | _,0=>[]
 | s,n+1=>f s++cJ f (s+1) n
theorem yI (f:Nat→List At):∀n s,cJ f s (n+1)=cJ f s n++f (s+n)
 | 0,s=>by simp[cJ]
 | n+1,s=>by
  have:=yI f n (s+1);show f s++cJ f (s+1) (n+1)=(f s++cJ f (s+1) n)++f (s+(n+1));rw[this,List.append_assoc,show s+1+n=s+(n+1) by omega]
theorem iG {f:Nat→List At} {c:Nat} (h:∀j,dN (f j)=c):∀n s,dN (cJ f s n)=n*c
 | 0,s=>by simp[cJ,dN]
 | n+1,s=>by
  show dN (f s++cJ f (s+1) n)=_;rw[mR,h,iG h n,Nat.add_mul,Nat.one_mul,Nat.add_comm]
theorem jY (f:Nat→List At):∀(i n s:Nat),i<n→cJ f s n=cJ f s i++(f (s+i)++cJ f (s+i+1) (n-i-1))
 | 0,n+1,s,_=>rfl
 | i+1,n+1,s,h=>by
  have:=jY f i n (s+1) (by omega);show f s++cJ f (s+1) n=(f s++cJ f (s+1) i)++_;rw[this,List.append_assoc,show s+1+i=s+(i+1) by omega,show n+1-(i+1)-1=n-i-1 by omega]
theorem YJ (a:At):0<a.sz:=by cases a<;>exact Nat.succ_pos _
theorem LD:∀(A X:List At),tk (A++X) (dN A)=some A
 | [],X=>by cases X<;>rfl
 | a::r,X=>by
  have h:=YJ a;show tk (a::(r++X)) (a.sz+dN r)=_;unfold tk;rw[show Nat.beq (a.sz+dN r) 0=false by cases hq:Nat.beq (a.sz+dN r) 0; rfl; exact absurd (Nat.eq_of_beq_eq_true hq) (by omega),show Nat.ble a.sz (a.sz+dN r)=true by simp,Nat.add_sub_cancel_left,LD r X];rfl
theorem DT:∀(A X:List At),dp (A++X) (dN A)=some X
 | [],X=>by cases X<;>rfl
 | a::r,X=>by
  have h:=YJ a;show dp (a::(r++X)) (a.sz+dN r)=_;unfold dp;rw[show Nat.beq (a.sz+dN r) 0=false by cases hq:Nat.beq (a.sz+dN r) 0; rfl; exact absurd (Nat.eq_of_beq_eq_true hq) (by omega),show Nat.ble a.sz (a.sz+dN r)=true by simp,Nat.add_sub_cancel_left];exact DT r X
theorem Jp (A m s:List At) {o n:Nat} (ho:o=dN A) (hn:n=dN m):zQ (A++(m++s)) o n=some m:=by
 subst ho; subst hn;unfold zQ;rw[DT];exact LD m s
theorem CN (A m s v:List At) {o:Nat} (ho:o=dN A) (hn:dN v=dN m):put (A++(m++s)) o v=some (A++(v++s)):=by
 subst ho;unfold put;rw[LD,DT];simp only;rw[hn,DT]
theorem QI {f:Nat→List At} {c N i o:Nat} (h:∀j,dN (f j)=c) (hi:i<N) (ho:o=i*c):zQ (cJ f 0 N) o c=some (f i):=by
 rw[jY f i N 0 hi,Nat.zero_add];exact Jp _ _ _ (by rw[iG h,ho]) (h i).symm
def nH (f:Nat→List At) (z:List At) (N i:Nat):List At:=cJ f 0 i++cJ (fun _=>z) i (N-i)
theorem Cf (f:Nat→List At) (z:List At) (N:Nat):nH f z N 0=cJ (fun _=>z) 0 N:=by unfold nH; simp[cJ]
theorem Ce (f:Nat→List At) (z:List At) (N:Nat):nH f z N N=cJ f 0 N:=by unfold nH; simp[cJ]
theorem GJ {f:Nat→List At} {z:List At} {c N i o:Nat} (h:∀j,dN (f j)=c) (hz:dN z=c) (hi:i<N) (ho:o=i*c):put (nH f z N i) o (f i)=some (nH f z N (i+1)):=by
 unfold nH;rw[show N-i=(N-(i+1))+1 by omega];show put (cJ f 0 i++(z++cJ (fun _=>z) (i+1) (N-(i+1)))) o (f i)=_;rw[CN _ _ _ _ (by rw[iG h,ho]) (by rw[h,hz]),yI,Nat.zero_add,List.append_assoc]
theorem TQ {w:World} {b o:Nat} {f:Nat→List At} {c N i:Nat} (h:∀j,dN (f j)=c) (hi:i<N) (hr:w.rangeAt b o (aA (cJ f 0 N))):w.rangeAt b (o+i*c) (aA (f i)) :=
 eH hr (QI h hi rfl)
def yP (l:List Value) (v:Value):Prop:=l=List.replicate l.length v
theorem ZA {l m:List Value} {v:Value} (h:yP l v) (k:yP m v):yP (l++m) v:=by
 unfold yP at *;rw[h,k];simp[List.replicate_append_replicate]
theorem KA {z:List At} {v:Value} (h:yP (aA z) v):∀n s,yP (aA (cJ (fun _=>z) s n)) v
 | 0,s=>rfl
 | n+1,s=>by
  show yP (aA (z++cJ (fun _=>z) (s+1) n)) v;rw[aP];exact ZA h (KA h n (s+1))
theorem aJr {P:Program} {t e:TypeId} {i:TypeInfo} {zv:Value} {z:List At} {v:Value} {N:Nat} (ht:P.underlying t=some (.slice e)) (hi:P.info? e=some i) (hz:i.zero=some zv) (hs:i.size=dN z) (hv:zv.cells.toList=List.replicate i.size v) (hsame:yP (aA z) v) (h0:0<dN z)
  (hb:i.bytes*N≤281474976710656) (hN:N<4611686018427387904) :
  ∃e,∀w:World,(Instr.makeSlice t (iI N) (iI N)).run P w=.ok (.slice (some ⟨w.heap.size,0,none⟩) N N) (w.alloc (.cells (aA (cJ (fun _=>z) 0 N)).toArray e)):=by
 refine⟨e,fun w => ?_⟩;have hr:=Go.run_make (P:=P) w t e i zv ht hi hz .i64 .i64 (N:Int) (N:Int) (by omega) (Int.le_refl _) (by rw[←Int.natCast_mul]; omega) (by omega);refine Eq.trans hr ?_;have hsz:zv.cells.size=i.size:=by rw[←Array.length_toList,hv,List.length_replicate]
 have hc:madeCells zv.cells (N*i.size)=(aA (cJ (fun _=>z) 0 N)).toArray:=by
  have hl:=iG (f:=fun _=>z) (c:=dN z) (fun _=>rfl) N 0;have h2:=KA hsame N 0;rw[h2,aS,hl,←hs];unfold madeCells;apply Array.ext
  ·simp
  ·intro j h1 h3;simp only[Array.getElem_map,Array.getElem_range,List.getElem_toArray,List.getElem_replicate];have hj:j%zv.cells.size<zv.cells.size:=Nat.mod_lt _ (by rw[hsz,hs]; exact h0);have e1:zv.cells.toList[j%zv.cells.size]?=some v:=by
    rw[hv,List.getElem?_replicate,if_pos (by omega)]
   rw[Array.getElem?_toList]at e1;rw[getElem!_def,e1]
 simp only[Int.toNat_natCast,hc]
theorem RC {P:Program} {t e:TypeId} {z:List At} {v:Value} {N n by8:Nat} (ht:P.underlying t=some (.slice e)) (hi:(P.info? e).map (fun i=>(i.zero.map (fun z=>z.cells.toList),i.size,i.bytes))=some (some (List.replicate n v),n,by8)) (hs:dN z=n) (hsame:yP (aA z) v) (h0:0<n)
  (hb:by8*N≤281474976710656) (hN:N<4611686018427387904) :
  ∃e,∀w:World,(Instr.makeSlice t (iI N) (iI N)).run P w=.ok (.slice (some ⟨w.heap.size,0,none⟩) N N) (w.alloc (.cells (aA (cJ (fun _=>z) 0 N)).toArray e)):=by
 cases hq:P.info? e with
 | none=>rw[hq]at hi; cases hi
 | some it =>
  rw[hq]at hi;cases hz:it.zero with
  | none=>rw[Option.map_some,hz]at hi; cases hi
  | some zv =>
   rw[Option.map_some,hz]at hi;simp only[Option.map_some,Option.some.injEq,Prod.mk.injEq]at hi;obtain⟨h1,h2,h3⟩:=hi;exact aJr ht hq hz (by rw[h2,hs]) (by rw[h2,h1]) hsame (by rw[hs]; exact h0) (by rw[h3]; exact hb) hN
theorem bK {P:Program} {id:Nat} {ops:Array Oper} {l:List Nat} (hl:List.range ops.size=l) {Q:Exit→Act→World→Prop} {a:Act} {w:World} (h:wpOps P ops Q l a w):(Code.region id ops false).wp P Q a w:=wp_region (by rw[hl]; exact h)
theorem cN {P:Program} {fn:Func} {A:List Fact} {l:List TV} {r:RV} {nt base:Nat} {w0:World} (h1:rZ P A fn.results.toList=some l) (h2:rv l=some r) {a:Act} {w':World} (hA:Holds nt base w0 A a w') {R:Ending→World→Prop} (hR:R (.returned r.den) w'):bodyPost P fn R .ret a w':=by
 obtain⟨β',hok,_⟩:=hA.facts;have hres:(results fn a.tmps).run P w'=.ok r.den w':=by
  have:=kF hok h1;show ((fn.results.mapM (vC a.tmps)) >>= fun vs=>pure (if h:vs.size=1 then vs[0]else .tuple vs):Sem Value).run P w'=_;have hm:(List.toArray <$> fn.results.toList.mapM (vC a.tmps)).run P w'=.ok (l.map TV.den).toArray w':=by simp[this]
  rw[Array.mapM_eq_mapM_toList,Sem.run_bind,hm,Result.andThen_ok,Sem.run_pure];exact congrArg (fun x=>Result.ok x w') (CE h2)
 exact⟨hA.defers,_,hres,hR⟩
theorem cQ {P:Program} {o:Oper} {a:Act} {w:World} {K:Act→World→Prop} {Q:Exit→Act→World→Prop} {id:Nat} {xs:Array Operand} {ts:Array TypeId} {vs:List Value} {R:Ending→World→Prop} (ho:o.op=.call ⟨.value (.func id),xs,ts⟩) (hv:xs.toList.map a.eval=vs)
  (he:∀xs,(callFunc id xs).run P w=.ok (.enter id xs) w) (hc:Calls P id vs.toArray w R) (hK:∀e w',R e w'→∃v,e=.returned v∧K (a.put o.dst v) w'):o.wp P a w K Q:=by
 have ea:xs.map a.eval=vs.toArray:=by rw[←Array.toArray_toList (xs:=xs.map a.eval),Array.toList_map,hv]
 have hrun:(execOp a.eval o).run P w=.ok (.enter id vs.toArray) w:=by
  have hf:a.eval (.func id)=.func (.func id) #[] #[]:=rfl;simp[execOp,ho,resolve,Deferred.ofValue,hf,invoke,ea,he]
 unfold Oper.wp;rw[hrun];refine Calls.mono hc ?_;intro e w' hr;obtain⟨v,rfl,hk⟩:=hK e w' hr;exact hk
end Go.Proofs.YtpjlhhpjpnacmaaGreatDoor.Ex
namespace Go.Proofs.YtpjlhhpjpnacmaaGreatDoor
open Go.Proofs.Tryz
open Go.RowKit
theorem tH (x y c:Nat) (hc:c≤1) (w:World) :
  (callFunc 94 #[.int .u64 (x:Int),.int .u64 (y:Int),.int .u64 (c:Int)]).run prog w =
   .ok (.value (.tuple #[.int .u64 (PN x y c:Nat),.int .u64 (PP x y c:Nat)])) w:=by
 rw[run_callFunc_extern func94 (by kernel_rfl) (by kernel_rfl) (by kernel_rfl) (e:=add64Entry) (by kernel_rfl),run_add64 x y c (by omega) (by omega) (by omega) (by omega)];simp only[Result.andThen];unfold PN PP;congr 5<;>omega
theorem LY (x y:Nat) (w:World) :
  (callFunc 94 #[.int .u64 (x:Int),.int .u64 (y:Int),.int .u64 0]).run prog w =
   .ok (.value (.tuple #[.int .u64 (PN x y 0:Nat),.int .u64 (PP x y 0:Nat)])) w:=tH x y 0 (by omega) w
def YK:Array Value→Sem Value:=fun args=>do
 let (x,y,b) ←Extern.MathBitsCarry.three "Sub64" args
 pure (Extern.MathBitsCarry.pair ((x+Extern.MathBitsCarry.m64-y-b)%Extern.MathBitsCarry.m64) (if x<y+b then 1 else 0))
theorem LR {P:Program} (x y b:Nat) (hb:b≤1) (w:World) :
  (YK #[.int .u64 x,.int .u64 y,.int .u64 b]).run P w=.ok (.tuple #[.int .u64 (LJ x y b:Nat),.int .u64 (LK x y b:Nat)]) w:=by
 have:b=0∨b=1:=by omega
 rcases this with rfl|rfl<;>rfl
theorem zR (x y c:Nat) (hc:c≤1) (w:World) :
  (callFunc 150 #[.int .u64 (x:Int),.int .u64 (y:Int),.int .u64 (c:Int)]).run prog w =
   .ok (.value (.tuple #[.int .u64 (LJ x y c:Nat),.int .u64 (LK x y c:Nat)])) w:=by
 rw[run_callFunc_extern func150 (by kernel_rfl) (by kernel_rfl) (by kernel_rfl) (e:=YK) (by kernel_rfl),LR x y c hc];rfl
theorem LX (x y:Nat) (w:World) :
  (callFunc 150 #[.int .u64 (x:Int),.int .u64 (y:Int),.int .u64 0]).run prog w =
   .ok (.value (.tuple #[.int .u64 (LJ x y 0:Nat),.int .u64 (LK x y 0:Nat)])) w:=zR x y 0 (by omega) w
theorem mB {x y c:Nat} (hx:x<18446744073709551616) (hy:y<18446744073709551616) (hc:c≤1):∃d b:Nat,(∀w,(callFunc 94 #[.int .u64 (x:Int),.int .u64 (y:Int),.int .u64 (c:Int)]).run prog w =
   .ok (.value (.tuple #[.int .u64 (d:Int),.int .u64 (b:Int)])) w)∧d<18446744073709551616∧b≤1∧Hid (d+18446744073709551616*b=x+y+c) :=
 ⟨_,_,tH x y c hc,EF _ _ _,EI hx hy hc,Gm x y c⟩
theorem iS {x y:Nat} (hx:x<18446744073709551616) (hy:y<18446744073709551616):∃d b:Nat,(∀w,(callFunc 94 #[.int .u64 (x:Int),.int .u64 (y:Int),.int .u64 0]).run prog w =
   .ok (.value (.tuple #[.int .u64 (d:Int),.int .u64 (b:Int)])) w)∧d<18446744073709551616∧b≤1∧Hid (d+18446744073709551616*b=x+y) :=
 ⟨_,_,LY x y,EF _ _ _,EI hx hy (Nat.zero_le _),Gm x y 0⟩
theorem mA {x y c:Nat} (hx:x<18446744073709551616) (hy:y<18446744073709551616) (hc:c≤1):∃d b:Nat,(∀w,(callFunc 150 #[.int .u64 (x:Int),.int .u64 (y:Int),.int .u64 (c:Int)]).run prog w =
   .ok (.value (.tuple #[.int .u64 (d:Int),.int .u64 (b:Int)])) w)∧d<18446744073709551616∧b≤1∧Hid (d+y+c=x+18446744073709551616*b) :=
 ⟨_,_,zR x y c hc,QF _ _ _,QG _ _ _,Sa hx hy hc⟩
theorem AP {x y:Nat} (hx:x<18446744073709551616) (hy:y<18446744073709551616):∃d b:Nat,(∀w,(callFunc 150 #[.int .u64 (x:Int),.int .u64 (y:Int),.int .u64 0]).run prog w =
   .ok (.value (.tuple #[.int .u64 (d:Int),.int .u64 (b:Int)])) w)∧d<18446744073709551616∧b≤1∧Hid (d+y=x+18446744073709551616*b) :=
 ⟨_,_,LX x y,QF _ _ _,QG _ _ _,Sa hx hy (Nat.zero_le _)⟩
def SU (A B:Nat) (w:World) (e:Ending) (w':World):Prop :=
 ∃s0 s1 s2 s3 c:Nat,e=.returned (.tuple #[.agg #[.int .u64 s0,.int .u64 s1,.int .u64 s2,.int .u64 s3],.int .u64 c])∧cF s0 s1 s2 s3∧c≤1∧aC s0 s1 s2 s3+115792089237316195423570985008687907853269984665640564039457584007913129639936*c=A+B∧Below w.heap.size w w'
def Rj (A B:Nat) (w:World) (e:Ending) (w':World):Prop :=
 ∃s0 s1 s2 s3 c:Nat,e=.returned (.tuple #[.agg #[.int .u64 s0,.int .u64 s1,.int .u64 s2,.int .u64 s3],.int .u64 c])∧cF s0 s1 s2 s3∧c≤1∧aC s0 s1 s2 s3+B=A+115792089237316195423570985008687907853269984665640564039457584007913129639936*c∧Below w.heap.size w w'
theorem BE (a0 a1 a2 a3 b0 b1 b2 b3:Nat) (ha:cF a0 a1 a2 a3) (hb:cF b0 b1 b2 b3) (w:World) :
  Calls prog 207 #[.agg #[.int .u64 a0,.int .u64 a1,.int .u64 a2,.int .u64 a3],.agg #[.int .u64 b0,.int .u64 b1,.int .u64 b2,.int .u64 b3]] w (SU (aC a0 a1 a2 a3) (aC b0 b1 b2 b3) w):=by
 obtain⟨s0,c0,r0,bs0,bc0,e0⟩:=iS ha.1 hb.1;obtain⟨s1,c1,r1,bs1,bc1,e1⟩:=mB ha.2.1 hb.2.1 bc0;obtain⟨s2,c2,r2,bs2,bc2,e2⟩:=mB ha.2.2.1 hb.2.2.1 bc1;obtain⟨s3,c3,r3,bs3,bc3,e3⟩:=mB ha.2.2.2 hb.2.2.2 bc2
 go_enter func207,ntmps207
 go_wp2
 refine wp_loop_rounds 5 ?_;rw[rounds_succ]
 go_wp2
 go_region
 go_wp2
 rw[rounds_succ]
 go_wp2
 go_region
 go_wp2
 rw[rounds_succ]
 go_wp2
 go_region
 go_wp2
 rw[rounds_succ]
 go_wp2
 go_region
 go_wp2
 rw[rounds_succ]
 go_wp2
 refine bodyPost_ret (v:=.tuple #[.agg #[.int .u64 s0,.int .u64 s1,.int .u64 s2,.int .u64 s3],.int .u64 c3]) (by simp[results,results207,go_sem]) rfl ?_;refine⟨_,_,_,_,_,rfl,⟨bs0,bs1,bs2,bs3⟩,bc3,by have:=e0.out; have:=e1.out; have:=e2.out; have:=e3.out; unfold aC; omega,?_⟩
 repeat (first|exact Below.refl _ _|refine Below.drew ?_|refine Below.alloc ?_ (by first|(simp; done)|(simp; omega)) _)
theorem oR (a0 a1 a2 a3 b0 b1 b2 b3:Nat) (ha:cF a0 a1 a2 a3) (hb:cF b0 b1 b2 b3) (w:World) :
  Calls prog 109 #[.agg #[.int .u64 a0,.int .u64 a1,.int .u64 a2,.int .u64 a3],.agg #[.int .u64 b0,.int .u64 b1,.int .u64 b2,.int .u64 b3]] w (Rj (aC a0 a1 a2 a3) (aC b0 b1 b2 b3) w):=by
 obtain⟨s0,c0,r0,bs0,bc0,e0⟩:=AP ha.1 hb.1;obtain⟨s1,c1,r1,bs1,bc1,e1⟩:=mA ha.2.1 hb.2.1 bc0;obtain⟨s2,c2,r2,bs2,bc2,e2⟩:=mA ha.2.2.1 hb.2.2.1 bc1;obtain⟨s3,c3,r3,bs3,bc3,e3⟩:=mA ha.2.2.2 hb.2.2.2 bc2
 go_enter func109,ntmps109
 go_wp2
 refine wp_loop_rounds 5 ?_;rw[rounds_succ]
 go_wp2
 go_region
 go_wp2
 rw[rounds_succ]
 go_wp2
 go_region
 go_wp2
 rw[rounds_succ]
 go_wp2
 go_region
 go_wp2
 rw[rounds_succ]
 go_wp2
 go_region
 go_wp2
 rw[rounds_succ]
 go_wp2
 refine bodyPost_ret (v:=.tuple #[.agg #[.int .u64 s0,.int .u64 s1,.int .u64 s2,.int .u64 s3],.int .u64 c3]) (by simp[results,results109,go_sem]) rfl ?_;refine⟨_,_,_,_,_,rfl,⟨bs0,bs1,bs2,bs3⟩,bc3,by have:=e0.out; have:=e1.out; have:=e2.out; have:=e3.out; unfold aC; omega,?_⟩
 repeat (first|exact Below.refl _ _|refine Below.drew ?_|refine Below.alloc ?_ (by first|(simp; done)|(simp; omega)) _)
theorem uZ {W w1:World} (hb:Below W.heap.size W w1):(∀b o,b<W.heap.size→w1.cell? ⟨b,o,none⟩=W.cell? ⟨b,o,none⟩)∧(∀b o,b<W.heap.size→w1.frozen? ⟨b,o,none⟩=W.frozen? ⟨b,o,none⟩) :=
 ⟨fun b o h=>hb.cell (p:=⟨b,o,none⟩) h,fun b o h=>hb.frozen (p:=⟨b,o,none⟩) h⟩
def yU (a0 a1 a2 a3 b0 b1 b2 b3:Nat):Bool:=decide (a0=b0∧a1=b1∧a2=b2∧a3=b3)
theorem xW (d:Nat) (a0 a1 a2 a3 b0 b1 b2 b3:Nat) (w:World):(Op.equalIn (d+1+1) 24 (.agg #[.int .u64 a0,.int .u64 a1,.int .u64 a2,.int .u64 a3]) (.agg #[.int .u64 b0,.int .u64 b1,.int .u64 b2,.int .u64 b3])).run prog w=.ok (yU a0 a1 a2 a3 b0 b1 b2 b3) w:=by
 have h0:∀(x y:Int) (w:World),(Op.equalIn (d+1) 22 (.int .u64 x) (.int .u64 y)).run prog w=.ok (x==y) w:=fun x y w=>run_equalIn_int w d 22 .u64 .u64 x y underlying22
 rw[Op.equalIn];simp only[Sem.run_bind,run_underlying underlying24,Result.andThen_ok,Tryz.sizeOf22];simp[Std.Legacy.Range.forIn_eq_forIn_range',Std.Legacy.Range.size,List.range',part,h0,Sem.run_bind,Result.andThen_ok];unfold yU
 by_cases q0:a0=b0<;>by_cases q1:a1=b1<;>by_cases q2:a2=b2<;>by_cases q3:a3=b3<;>simp[q0,q1,q2,q3]<;>omega
theorem xX:prog.eqGuardType prog.depth 24=false:=by kernel_rfl
theorem jU {a0 a1 a2 a3 b0 b1 b2 b3:Nat} (ha:cF a0 a1 a2 a3) (hb:cF b0 b1 b2 b3):yU a0 a1 a2 a3 b0 b1 b2 b3=true↔aC a0 a1 a2 a3=aC b0 b1 b2 b3:=by
 unfold yU; rw[decide_eq_true_iff];exact⟨fun⟨h0,h1,h2,h3⟩=>by rw[h0,h1,h2,h3],vY ha hb⟩
def iL (A B:Nat):Int:=if A=B then 0 else if A<B then -1 else 1
theorem AX (a0 a1 a2 a3 b0 b1 b2 b3:Nat) (ha:cF a0 a1 a2 a3) (hb:cF b0 b1 b2 b3) (w:World) :
  Calls prog 71 #[.agg #[.int .u64 a0,.int .u64 a1,.int .u64 a2,.int .u64 a3],.agg #[.int .u64 b0,.int .u64 b1,.int .u64 b2,.int .u64 b3]] w fun e w'=>e=.returned (.int .i64 (iL (aC a0 a1 a2 a3) (aC b0 b1 b2 b3)))∧Below w.heap.size w w':=by
 have hE:=fun w=>xW 9998 a0 a1 a2 a3 b0 b1 b2 b3 w
 have hG:=xX;have hi:=jU ha hb;cases q:yU a0 a1 a2 a3 b0 b1 b2 b3
 ·rw[q]at hE hi;have hn:¬aC a0 a1 a2 a3=aC b0 b1 b2 b3:=fun h=>by simpa using hi.2 h
  have hfin1:aC a0 a1 a2 a3<aC b0 b1 b2 b3→iL (aC a0 a1 a2 a3) (aC b0 b1 b2 b3) = -1:=fun h=>by unfold iL; rw[if_neg hn,if_pos h]
  have hfin2:¬aC a0 a1 a2 a3<aC b0 b1 b2 b3→iL (aC a0 a1 a2 a3) (aC b0 b1 b2 b3)=1:=fun h=>by unfold iL; rw[if_neg hn,if_neg h]
  have HF1:=Lib.hid hfin1; have HF2:=Lib.hid hfin2;have vb:=bT hb;have va:=bT ha;clear q hi hn hfin1 hfin2
  go_enter func71,ntmps71
  go_wp2_with fail;refine (oR a0 a1 a2 a3 b0 b1 b2 b3 ha hb _).mono ?_
  rintro e w1 ⟨s0,s1,s2,s3,c,rfl,hs,hc,hv,hbl⟩
  have HV:=Lib.hid hv; clear hv;have vs:=bT hs;have hc':c=0∨c=1:=by omega
  rcases hc' with rfl|rfl
  ·go_wp2
   go_ret;exact⟨by rw[HF2.out (by have:=HV.out; omega)]; rfl,((((Below.refl _ _).alloc (Nat.le_refl _) _).alloc (by simp) _).trans (hbl.mono (by simp; omega))).alloc (by have:=hbl.size; simp at this; omega) _⟩
  ·go_wp2
   go_ret;exact⟨by rw[HF1.out (by have:=HV.out; omega)]; rfl,((((Below.refl _ _).alloc (Nat.le_refl _) _).alloc (by simp) _).trans (hbl.mono (by simp; omega))).alloc (by have:=hbl.size; simp at this; omega) _⟩
 ·rw[q]at hE hi;have hn:aC a0 a1 a2 a3=aC b0 b1 b2 b3:=hi.1 rfl;have HF:=Lib.hid (show iL (aC a0 a1 a2 a3) (aC b0 b1 b2 b3)=0 by unfold iL; rw[if_pos hn]);clear q hi hn
  go_enter func71,ntmps71
  go_wp2_with fail;go_ret;exact⟨by rw[HF.out]; rfl,(((Below.refl _ _).alloc (Nat.le_refl _) _).alloc (by simp) _)⟩
end Go.Proofs.YtpjlhhpjpnacmaaGreatDoor
namespace Go.Proofs
open Go.Shelf
def Tryz.lays134_ren:Go.Shelf.Ren:=⟨fun|134=>218|129=>131|n=>n,fun|53=>22|3=>3|4=>4|46=>140|5=>5|9=>9|n=>n,fun|n=>n⟩
theorem Tryz.lays134:Go.Proofs.Lays.n134 prog Tryz.lays134_ren:={
 mixed:=by kernel_rfl
 f129:=func131.trans (congrArg some (by kernel_rfl))
 f134:=func218.trans (congrArg some (by kernel_rfl))
 t3:=underlying3
 a3:=Tryz.isAgg3
 z3:=Tryz.sizeOf3
 v3:=Tryz.zeroValue3
 t4:=underlying4
 a4:=Tryz.isAgg4
 z4:=Tryz.sizeOf4
 v4:=Tryz.zeroValue4
 t5:=underlying5
 a5:=Tryz.isAgg5
 z5:=Tryz.sizeOf5
 v5:=Tryz.zeroValue5
 t9:=underlying9
 a9:=Tryz.isAgg9
 z9:=Tryz.sizeOf9
 v9:=Tryz.zeroValue9
 t46:=underlying140
 a46:=Tryz.isAgg140
 z46:=Tryz.sizeOf140
 v46:=Tryz.zeroValue140
 t53:=underlying22
 a53:=Tryz.isAgg22
 z53:=Tryz.sizeOf22
 v53:=Tryz.zeroValue22 }
theorem Tryz.bits_LeadingZeros64 (x:Int) (w:World) (h0:0≤x) (h1:x≤18446744073709551615) :
  Calls prog 218 #[.int .u64 x] w fun e w'=>e=.returned (.int .i64 (64-(Lib.bitLen x.toNat:Int)))∧w'=w:=Any.bits_LeadingZeros64 Tryz.lays134 x w h0 h1
def Tryz.lays129_ren:Go.Shelf.Ren:=⟨fun|129=>131|n=>n,fun|53=>22|3=>3|4=>4|46=>140|5=>5|9=>9|n=>n,fun|n=>n⟩
theorem Tryz.lays129:Go.Proofs.Lays.n129 prog Tryz.lays129_ren:={
 mixed:=by kernel_rfl
 f129:=func131.trans (congrArg some (by kernel_rfl))
 t3:=underlying3
 a3:=Tryz.isAgg3
 z3:=Tryz.sizeOf3
 v3:=Tryz.zeroValue3
 t4:=underlying4
 a4:=Tryz.isAgg4
 z4:=Tryz.sizeOf4
 v4:=Tryz.zeroValue4
 t5:=underlying5
 a5:=Tryz.isAgg5
 z5:=Tryz.sizeOf5
 v5:=Tryz.zeroValue5
 t9:=underlying9
 a9:=Tryz.isAgg9
 z9:=Tryz.sizeOf9
 v9:=Tryz.zeroValue9
 t46:=underlying140
 a46:=Tryz.isAgg140
 z46:=Tryz.sizeOf140
 v46:=Tryz.zeroValue140
 t53:=underlying22
 a53:=Tryz.isAgg22
 z53:=Tryz.sizeOf22
 v53:=Tryz.zeroValue22 }
theorem Tryz.bits_Len64 (x:Int) (w:World) (h0:0≤x) (h1:x≤18446744073709551615) :
  Calls prog 131 #[.int .u64 x] w fun e w'=>e=.returned (.int .i64 (Lib.bitLen x.toNat))∧w'=w:=Any.bits_Len64 Tryz.lays129 x w h0 h1
def Tryz.lays264_ren:Go.Shelf.Ren:=⟨fun|264=>93|n=>n,fun|53=>22|46=>140|n=>n,fun|n=>n⟩
theorem Tryz.lays264:Go.Proofs.Lays.n264 prog Tryz.lays264_ren:={
 mixed:=by kernel_rfl
 f264:=func93.trans (congrArg some (by kernel_rfl))
 t46:=underlying140
 a46:=Tryz.isAgg140
 z46:=Tryz.sizeOf140
 v46:=Tryz.zeroValue140
 t53:=underlying22
 a53:=Tryz.isAgg22
 z53:=Tryz.sizeOf22
 v53:=Tryz.zeroValue22 }
open Go.RowKit Go.Lib in
theorem Tryz.bits_Mul64 (x y:Nat) (hx:x<18446744073709551616) (hy:y<18446744073709551616) (w:World) :
  Calls prog 93 #[.int .u64 x,.int .u64 y] w fun e w'=>e=.returned (.tuple #[.int .u64 ((x*y/18446744073709551616:Nat):Int),.int .u64 ((x*y%18446744073709551616:Nat):Int)])∧w'=w:=Any.bits_Mul64 Tryz.lays264 x y hx hy w
end Go.Proofs
namespace Go.Proofs.YtpjlhhpjpnacmaaGreatDoor
open Go.Proofs.Tryz
open Go.RowKit
theorem IP (x y:Nat) (hx:x<18446744073709551616) (hy:y<18446744073709551616) (w:World) :
  Calls prog 93 #[.int .u64 x,.int .u64 y] w fun e w'=>e=.returned (.tuple #[.int .u64 (Bj x y:Nat),.int .u64 (Bi x y:Nat)])∧w'=w :=
 Tryz.bits_Mul64 x y hx hy w
theorem xV {x y:Nat} (hx:x<18446744073709551616) (hy:y<18446744073709551616):∃h l:Nat,(∀w,Calls prog 93 #[.int .u64 x,.int .u64 y] w fun e w'=>e=.returned (.tuple #[.int .u64 (h:Nat),.int .u64 (l:Nat)])∧w'=w)∧h≤18446744073709551614∧l<18446744073709551616∧Hid (l+18446744073709551616*h=x*y) :=
 ⟨_,_,IP x y hx hy,Ly hx hy,Lx _ _,aDM x y⟩
def aBl (A y:Nat) (w:World) (e:Ending) (w':World):Prop :=
 ∃s0 s1 s2 s3 o:Nat,e=.returned (.tuple #[.int .u64 o,.agg #[.int .u64 s0,.int .u64 s1,.int .u64 s2,.int .u64 s3]])∧cF s0 s1 s2 s3∧o<18446744073709551616∧aC s0 s1 s2 s3+115792089237316195423570985008687907853269984665640564039457584007913129639936*o=A*y∧Below w.heap.size w w'
theorem RT {x y o:Nat} (hx:x<18446744073709551616) (hy:y<18446744073709551616) (ho:o<18446744073709551616):∃h l d b p:Nat,(∀w,Calls prog 93 #[.int .u64 x,.int .u64 y] w fun e w'=>e=.returned (.tuple #[.int .u64 (h:Nat),.int .u64 (l:Nat)])∧w'=w) ∧
  (∀w,(callFunc 94 #[.int .u64 (l:Int),.int .u64 (o:Int),.int .u64 0]).run prog w=.ok (.value (.tuple #[.int .u64 (d:Int),.int .u64 (b:Int)])) w)∧h≤18446744073709551614∧b≤1∧d<18446744073709551616∧p<18446744073709551616∧((h:Int)+(b:Int)=(p:Int))∧Hid (d+18446744073709551616*p=x*y+o):=by
 obtain⟨h,l,r,hh,hl,e⟩:=xV hx hy;obtain⟨d,b,r',hd,hb,e'⟩:=iS hl ho;exact⟨h,l,d,b,h+b,r,r',hh,hb,hd,by omega,by omega,Lib.hid (by have:=e.out; have:=e'.out; omega)⟩
theorem Zy {x y:Nat} (hx:x<18446744073709551616) (hy:y<18446744073709551616):∃h l d b p:Nat,(∀w,Calls prog 93 #[.int .u64 x,.int .u64 y] w fun e w'=>e=.returned (.tuple #[.int .u64 (h:Nat),.int .u64 (l:Nat)])∧w'=w) ∧
  (∀w,(callFunc 94 #[.int .u64 (l:Int),.int .u64 0,.int .u64 0]).run prog w=.ok (.value (.tuple #[.int .u64 (d:Int),.int .u64 (b:Int)])) w)∧h≤18446744073709551614∧b≤1∧d<18446744073709551616∧p<18446744073709551616∧((h:Int)+(b:Int)=(p:Int))∧Hid (d+18446744073709551616*p=x*y):=by
 obtain⟨h,l,d,b,p,r,r',hh,hb,hd,hp,q,e⟩:=RT hx hy (by omega:0<18446744073709551616);exact⟨h,l,d,b,p,r,r',hh,hb,hd,hp,q,e⟩
theorem EX (a0 a1 a2 a3 y:Nat) (ha:cF a0 a1 a2 a3) (hy:y<18446744073709551616) (w:World) :
  Calls prog 206 #[.agg #[.int .u64 a0,.int .u64 a1,.int .u64 a2,.int .u64 a3],.int .u64 y] w (aBl (aC a0 a1 a2 a3) y w):=by
 obtain⟨h0,l0,d0,b0,o0,m0,r0,bh0,bb0,bd0,bo0,q0,e0⟩:=Zy ha.1 hy;obtain⟨h1,l1,d1,b1,o1,m1,r1,bh1,bb1,bd1,bo1,q1,e1⟩:=RT ha.2.1 hy bo0;obtain⟨h2,l2,d2,b2,o2,m2,r2,bh2,bb2,bd2,bo2,q2,e2⟩:=RT ha.2.2.1 hy bo1;obtain⟨h3,l3,d3,b3,o3,m3,r3,bh3,bb3,bd3,bo3,q3,e3⟩:=RT ha.2.2.2 hy bo2;have HF:Hid (aC d0 d1 d2 d3+115792089237316195423570985008687907853269984665640564039457584007913129639936*o3=aC a0 a1 a2 a3*y):=Lib.hid (by
  have:=e0.out; have:=e1.out; have:=e2.out; have:=e3.out;unfold aC; simp only[Nat.add_mul,Nat.mul_assoc]; omega)
 clear e0 e1 e2 e3
 go_enter func206,ntmps206
 go_wp2_with fail;refine wp_loop_rounds 5 ?_;rw[rounds_succ];go_wp2_with fail;refine (m0 _).mono ?_
 rintro e w' ⟨rfl,rfl⟩
 go_wp2_with fail;rw[rounds_succ];go_wp2_with fail;refine (m1 _).mono ?_
 rintro e w' ⟨rfl,rfl⟩
 go_wp2_with fail;rw[rounds_succ];go_wp2_with fail;refine (m2 _).mono ?_
 rintro e w' ⟨rfl,rfl⟩
 go_wp2_with fail;rw[rounds_succ];go_wp2_with fail;refine (m3 _).mono ?_
 rintro e w' ⟨rfl,rfl⟩
 go_wp2_with fail;rw[rounds_succ];go_wp2_with fail
 go_region
 all_goals (
  go_wp2
  refine bodyPost_ret (v:=.tuple #[.int .u64 o3,.agg #[.int .u64 d0,.int .u64 d1,.int .u64 d2,.int .u64 d3]]) (by simp[results,results206,go_sem]) rfl ?_;refine⟨_,_,_,_,_,rfl,⟨bd0,bd1,bd2,bd3⟩,bo3,HF.out,?_⟩
  repeat (first|exact Below.refl _ _|refine Below.drew ?_|refine Below.alloc ?_ (by first|(simp; done)|(simp; omega)) _))
theorem lG (x:Nat) (h:x<18446744073709551616):IntKind.u64.wrap (x:Int)=(x:Int):=by rw[IntKind.wrap_u64]; omega
theorem mF (x:Nat):IntKind.u64.wrap (x:Int)=((x%18446744073709551616:Nat):Int):=by rw[IntKind.wrap_u64]; omega
theorem gD (x S:Nat):(x:Int)*2^S=((x*2^S:Nat):Int):=by rw[Int.natCast_mul,Int.natCast_pow]; rfl
theorem tQ (S:Nat) (h:S≤63):2^(64-S)*2^S=18446744073709551616:=by
 rw[←Nat.pow_add,show 64-S+S=64 by omega]
theorem Ek {hi lo y S:Nat} (h2:hi<y) (hl:lo<18446744073709551616) (hS:S≤63) (hY:y*2^S<18446744073709551616) :
  ∃u L:Nat,bits .or .u64 (IntKind.u64.wrap ((hi:Int)*2^S)) ((lo:Int)/2^(64-S))=(u:Int)∧IntKind.u64.wrap ((lo:Int)*2^S)=(L:Int)∧u<y*2^S∧L<18446744073709551616∧u*18446744073709551616+L=(hi*18446744073709551616+lo)*2^S:=by
 have hp:0<2^S:=Nat.two_pow_pos S;have hps:=tQ S hS;have hb:lo/2^(64-S)<2^S:=by
  rw[Nat.div_lt_iff_lt_mul (Nat.two_pow_pos _),Nat.mul_comm,hps]; exact hl
 have hhi:hi*2^S+2^S≤y*2^S:=by
  have:=Nat.mul_le_mul_right (2^S) (show hi+1≤y by omega);rw[Nat.add_mul]at this; omega
 have hd:lo*2^S/18446744073709551616=lo/2^(64-S):=by
  rw[←hps]; exact Nat.mul_div_mul_right _ _ hp
 refine⟨hi*2^S+lo/2^(64-S),lo*2^S%18446744073709551616,?_,?_,?_,by omega,?_⟩
 ·rw[gD,lG _ (by omega),show ((lo:Int)/2^(64-S))=((lo/2^(64-S):Nat):Int) by rw[Int.natCast_ediv,Int.natCast_pow]; rfl,
   bits_or_u64_nat _ _ (by omega) (by omega),Nat.mul_comm hi,Nat.two_pow_add_eq_or_of_lt hb]
 ·rw[gD,mF]
 ·omega
 ·rw[Nat.add_mul,←hd];have e:(hi*18446744073709551616+lo)*2^S=hi*2^S*18446744073709551616+lo*2^S:=by
   rw[Nat.add_mul,Nat.mul_right_comm]
  rw[e]; omega
theorem DS {Y:Nat} (h:Y<18446744073709551616):∃a b:Nat,(Y:Int)/4294967296=(a:Int)∧bits .and .u64 (Y:Int) 4294967295=(b:Int)∧a<4294967296∧b<4294967296∧Y=a*4294967296+b:=by
 refine⟨Y/4294967296,Y%4294967296,by omega,?_,by omega,by omega,by omega⟩;have h':=bits_and_u64_nat Y 4294967295 h (by omega);rw[show Y &&& 4294967295=Y%4294967296 from Nat.and_two_pow_sub_one_eq_mod Y 32]at h';exact h'
theorem aKp (u y1:Nat) (h:0<y1):∃q r:Nat,(u:Int)/(y1:Int)=(q:Int)∧(u:Int)-(q:Int)*(y1:Int)=(r:Int)∧q*y1+r=u∧r<y1:=by
 have e:=Nat.div_add_mod u y1;rw[Nat.mul_comm]at e;refine⟨u/y1,u%y1,(Int.natCast_ediv u y1).symm,?_,e,Nat.mod_lt _ h⟩;rw[←Int.natCast_mul]; omega
def KI (y1 y0 u u1 q r:Nat):Prop:=q*y1+r=u∧(u*4294967296+u1)/(y1*4294967296+y0)≤q∧q≤4294967297∧r<4294967296
structure KS (y1 y0 u u1:Nat):Prop where
 a1:y1<4294967296
 a2:2147483648≤y1
 a3:y0<4294967296
 a4:u<y1*4294967296+y0
 a5:u1<4294967296
section
variable {y1 y0 u u1 q r:Nat}
theorem DD (q y1 y0:Nat):q*(y1*4294967296+y0)=q*y1*4294967296+q*y0:=by rw[Nat.mul_add,Nat.mul_assoc]
theorem Cj (s:KS y1 y0 u u1):0<y1*4294967296+y0:=by have:=s.a2; omega
theorem Ck (s:KS y1 y0 u u1) (e:q*y1+r=u) (h:r<y1):KI y1 y0 u u1 q r:=by
 obtain⟨b1,b2,b3,b4,b5⟩:=s;refine⟨e,?_,?_,by omega⟩
 ·rw[←Nat.lt_succ_iff,Nat.div_lt_iff_lt_mul (by omega),DD];have:(q+1)*y1=q*y1+y1:=by rw[Nat.add_mul,Nat.one_mul]
  rw[Nat.succ_eq_add_one,this]; omega
 ·rcases Nat.lt_or_ge q 4294967298 with h'|h'
  ·omega
  ·have:=Nat.mul_le_mul_right y1 h';omega
theorem aDY (s:KS y1 y0 u u1):(u*4294967296+u1)/(y1*4294967296+y0)<4294967296:=by
 obtain⟨b1,b2,b3,b4,b5⟩:=s;rw[Nat.div_lt_iff_lt_mul (by omega)]; omega
theorem Sv (s:KS y1 y0 u u1) (e:q*y1+r=u) (h:q*y0≤4294967296*r+u1):q≤(u*4294967296+u1)/(y1*4294967296+y0):=by
 rw[Nat.le_div_iff_mul_le (Cj s),DD]; omega
theorem Ye (s:KS y1 y0 u u1) (k:KI y1 y0 u u1 q r) (h:q*y0≤4294967296*r+u1):q=(u*4294967296+u1)/(y1*4294967296+y0) :=
 Nat.le_antisymm (Sv s k.1 h) k.2.1
theorem aDZ (s:KS y1 y0 u u1) (k:KI y1 y0 u u1 q r) (h:4294967296*r+u1<q*y0):(u*4294967296+u1)/(y1*4294967296+y0)+1≤q:=by
 rw[Nat.succ_le_iff,Nat.div_lt_iff_lt_mul (Cj s),DD]; have:=k.1; omega
theorem Yf (s:KS y1 y0 u u1) (h:4294967296≤q):(u*4294967296+u1)/(y1*4294967296+y0)+1≤q:=by have:=aDY s; omega
theorem RG (h:1≤q):(q-1)*y1+(r+y1)=q*y1+r:=by
 obtain⟨p,rfl⟩:∃p,q=p+1:=⟨q-1,by omega⟩
 rw[Nat.add_sub_cancel,Nat.add_mul,Nat.one_mul]; omega
theorem RH (k:KI y1 y0 u u1 q r) (h:(u*4294967296+u1)/(y1*4294967296+y0)+1≤q) (h':r+y1<4294967296):KI y1 y0 u u1 (q-1) (r+y1) :=
 ⟨by rw[RG (Nat.le_trans (Nat.le_add_left 1 _) h)]; exact k.1,Nat.le_sub_one_of_lt h,by have:=k.2.2.1; omega,h'⟩
theorem IS (s:KS y1 y0 u u1) (k:KI y1 y0 u u1 q r) (h:(u*4294967296+u1)/(y1*4294967296+y0)+1≤q) (h':4294967296≤r+y1):q-1=(u*4294967296+u1)/(y1*4294967296+y0):=by
 have e:=RG (y1:=y1) (r:=r) (Nat.le_trans (Nat.le_add_left 1 _) h);refine Nat.le_antisymm (Sv s (e.trans k.1) ?_) (Nat.le_sub_one_of_lt h);have:=nW (show q-1≤4294967296 by have:=k.2.2.1; omega) (show y0≤4294967295 by have:=s.a3; omega);omega
end
theorem Pg {Y u u1:Nat} (hY:Y<18446744073709551616) (hp:0<Y) :
  ∃m:Nat,IntKind.u64.wrap (IntKind.u64.wrap (IntKind.u64.wrap ((u:Int)*4294967296)+(u1:Int))-IntKind.u64.wrap (((u*4294967296+u1)/Y:Nat)*(Y:Int)))=(m:Int)∧m<Y∧(u*4294967296+u1)/Y*Y+m=u*4294967296+u1:=by
 have e:=Nat.div_add_mod (u*4294967296+u1) Y;have hm:=Nat.mod_lt (u*4294967296+u1) hp;rw[Nat.mul_comm]at e;refine⟨(u*4294967296+u1)%Y,?_,hm,e⟩;rw[←Int.natCast_mul];generalize (u*4294967296+u1)/Y*Y=P at *;generalize (u*4294967296+u1)%Y=m at *;simp only[IntKind.wrap_u64];omega
theorem Ph {U Y y S V Q1 Q0 u L m R u1 u0:Nat} (hy:Y=y*2^S) (hU:U=V*2^S) (e:u*18446744073709551616+L=U) (eL:L=u1*4294967296+u0)
  (e1:Q1*Y+m=u*4294967296+u1) (e0:Q0*Y+R=m*4294967296+u0) (hR:R<Y):Q1*4294967296+Q0=V/y∧R/2^S=V%y:=by
 have hp:0<2^S:=Nat.two_pow_pos S;have hYp:0<Y:=by omega
 have hYU:U=(Q1*4294967296+Q0)*Y+R:=by
  have:(Q1*4294967296+Q0)*Y=Q1*Y*4294967296+Q0*Y:=by rw[Nat.add_mul,Nat.mul_right_comm]
  rw[this]; omega
 have hq:U/Y=Q1*4294967296+Q0:=by
  rw[hYU,Nat.mul_comm,Nat.mul_add_div hYp,Nat.div_eq_of_lt hR,Nat.add_zero]
 have hr:U%Y=R:=by
  rw[hYU,Nat.mul_comm,Nat.mul_add_mod,Nat.mod_eq_of_lt hR]
 constructor
 ·rw[←hq,hU,hy,Nat.mul_div_mul_right _ _ hp]
 ·rw[←hr,hU,hy,Nat.mul_mod_mul_right,Nat.mul_div_cancel _ hp]
theorem Bz {y:Nat} (h0:1≤y) (hy:y<18446744073709551616):Lib.bitLen y=y.log2+1∧2^y.log2≤y∧y<2^(y.log2+1)∧y.log2≤63:=by
 have a:=Nat.log2_self_le (show y≠0 by omega);have b:y<2^(y.log2+1):=Nat.lt_log2_self;refine⟨?_,a,b,?_⟩
 ·rw[Lib.bitLen_shift y.log2 y a hy];have:y/2^y.log2=1:=by
   rw[Nat.pow_succ]at b;exact (Nat.div_eq_iff (Nat.two_pow_pos _)).2 ⟨by omega,by omega⟩
  rw[this]; rfl
 ·have:=(Nat.log2_lt (show y≠0 by omega)).2 (show y<2^64 from hy);omega
theorem aFa {y:Nat} (h0:1≤y) (hy:y<18446744073709551616):∃S:Nat,(∀w,Calls prog 218 #[.int .u64 y] w fun e w'=>e=.returned (.int .i64 S)∧w'=w)∧S≤63∧9223372036854775808≤y*2^S∧y*2^S<18446744073709551616:=by
 obtain⟨hl,ha,hb,hk⟩:=Bz h0 hy;refine⟨63-y.log2,fun w => ?_,by omega,?_,?_⟩
 ·have:=Tryz.bits_LeadingZeros64 (y:Int) w (by omega) (by omega);rw[Int.toNat_natCast,hl,show (64-((y.log2+1:Nat):Int))=((63-y.log2:Nat):Int) by omega]at this;exact this
 ·have:=Nat.mul_le_mul_right (2^(63-y.log2)) ha;rw[←Nat.pow_add,show y.log2+(63-y.log2)=63 by omega]at this;exact this
 ·have:=Nat.mul_lt_mul_of_pos_right hb (Nat.two_pow_pos (63-y.log2));rw[←Nat.pow_add,show y.log2+1+(63-y.log2)=64 by omega]at this;exact this
def ST (V y:Nat) (w:World) (e:Ending) (w':World):Prop :=
 ∃n:Nat,e=.returned (.tuple #[.int .u64 (V/y:Nat),.int .u64 (V%y:Nat)])∧w'=w.drewN n
theorem JK {y1 y0 u u1 Y:Nat} (ks:KS y1 y0 u u1) (hY:Y<18446744073709551616) (eY:Y=y1*4294967296+y0):∃q r p Q m:Nat,
  (u:Int)/(y1:Int)=(q:Int)∧(q:Int)*(y1:Int)=(p:Int)∧(u:Int)-(p:Int)=(r:Int)∧q≤4294967297∧r<4294967296∧p≤u∧Hid (KI y1 y0 u u1 q r) ∧
  IntKind.u64.wrap (IntKind.u64.wrap (IntKind.u64.wrap ((u:Int)*4294967296)+(u1:Int))-IntKind.u64.wrap ((Q:Int)*(Y:Int)))=(m:Int) ∧
  Q<4294967296∧m<Y∧Hid (Q=(u*4294967296+u1)/(y1*4294967296+y0))∧Hid (Q*Y+m=u*4294967296+u1):=by
 have b2:0<y1:=by have:=ks.a2; omega
 obtain⟨q,r,E8,E9,eq,hr⟩:=aKp u y1 b2;have ki:=Ck ks eq hr;obtain⟨m,Em,hm,em⟩:=Pg (u:=u) (u1:=u1) hY (by have:=ks.a2; omega);have hQ:=aDY ks;rw[←eY]at hQ;refine⟨q,r,q*y1,(u*4294967296+u1)/Y,m,E8,(Int.natCast_mul q y1).symm,by rw[Int.natCast_mul]; exact E9,ki.2.2.1,ki.2.2.2,by omega,Lib.hid ki,Em,hQ,hm,Lib.hid (by rw[←eY]),Lib.hid em⟩
def Ub (u1 q r t:Nat):Prop:=decide ((4294967296:Int)≤(q:Int))=true∨decide ((4294967296:Int)≤(q:Int))=false∧decide ((4294967296:Int)*(r:Int)+(u1:Int)<(t:Int))=true∧t<18446744073709551616
theorem Rz {y1 y0 u u1 q r:Nat} (s:KS y1 y0 u u1) (k:KI y1 y0 u u1 q r) {Q:Nat} (hQ:Q=(u*4294967296+u1)/(y1*4294967296+y0)) :
  ∃t v:Nat,(q:Int)*(y0:Int)=(t:Int)∧(r:Int)+(y1:Int)=(v:Int)∧v<18446744073709551616 ∧
  ((∃p:Nat,(q:Int)-1=(p:Int)∧p<q∧decide ((4294967296:Int)≤(v:Int))=false∧Ub u1 q r t∧Hid (KI y1 y0 u u1 p v)) ∨
  ((q:Int)-1=(Q:Int)∧1≤q∧decide ((4294967296:Int)≤(v:Int))=true∧Ub u1 q r t)∨(q=Q∧decide ((4294967296:Int)≤(q:Int))=false∧decide ((4294967296:Int)*(r:Int)+(u1:Int)<(t:Int))=false∧t<18446744073709551616)):=by
 have b1:=s.a1;have b3:=s.a3;have b5:=s.a5;have br:r<4294967296:=k.2.2.2;refine⟨q*y0,r+y1,(Int.natCast_mul q y0).symm,by omega,by omega,?_⟩
 rcases Nat.lt_or_ge q 4294967296 with h|h
 ·have hp:=nW (show q≤4294967295 by omega) (show y0≤4294967295 by omega)
  rcases Nat.lt_or_ge (4294967296*r+u1) (q*y0)with h'|h'
  ·have hn:=aDZ s k h';have h1:=Nat.le_trans (Nat.le_add_left 1 _) hn
   rcases Nat.lt_or_ge (r+y1) 4294967296 with g|g
   ·exact Or.inl ⟨q-1,by omega,by omega,decide_eq_false (by omega),Or.inr ⟨decide_eq_false (by omega),decide_eq_true (by omega),by omega⟩,Lib.hid (RH k hn g)⟩
   ·have:=(IS s k hn g).trans hQ.symm;exact Or.inr (Or.inl ⟨by omega,h1,decide_eq_true (by omega),Or.inr ⟨decide_eq_false (by omega),decide_eq_true (by omega),by omega⟩⟩)
  ·exact Or.inr (Or.inr ⟨(Ye s k h').trans hQ.symm,decide_eq_false (by omega),decide_eq_false (by omega),by omega⟩)
 ·have hn:=Yf s h
  rcases Nat.lt_or_ge (r+y1) 4294967296 with g|g
  ·exact Or.inl ⟨q-1,by omega,by omega,decide_eq_false (by omega),Or.inl (decide_eq_true (by omega)),Lib.hid (RH k hn g)⟩
  ·have:=(IS s k hn g).trans hQ.symm;exact Or.inr (Or.inl ⟨by omega,by omega,decide_eq_true (by omega),Or.inl (decide_eq_true (by omega))⟩)
set_option maxHeartbeats 4000000 in
theorem VK (hi lo y:Nat) (h1:1≤hi) (h2:hi<y) (hl:lo<18446744073709551616) (hy:y<18446744073709551616) (w:World) :
  Calls prog 205 #[.int .u64 hi,.int .u64 lo,.int .u64 y] w (ST (hi*18446744073709551616+lo) y w):=by
 obtain⟨S,m,hS,hY1,hY2⟩:=aFa (show 1≤y by omega) hy;obtain⟨u,L,E4,E5,hu,hL,eU⟩:=Ek h2 hl hS hY2;obtain⟨Y,eY⟩:∃Y,Y=y*2^S:=⟨_,rfl⟩
 rw[←eY]at hY1 hY2 hu;have E1:IntKind.u64.wrap ((y:Int)*2^S)=(Y:Int):=by rw[gD,←eY,lG _ hY2]
 obtain⟨y1,y0,E2,E3,b1,b0,eYh⟩:=DS hY2;obtain⟨u1,u0,E6,E7,c1,c0,eLh⟩:=DS hL;have ks:KS y1 y0 u u1:=⟨b1,by omega,b0,by omega,c1⟩;obtain⟨q,r,p,Q1,m1,F1,F2,F3,F4,F5,F6,K1,F7,F8,F9,F10,F11⟩:=JK ks hY2 eYh;have ks':KS y1 y0 m1 u0:=⟨b1,by omega,b0,by omega,c0⟩;obtain⟨q',r',p',Q0,R,G1,G2,G3,G4,G5,G6,K2,G7,G8,G9,G10,G11⟩:=JK ks' hY2 eYh;obtain⟨j1,j2⟩:=Ph eY rfl eU eLh F11.out G11.out G9;have b2:0<y1:=by have:=ks.a2; omega
 have b3:0<(y1:Int):=by omega
 have bu:u<18446744073709551616:=by omega
 have bm:m1<18446744073709551616:=by omega
 have J2:(R:Int)/2^S=(((hi*18446744073709551616+lo)%y:Nat):Int):=by rw[←j2,Int.natCast_ediv,Int.natCast_pow]; rfl
 have J1:(Q1:Int)*4294967296+(Q0:Int)=(((hi*18446744073709551616+lo)/y:Nat):Int):=by rw[←j1]; omega
 have HJ2:=Lib.hid J2; have HJ1:=Lib.hid J1;have Hks:=Lib.hid ks; have Hks':=Lib.hid ks';clear eU eYh eLh eY j1 j2 ks ks' J1 J2 hY1 F11 G11 hu;have t1:((y:Int)==0)=false:=by simp; omega
 have t2:((hi:Int)==0)=false:=by simp; omega
 go_enter func205,ntmps205
 go_wp2_with fail;refine (m _).mono ?_
 rintro e w' ⟨rfl,rfl⟩
 go_wp2_with fail;clear t1 t2 E1 E2 E3 E4 E5 E6 E7 F1 F2 F3 h1 h2 m
 go_loop [15,16] (fun a b=>∃q r:Nat,a=.int .u64 q∧b=.int .u64 r∧Hid (KI y1 y0 u u1 q r)) (fun a _=>(intOf a).toNat)
 case atStart=>exact⟨q,r,rfl,rfl,K1⟩
 case round =>
  obtain⟨q2,r2,rfl,rfl,k⟩:=hrel;have d1:q2≤4294967297:=k.out.2.2.1;have d2:r2<4294967296:=k.out.2.2.2;obtain⟨t,v,ht,hv,bv,hc⟩:=Rz Hks.out k.out F10.out
  rcases hc with⟨p2,hp,lp,lv,g2|⟨g2,g3,g5⟩,g4⟩|⟨hp,lp,lv,g2|⟨g2,g3,g5⟩⟩|⟨rfl,g1,g2,g5⟩
  ·go_wp2_with fail
   go_round
   case rel=>exact⟨p2,v,rfl,rfl,g4⟩
   case measure=>simp[intOf]; omega
  ·go_wp2_with fail
   go_round
   case rel=>exact⟨p2,v,rfl,rfl,g4⟩
   case measure=>simp[intOf]; omega
  all_goals (
   go_wp2_with fail;clear ht hv bv d1 d2 k F7 G1 G2 G3
   go_loop [18,16] (fun a b=>∃q r:Nat,a=.int .u64 q∧b=.int .u64 r∧Hid (KI y1 y0 m1 u0 q r)) (fun a _=>(intOf a).toNat)
   case atStart=>exact⟨q',r',rfl,rfl,K2⟩
   case round =>
    obtain⟨q3,r3,rfl,rfl,k⟩:=hrel;have d1:q3≤4294967297:=k.out.2.2.1;have d2:r3<4294967296:=k.out.2.2.2;obtain⟨t,v,ht,hv,bv,hc⟩:=Rz Hks'.out k.out G10.out
    rcases hc with⟨p2,hp,lp,lv,g2|⟨g2,g3,g5⟩,g4⟩|⟨hp,lp,lv,g2|⟨g2,g3,g5⟩⟩|⟨rfl,g1,g2,g5⟩
    ·go_wp2_with fail
     go_round
     case rel=>exact⟨p2,v,rfl,rfl,g4⟩
     case measure=>simp[intOf]; omega
    ·go_wp2_with fail
     go_round
     case rel=>exact⟨p2,v,rfl,rfl,g4⟩
     case measure=>simp[intOf]; omega
    all_goals (
     go_wp2_with fail
     go_ret2
     exact⟨0,by rw[HJ1.out,HJ2.out]; rfl,rfl⟩))
theorem OL (lo y:Nat) (h2:0<y) (hl:lo<18446744073709551616) (hy:y<18446744073709551616) (w:World) :
  Calls prog 205 #[.int .u64 0,.int .u64 lo,.int .u64 y] w (ST lo y w):=by
 obtain⟨q,E1⟩:∃q:Nat,(lo:Int)/(y:Int)=(q:Int):=⟨lo/y,(Int.natCast_ediv lo y).symm⟩
 obtain⟨r,E2⟩:∃r:Nat,(lo:Int)%(y:Int)=(r:Int):=⟨lo%y,(Int.natCast_emod lo y).symm⟩
 have e1:q=lo/y:=by rw[←Int.natCast_ediv]at E1; exact (Int.ofNat.inj E1).symm
 have e2:r=lo%y:=by rw[←Int.natCast_emod]at E2; exact (Int.ofNat.inj E2).symm
 have b1:q<18446744073709551616:=by rw[e1]; exact Nat.lt_of_le_of_lt (Nat.div_le_self _ _) hl
 have b2:r<18446744073709551616:=by rw[e2]; exact Nat.lt_of_lt_of_le (Nat.mod_lt _ h2) (by omega)
 have H1:=Lib.hid e1; have H2:=Lib.hid e2;clear e1 e2;have t1:((y:Int)==0)=false:=by simp; omega
 go_enter func205,ntmps205
 go_wp2_with fail
 go_quiet (fail)
 go_wp2_with fail
 go_ret2
 exact⟨_,by rw[←H1.out,←H2.out,←E2]; rfl,rfl⟩
theorem Dv {hi lo y:Nat} (h:hi<y) (hl:lo<18446744073709551616) (hy:y<18446744073709551616):∃q r:Nat,
  (∀w,Calls prog 205 #[.int .u64 hi,.int .u64 lo,.int .u64 y] w fun e w'=>e=.returned (.tuple #[.int .u64 (q:Nat),.int .u64 (r:Nat)])∧∃n,w'=w.drewN n) ∧
  q<18446744073709551616∧r<y∧Hid (q*y+r=hi*18446744073709551616+lo):=by
 refine⟨(hi*18446744073709551616+lo)/y,(hi*18446744073709551616+lo)%y,fun w => ?_,?_,Nat.mod_lt _ (by omega),Lib.hid (by rw[Nat.mul_comm]; exact Nat.div_add_mod _ _)⟩
 ·rcases Nat.eq_zero_or_pos hi with rfl|h1
  ·have:=OL lo y h hl hy w;rw[Nat.zero_mul,Nat.zero_add];exact this.mono fun e w' ⟨n,he,hw⟩=>⟨he,n,hw⟩
  ·exact (VK hi lo y h1 h hl hy w).mono fun e w' ⟨n,he,hw⟩=>⟨he,n,hw⟩
 ·rw[Nat.div_lt_iff_lt_mul (by omega)];have:=Nat.mul_le_mul_right 18446744073709551616 (show hi+1≤y by omega);rw[Nat.mul_comm 18446744073709551616 y];omega
def RowIs (w:World) (b n:Nat) (P:Nat→Nat):Prop:=∀k,k<n→w.cell? ⟨b,k,none⟩=some (.int .u64 (P k:Nat))∧w.frozen? ⟨b,k,none⟩=false
def jW (P:Nat→Nat) (i v:Nat):Nat→Nat:=fun k=>if k=i then v else P k
def fH (l:List Nat):Nat→Nat:=fun k=>l.getD k 0
section
variable {w w':World} {b n i v:Nat} {P:Nat→Nat}
theorem RowIs.cell (h:RowIs w b n P) (hi:i<n):w.cell? ⟨b,i,none⟩=some (.int .u64 (P i:Nat)):=(h i hi).1
theorem RowIs.free (h:RowIs w b n P) (hi:i<n):w.frozen? ⟨b,i,none⟩=false:=(h i hi).2
theorem RowIs.set (h:RowIs w b n P) (hi:i<n):RowIs (w.setCell ⟨b,i,none⟩ (.int .u64 (v:Nat))) b n (jW P i v):=by
 intro k hk;refine⟨?_,by rw[World.frozen?_setCell]; exact h.free hk⟩;unfold jW
 by_cases e:k=i
 ·subst e; rw[if_pos rfl]; exact World.cell?_setCell_same (h:=h.cell hk) ..
 ·rw[if_neg e,World.cell?_setCell_other (h:=fun he=>e (by simpa using (congrArg Addr.off he).symm)) ..]; exact h.cell hk
theorem RowIs.other (h:RowIs w b n P) {c:Nat} (hc:c≠b) (x:Value):RowIs (w.setCell ⟨c,i,none⟩ x) b n P:=by
 intro k hk;exact⟨by rw[World.cell?_setCell_other (h:=fun he=>hc (by simpa using congrArg Addr.block he)) ..]; exact h.cell hk,by rw[World.frozen?_setCell]; exact h.free hk⟩
theorem RowIs.drewN (h:RowIs w b n P) (m:Nat):RowIs (w.drewN m) b n P:=h
theorem RowIs.below (h:RowIs w b n P) {B:Nat} (hb:Below B w w') (hB:b<B):RowIs w' b n P:=by
 intro k hk;exact⟨by rw[hb.cell (p:=⟨b,k,none⟩) hB]; exact h.cell hk,by rw[hb.frozen (p:=⟨b,k,none⟩) hB]; exact h.free hk⟩
theorem RowIs.alloc (h:RowIs w b n P) (hb:b<w.heap.size) (o:Obj):RowIs (w.alloc o) b n P :=
 h.below ((Below.refl w.heap.size w).alloc (Nat.le_refl _) o) hb
theorem RowIs.mk (w:World) (t:TypeId) (l:List Nat) (b:Nat) (hb:b=w.heap.size):RowIs (w.alloc (.cells (l.map fun x=>Value.int .u64 (x:Nat)).toArray t)) b l.length (fH l):=by
 subst hb;intro k hk;refine⟨?_,World.frozen?_alloc_new _ _ _ _⟩;rw[World.cell?_alloc_new];simp[fH,hk]
end
structure Row4 (w:World) (b:Nat) (c0 c1 c2 c3:Nat):Prop where
 c0:w.cell? ⟨b,0,none⟩=some (.int .u64 c0)
 c1:w.cell? ⟨b,1,none⟩=some (.int .u64 c1)
 c2:w.cell? ⟨b,2,none⟩=some (.int .u64 c2)
 c3:w.cell? ⟨b,3,none⟩=some (.int .u64 c3)
 fr:∀k,w.frozen? ⟨b,k,none⟩=false
theorem Row4.below {w w':World} {b:Nat} {c0 c1 c2 c3:Nat} (h:Row4 w b c0 c1 c2 c3) {B:Nat} (hb:Below B w w') (hB:b<B):Row4 w' b c0 c1 c2 c3 :=
 ⟨by rw[hb.cell (p:=⟨b,0,none⟩) hB]; exact h.c0,by rw[hb.cell (p:=⟨b,1,none⟩) hB]; exact h.c1,by rw[hb.cell (p:=⟨b,2,none⟩) hB]; exact h.c2,by rw[hb.cell (p:=⟨b,3,none⟩) hB]; exact h.c3,
  fun k=>by rw[hb.frozen (p:=⟨b,k,none⟩) hB]; exact h.fr k⟩
theorem Row4.alloc {w:World} {b:Nat} {c0 c1 c2 c3:Nat} (h:Row4 w b c0 c1 c2 c3) (hb:b<w.heap.size) (o:Obj):Row4 (w.alloc o) b c0 c1 c2 c3 :=
 h.below ((Below.refl w.heap.size w).alloc (Nat.le_refl _) o) hb
theorem Row4.drewN {w:World} {b:Nat} {c0 c1 c2 c3:Nat} (h:Row4 w b c0 c1 c2 c3) (n:Nat):Row4 (w.drewN n) b c0 c1 c2 c3:=⟨h.c0,h.c1,h.c2,h.c3,h.fr⟩
theorem Row4.new (w:World) (c0 c1 c2 c3:Nat) (t:TypeId):Row4 (w.alloc (.cells #[.int .u64 c0,.int .u64 c1,.int .u64 c2,.int .u64 c3] t)) w.heap.size c0 c1 c2 c3 :=
 ⟨by rw[World.cell?_alloc_new]; rfl,by rw[World.cell?_alloc_new]; rfl,by rw[World.cell?_alloc_new]; rfl,by rw[World.cell?_alloc_new]; rfl,fun k=>World.frozen?_alloc_new _ _ _ _⟩
theorem Row4.other {w:World} {b d i:Nat} {c0 c1 c2 c3:Nat} (h:Row4 w b c0 c1 c2 c3) (hd:d≠b) (v:Value):Row4 (w.setCell ⟨d,i,none⟩ v) b c0 c1 c2 c3 :=
 ⟨by rw[World.cell?_setCell_other (h:=fun he=>hd (by simpa using congrArg Addr.block he)) ..]; exact h.c0,by rw[World.cell?_setCell_other (h:=fun he=>hd (by simpa using congrArg Addr.block he)) ..]; exact h.c1,
  by rw[World.cell?_setCell_other (h:=fun he=>hd (by simpa using congrArg Addr.block he)) ..]; exact h.c2,by rw[World.cell?_setCell_other (h:=fun he=>hd (by simpa using congrArg Addr.block he)) ..]; exact h.c3,
  fun k=>by rw[World.frozen?_setCell]; exact h.fr k⟩
def set4 (w:World) (b:Nat) (d0 d1 d2 d3:Nat):World:=(((w.setCell ⟨b,0,none⟩ (.int .u64 d0)).setCell ⟨b,1,none⟩ (.int .u64 d1)).setCell ⟨b,2,none⟩ (.int .u64 d2)).setCell ⟨b,3,none⟩ (.int .u64 d3)
theorem Row4.rows {w:World} {b:Nat} {c0 c1 c2 c3:Nat} (h:Row4 w b c0 c1 c2 c3):RowIs w b 4 (fH [c0,c1,c2,c3]):=by
 intro k hk;refine⟨?_,h.fr k⟩
 match k,hk with
 | 0,_=>exact h.c0
 | 1,_=>exact h.c1
 | 2,_=>exact h.c2
 | 3,_=>exact h.c3
theorem Row4.set4 {w:World} {b:Nat} {c0 c1 c2 c3:Nat} (h:Row4 w b c0 c1 c2 c3) (d0 d1 d2 d3:Nat):Row4 (set4 w b d0 d1 d2 d3) b d0 d1 d2 d3:=by
 have r:=(((h.rows.set (show 0<4 by omega) (v:=d0)).set (show 1<4 by omega) (v:=d1)).set (show 2<4 by omega) (v:=d2)).set (show 3<4 by omega) (v:=d3);exact⟨r.cell (by omega),r.cell (show 1<4 by omega),r.cell (show 2<4 by omega),r.cell (show 3<4 by omega),fun k=>by
  show World.frozen? (((_:World).setCell _ _)) _=_;rw[World.frozen?_setCell,World.frozen?_setCell,World.frozen?_setCell,World.frozen?_setCell]; exact h.fr k⟩
theorem Row4.set4_other {w:World} {b d:Nat} {c0 c1 c2 c3:Nat} (h:Row4 w b c0 c1 c2 c3) (hd:d≠b) (e0 e1 e2 e3:Nat):Row4 (Go.Proofs.YtpjlhhpjpnacmaaGreatDoor.set4 w d e0 e1 e2 e3) b c0 c1 c2 c3 :=
 (((h.other hd _).other hd _).other hd _).other hd _
theorem aZ {B:Nat} {w w':World} {b:Nat} (h:Below B w w') (hb:B≤b) (d0 d1 d2 d3:Nat):Below B w (set4 w' b d0 d1 d2 d3) :=
 (((h.setCell (p:=⟨b,0,none⟩) hb _).setCell (p:=⟨b,1,none⟩) hb _).setCell (p:=⟨b,2,none⟩) hb _).setCell (p:=⟨b,3,none⟩) hb _
theorem bW (B:Nat) (w:World) (n:Nat):Below B w (w.drewN n):=⟨rfl,rfl,rfl,Nat.le_refl _,fun _ _=>rfl⟩
def fE (B:Nat) (P:Nat→Nat):Nat→Nat
 | 0=>0
 | n+1=>fE B P n+P n*B^n
theorem dI (B:Nat) (P:Nat→Nat) (n:Nat):fE B P (n+1)=fE B P n+P n*B^n:=rfl
theorem pY (B:Nat) (P:Nat→Nat) (k v:Nat):∀n,n≤k→fE B (jW P k v) n=fE B P n
 | 0,_=>rfl
 | n+1,h=>by
  rw[dI,dI,pY B P k v n (by omega)];unfold jW;rw[if_neg (by omega)]
theorem rJ (B:Nat) (P:Nat→Nat) (k v:Nat):∀n,k<n→fE B (jW P k v) n+P k*B^k=fE B P n+v*B^k
 | n+1,h=>by
  rw[dI,dI]
  by_cases e:k=n
  ·subst e;rw[pY B P k v k (Nat.le_refl _)];unfold jW;rw[if_pos rfl]; omega
  ·have:=rJ B P k v n (by omega);have e':jW P k v n=P n:=by unfold jW; rw[if_neg (by omega)]
   rw[e']; omega
theorem EY (B:Nat) (P:Nat→Nat) (h:∀k,P k=0):∀n,fE B P n=0
 | 0=>rfl
 | n+1=>by rw[dI,EY B P h n,h n,Nat.zero_mul]
theorem wC (B:Nat) (P:Nat→Nat) (hB:0<B):∀n,(∀k,k<n→P k<B)→fE B P n<B^n
 | 0,_=>by simp[fE]
 | n+1,h=>by
  have h1:=wC B P hB n (fun k hk=>h k (by omega));have h2:=Nat.mul_le_mul_right (B^n) (show P n+1≤B by have:=h n (by omega); omega);rw[dI,Nat.pow_succ,Nat.mul_comm (B^n) B];rw[Nat.add_mul,Nat.one_mul]at h2;omega
theorem wE {B:Nat} {P:Nat→Nat} {n k x o d o' T:Nat} (hk:k<n) (he:d+B*o'=x+P k+o) (hT:fE B P n+o*B^k=T) :
  fE B (jW P k d) n+o'*B^(k+1)=T+x*B^k:=by
 have h1:=rJ B P k d n hk;have h2:d*B^k+o'*B^(k+1)=x*B^k+P k*B^k+o*B^k:=by
  rw[Nat.pow_succ,←Nat.add_mul,←Nat.add_mul,←he,Nat.add_mul];congr 1;rw[Nat.mul_comm (B^k) B,←Nat.mul_assoc,Nat.mul_comm o' B]
 omega
section
variable {R n:Nat} {A B P:Nat→Nat} {i j o d o':Nat}
def MI (R n:Nat) (A B:Nat→Nat) (i j o:Nat) (P:Nat→Nat):Prop :=
 (∀k,i+n≤k→P k=0)∧fE R P (n+n)+o*R^(i+j)=fE R A i*fE R B n+A i*R^i*fE R B j
def MO (R n:Nat) (A B:Nat→Nat) (i:Nat) (P:Nat→Nat):Prop :=
 (∀k,i+n≤k→P k=0)∧fE R P (n+n)=fE R A i*fE R B n
theorem Mc (hi:i<n) (hj:j<n) (h:MI R n A B i j o P) (he:d+R*o'=A i*B j+P (i+j)+o):MI R n A B i (j+1) o' (jW P (i+j) d):=by
 refine⟨fun k hk=>by unfold jW; rw[if_neg (by omega)]; exact h.1 k hk,?_⟩;have e:A i*B j*R^(i+j)=A i*R^i*(B j*R^j):=by
  rw[Nat.pow_add,Nat.mul_assoc,Nat.mul_assoc,Nat.mul_left_comm (B j)]
 have:=wE (P:=P) (k:=i+j) (by omega) he h.2;rw[show i+(j+1)=i+j+1 by omega,this,dI,e,Nat.mul_add,Nat.add_assoc]
theorem Ya (hi:i<n) (h:MI R n A B i n o P):MO R n A B (i+1) (jW P (i+n) o):=by
 refine⟨fun k hk=>by unfold jW; rw[if_neg (by omega)]; exact h.1 k (by omega),?_⟩;have h1:=rJ R P (i+n) o (n+n) (by omega);rw[h.1 (i+n) (Nat.le_refl _),Nat.zero_mul,Nat.add_zero]at h1;rw[h1,h.2,dI,←Nat.add_mul]
theorem Bs (h:MO R n A B i P):MI R n A B i 0 0 P:=⟨h.1,by rw[h.2,Nat.zero_mul]; rfl⟩
theorem Bq (h:∀k,P k=0):MO R n A B 0 P:=⟨fun k _=>h k,by rw[EY R P h]; show _=0*_; rw[Nat.zero_mul]⟩
theorem iO (R:Nat) (P:Nat→Nat) (n:Nat):∀m,fE R P (n+m)=fE R P n+R^n*fE R (fun k=>P (n+k)) m
 | 0=>by rw[Nat.add_zero]; show _=_+R^n*0; rw[Nat.mul_zero,Nat.add_zero]
 | m+1=>by
  rw[show n+(m+1)=n+m+1 by omega,dI,iO R P n m,dI,Nat.mul_add,Nat.pow_add,←Nat.mul_assoc (R^n),Nat.add_assoc];rw[Nat.mul_comm (P (n+m)) (R^n*R^m),Nat.mul_right_comm]
end
theorem jA (P:Nat→Nat):aC (P 0) (P 1) (P 2) (P 3)=fE 18446744073709551616 P 4:=by
 unfold aC;simp only[fE];omega
def Rm (A B:Nat) (w:World) (e:Ending) (w':World):Prop :=
 ∃h0 h1 h2 h3 l0 l1 l2 l3:Nat,e=.returned (.tuple #[.agg #[.int .u64 h0,.int .u64 h1,.int .u64 h2,.int .u64 h3],.agg #[.int .u64 l0,.int .u64 l1,.int .u64 l2,.int .u64 l3]])∧cF h0 h1 h2 h3∧cF l0 l1 l2 l3∧aC l0 l1 l2 l3+115792089237316195423570985008687907853269984665640564039457584007913129639936*aC h0 h1 h2 h3=A*B∧Below w.heap.size w w'
theorem RowIs.mk4 {w:World} {b:Nat} {c0 c1 c2 c3:Nat} (h0:w.cell? ⟨b,0,none⟩=some (.int .u64 c0)) (h1:w.cell? ⟨b,1,none⟩=some (.int .u64 c1)) (h2:w.cell? ⟨b,2,none⟩=some (.int .u64 c2)) (h3:w.cell? ⟨b,3,none⟩=some (.int .u64 c3))
  (hf:∀k,w.frozen? ⟨b,k,none⟩=false):RowIs w b 4 (fH [c0,c1,c2,c3]):=by
 intro k hk;refine⟨?_,hf k⟩
 match k,hk with
 | 0,_=>exact h0
 | 1,_=>exact h1
 | 2,_=>exact h2
 | 3,_=>exact h3
theorem RowIs.mk8z {w:World} {b:Nat} (h:∀k,k<8→w.cell? ⟨b,k,none⟩=some (.int .u64 0)) (hf:∀k,w.frozen? ⟨b,k,none⟩=false):RowIs w b 8 (fun _=>0) :=
 fun k hk=>⟨h k hk,hf k⟩
theorem JG {a0 a1 a2 a3:Nat} (ha:cF a0 a1 a2 a3) (k:Nat):fH [a0,a1,a2,a3] k<18446744073709551616:=by
 obtain⟨h0,h1,h2,h3⟩:=ha;unfold fH
 match k with
 | 0=>exact h0
 | 1=>exact h1
 | 2=>exact h2
 | 3=>exact h3
 | k+4=>simp
theorem FV (g o c:Nat) (w:World):(Instr.arrayAt 24 (.slice (some ⟨g,o,none⟩) 4 c)).run prog w=.ok (.pointer (some ⟨g,o,none⟩)) w:=by
 unfold Instr.arrayAt;simp[run_underlying underlying24,Sem.run_bind,Result.andThen_ok]
theorem Ig (r0 r1 r2 r3 x:Nat):aC r0 r1 r2 r3*18446744073709551616+x=r3*115792089237316195423570985008687907853269984665640564039457584007913129639936+aC x r0 r1 r2:=by unfold aC; omega
theorem BO (b0 b1 b2 b3:Nat) (h:cF b0 b1 b2 b3):∃t,aC b0 b1 b2 b3=b3*6277101735386680763835789423207666416102355444464034512896+t∧t<6277101735386680763835789423207666416102355444464034512896:=by
 obtain⟨h0,h1,h2,_⟩:=h;exact⟨b0+18446744073709551616*(b1+18446744073709551616*b2),by unfold aC; omega,by omega⟩
theorem aDR {x r0 r1 r2:Nat} (hx:x<18446744073709551616) (h0:r0<18446744073709551616) (h1:r1<18446744073709551616):∃t,aC x r0 r1 r2=r2*6277101735386680763835789423207666416102355444464034512896+t∧t<6277101735386680763835789423207666416102355444464034512896 :=
 ⟨x+18446744073709551616*(r0+18446744073709551616*r1),by unfold aC; omega,by omega⟩
theorem Dd {N b b3 t r g m:Nat} (hb:b=b3*6277101735386680763835789423207666416102355444464034512896+t) (ht:t<6277101735386680763835789423207666416102355444464034512896) (h3:9223372036854775808≤b3) (hN:N=r*6277101735386680763835789423207666416102355444464034512896+m) (hm:m<6277101735386680763835789423207666416102355444464034512896)
  (hg:g<18446744073709551616) (h1:g*b3≤r) (h2:r<g*b3+b3):N/b≤g∧g≤N/b+2:=by
 have hp:0<b:=by omega
 constructor
 ·rw[←Nat.lt_succ_iff,Nat.div_lt_iff_lt_mul hp,Nat.succ_mul,hb,Nat.mul_add,←Nat.mul_assoc];omega
 ·have e:=Nat.div_add_mod N b;have hl:=Nat.mod_lt N hp;have h4:=nW (show g≤18446744073709551615 by omega) (show t≤6277101735386680763835789423207666416102355444464034512895 by omega);have h5:g*b<N+2*b:=by
   rw[hb,Nat.mul_add,←Nat.mul_assoc]; omega
  rcases Nat.lt_or_ge g (N/b+3)with h|h
  ·omega
  ·have h6:=Nat.mul_le_mul_right b h;rw[Nat.add_mul,Nat.mul_comm (N/b) b]at h6;omega
theorem De {N b b3 t r2 m x R:Nat} (hb:b=b3*6277101735386680763835789423207666416102355444464034512896+t) (ht:t<6277101735386680763835789423207666416102355444464034512896) (h3:9223372036854775808≤b3) (hN:N=b3*115792089237316195423570985008687907853269984665640564039457584007913129639936+(r2*6277101735386680763835789423207666416102355444464034512896+m)) (hR:N=R*18446744073709551616+x) (hx:x<18446744073709551616) (hl:R<b) :
  N/b≤18446744073709551615∧18446744073709551615≤N/b+2:=by
 have hp:0<b:=by omega
 constructor
 ·rw[←Nat.lt_succ_iff,Nat.div_lt_iff_lt_mul hp]; omega
 ·have e:=Nat.div_add_mod N b;have hl':=Nat.mod_lt N hp
  rcases Nat.lt_or_ge 18446744073709551615 (N/b+3)with h|h
  ·omega
  ·have h6:=Nat.mul_le_mul_right b h;rw[Nat.add_mul,Nat.mul_comm (N/b) b]at h6;omega
def TI (b R k top s:Nat):Prop:=k≤2∧(k=0→top=0∧s=R)∧(k=1→top*115792089237316195423570985008687907853269984665640564039457584007913129639936+s+b=18446744073709551616*115792089237316195423570985008687907853269984665640564039457584007913129639936+R∧0<top)∧(k=2→top*115792089237316195423570985008687907853269984665640564039457584007913129639936+s+b+b=18446744073709551616*115792089237316195423570985008687907853269984665640564039457584007913129639936+R∧0<top)
theorem EZ {N b g r3 xr p o s c:Nat} (hb:b<115792089237316195423570985008687907853269984665640564039457584007913129639936) (hp:0<b) (hN:N=r3*115792089237316195423570985008687907853269984665640564039457584007913129639936+xr) (hxr:xr<115792089237316195423570985008687907853269984665640564039457584007913129639936) (h1:N/b≤g) (h2:g≤N/b+2) (hr:r3<18446744073709551616) (ho:o<18446744073709551616)
  (e1:p+115792089237316195423570985008687907853269984665640564039457584007913129639936*o=b*g) (hpp:p<115792089237316195423570985008687907853269984665640564039457584007913129639936) (e2:s+p=xr+115792089237316195423570985008687907853269984665640564039457584007913129639936*c) (hs:s<115792089237316195423570985008687907853269984665640564039457584007913129639936) :
  ∃top:Nat,IntKind.u64.wrap (IntKind.u64.wrap ((r3:Int)-(o:Int))-(c:Int))=(top:Int)∧top<18446744073709551616∧TI b (N%b) (g-N/b) top s:=by
 have e:=Nat.div_add_mod N b;have hl:=Nat.mod_lt N hp;obtain⟨k,hk⟩:∃k,g=N/b+k:=⟨g-N/b,by omega⟩
 subst hk;rw[Nat.mul_add]at e1;generalize b*(N/b)=P at *;generalize N%b=R at *;generalize N/b=q at *;have hk:k=0∨k=1∨k=2:=by omega
 rw[show q+k-q=k by omega];simp only[IntKind.wrap_u64];unfold TI
 rcases hk with rfl|rfl|rfl
 ·refine⟨0,by omega,by omega,by omega,fun _=>⟨rfl,by omega⟩,by omega,by omega⟩
 ·refine⟨(r3+18446744073709551616+18446744073709551616-o-c)%18446744073709551616,by omega,by omega,by omega,by omega,fun _=>by omega,by omega⟩
 ·refine⟨(r3+18446744073709551616+18446744073709551616-o-c)%18446744073709551616,by omega,by omega,by omega,by omega,by omega,fun _=>by omega⟩
theorem YG {b R k top s:Nat} (h:TI b R k top s) (hk:0<k):0<top:=by
 obtain⟨h0,_,h2,h3⟩:=h;have:k=1∨k=2:=by omega
 rcases this with rfl|rfl
 ·exact (h2 rfl).2
 ·exact (h3 rfl).2
theorem FA {b R k top s s' c:Nat} (hb:b<115792089237316195423570985008687907853269984665640564039457584007913129639936) (hR:R<b) (h:TI b R (k+1) top s) (ht:top<18446744073709551616) (hs:s<115792089237316195423570985008687907853269984665640564039457584007913129639936) (hs':s'<115792089237316195423570985008687907853269984665640564039457584007913129639936) (hc:c≤1) (e:s'+115792089237316195423570985008687907853269984665640564039457584007913129639936*c=s+b) :
  ∃top':Nat,IntKind.u64.wrap ((top:Int)+(c:Int))=(top':Int)∧top'<18446744073709551616∧TI b R k top' s':=by
 obtain⟨h0,_,h2,h3⟩:=h;have hk:k=0∨k=1:=by omega
 simp only[IntKind.wrap_u64];unfold TI
 rcases hk with rfl|rfl
 ·have h2:=h2 rfl;exact⟨0,by omega,by omega,by omega,fun _=>⟨rfl,by omega⟩,by omega,by omega⟩
 ·obtain⟨h3,h4⟩:=h3 rfl;have hv:top+c<18446744073709551616:=by omega
  refine⟨top+c,by omega,hv,by omega,(fun h=>absurd h (by omega)),(fun _=>⟨?_,by omega⟩),(fun h=>absurd h (by omega))⟩;rw[Nat.add_mul];omega
end Go.Proofs.YtpjlhhpjpnacmaaGreatDoor
