/- Eb03 -/
import Derived.KernelRfl
import Derived.Laws.MakeOwn
import Derived.WalkKit
import Derived.WalkLawsBesides
import Derived.WalkSpells
import Derived.ProofKit
import Derived.RegionTactic
import Derived.BigRegion
import Derived.BigQuiet
import Derived.Deep.QuietTactic
import Derived.ChangeAlike
import Derived.Laws.Externs
import Derived.LoopN
import Derived.Below
import Derived.Lib.Hide
import Derived.Shelf.Strconv.Itoa0
import Derived.Shelf.Bits.Mul64
import Derived.StillTailTactics
import Derived.Laws.Bits64b
import Derived.Laws.Bits64
import Derived.Deep.Draws
import Derived.LoopTactic
import Derived.Deep.LoopGhost
import Derived.Test.YtpjlhhpjpnacmaaGreatEb02
import Derived.Test.YtpjlhhpjpnacmaaGreatProg
import Derived.Test.YtpjlhhpjpnacmaaGreatEb00
set_option maxRecDepth 100000
set_option linter.unusedVariables false
set_option linter.unusedSimpArgs false
set_option linter.unnecessarySimpa false
namespace Go.Proofs.YtpjlhhpjpnacmaaGreat.Ex
open Go.Proofs.Tryz
open Go.RowKit
def oldOf (w:World) (b o:Nat) (l:List At):Prop:=b<w.heap.size∧w.rangeAt b o (aB l)
theorem bI {base:Nat} {w w':World} (h:Below base w w') {b o:Nat} {l:List Value} (hb:b<base) (hr:w.rangeAt b o l):w'.rangeAt b o l:=fun j v hj=>by
 rw[h.cell hb];exact hr j v hj
abbrev Tab2:=Nat→List CA→Option (List Prop×FR)
def WL:Tab2:=fun _ _=>none
def FrOk (P:Program) (T:Tab2):Prop:=∀f cs pre r,T f cs=some (pre,r)→aS pre →
 (∀args w,(callFunc f args).run P w=.ok (.enter f args) w)∧∀(args:List Value) (w:World),cH w cs args→Calls P f args.toArray w (fun e w'=>r.ok w e w')
theorem qN (P:Program):FrOk P WL:=fun _ _ _ _ h=>by cases h
def Tab2.add (T:Tab2) (f:Nat) (g:List CA→Option (List Prop×FR)):Tab2:=fun f' cs=>bif Nat.beq f' f then g cs else T f' cs
theorem FrOk.add {P:Program} {T:Tab2} (hT:FrOk P T) {f:Nat} {fn:Func} (hf:P.funcs[f]?=some fn) (hn:(fn.name == "runtime.NumGoroutine")=false) (hb:fn.body.isNone=false) {g:List CA→Option (List Prop×FR)}
  (h:∀cs pre r,g cs=some (pre,r)→aS pre→∀(args:List Value) (w:World),cH w cs args→Calls P f args.toArray w (fun e w'=>r.ok w e w')):FrOk P (T.add f g):=by
 intro f' cs pre r hg hp;unfold Tab2.add at hg;cases hb':Nat.beq f' f<;>rw[hb']at hg
 ·exact hT f' cs pre r hg hp
 ·cases Nat.eq_of_beq_eq_true hb';exact⟨eJ hf hn hb,h cs pre r hg hp⟩
abbrev Tab3:=Nat→List CA→Option (List Prop×FS)
abbrev Tab4:=Nat→List CA→Option (List Prop×Nat×List At)
def FsOk (P:Program) (T:Tab3):Prop:=∀f cs pre r,T f cs=some (pre,r)→aS pre →
 (∀args w,(callFunc f args).run P w=.ok (.enter f args) w)∧∀(args:List Value) (w:World),cH w cs args→Calls P f args.toArray w (fun e w'=>r.ok w e w')
def WrOk (P:Program) (T:Tab4):Prop:=∀f cs pre j l,T f cs=some (pre,j,l)→aS pre →
 (∀args w,(callFunc f args).run P w=.ok (.enter f args) w)∧∀(args:List Value) (w:World),cH w cs args→∀b o n m,args[j]?=some (.slice (some ⟨b,o,none⟩) n m)→(∀q,w.frozen? ⟨b,q,none⟩=false) →
  Calls P f args.toArray w (fun e w'=>e=.returned (.slice (some ⟨b,o,none⟩) n m)∧WrAt w w' b l∧w'.rangeAt b o (aB l))
abbrev Tab5:=Nat→List CA→Option (List Prop×Nat×RV×List At)
def PtOk (P:Program) (T:Tab5):Prop:=∀f cs pre j r l,T f cs=some (pre,j,r,l)→aS pre →
 (∀args w,(callFunc f args).run P w=.ok (.enter f args) w)∧∀(args:List Value) (w:World),cH w cs args→∀b o,args[j]?=some (.pointer (some ⟨b,o,none⟩))→(∀q,w.frozen? ⟨b,q,none⟩=false) →
  Calls P f args.toArray w (fun e w'=>e=.returned r.den∧WrC w w' b∧w'.rangeAt b 0 (aB l))
def Cm:Tab5:=fun _ _=>none
theorem kO (P:Program):PtOk P Cm:=fun _ _ _ _ _ _ h=>by cases h
def Tab5.add (T:Tab5) (f:Nat) (g:List CA→Option (List Prop×Nat×RV×List At)):Tab5:=fun f' cs=>bif Nat.beq f' f then g cs else T f' cs
theorem PtOk.add {P:Program} {T:Tab5} (hT:PtOk P T) {f:Nat} {fn:Func} (hf:P.funcs[f]?=some fn) (hn:(fn.name == "runtime.NumGoroutine")=false) (hb:fn.body.isNone=false) {g:List CA→Option (List Prop×Nat×RV×List At)}
  (h:∀cs pre j r l,g cs=some (pre,j,r,l)→aS pre→∀(args:List Value) (w:World),cH w cs args→∀b o,args[j]?=some (.pointer (some ⟨b,o,none⟩))→(∀q,w.frozen? ⟨b,q,none⟩=false) →
   Calls P f args.toArray w (fun e w'=>e=.returned r.den∧WrC w w' b∧w'.rangeAt b 0 (aB l))):PtOk P (T.add f g):=by
 intro f' cs pre j r l hg hp;unfold Tab5.add at hg;cases hb':Nat.beq f' f<;>rw[hb']at hg
 ·exact hT f' cs pre j r l hg hp
 ·cases Nat.eq_of_beq_eq_true hb';exact⟨eJ hf hn hb,h cs pre j r l hg hp⟩
theorem PtOk.ad {P:Program} {T:Tab5} (hT:PtOk P T) {f:Nat} {fn:Func} (hf:P.funcs[f]?=some fn) {g:List CA→Option (List Prop×Nat×RV×List At)}
 (h:∀cs pre j r l,g cs=some (pre,j,r,l)→aS pre→∀(args:List Value) (w:World),cH w cs args→∀b o,args[j]?=some (.pointer (some ⟨b,o,none⟩))→(∀q,w.frozen? ⟨b,q,none⟩=false)→Calls P f args.toArray w (fun e w'=>e=.returned r.den∧WrC w w' b∧w'.rangeAt b 0 (aB l))) (hn:(fn.name == "runtime.NumGoroutine")=false:=by kernel_rfl) (hb:fn.body.isNone=false:=by kernel_rfl):PtOk P (T.add f g):=hT.add hf hn hb h
abbrev Tab6:=Nat→Nat→List At→List CB→Option (List Prop×RV×List At)
def VW (b:Nat) (w:World) (r:RV) (l:List At) (e:Ending) (w':World):Prop:=e=.returned r.den∧WrC w w' b∧w'.rangeAt b 0 (aB l)
def PbOk (P:Program) (T:Tab6):Prop:=∀f b row cs pre r l,T f b row cs=some (pre,r,l)→aS pre→(∀args w,(callFunc f args).run P w=.ok (.enter f args) w) ∧
 ∀(args:List Value) (w:World),b<w.heap.size→w.rangeAt b 0 (aB row)→(∀q,w.frozen? ⟨b,q,none⟩=false)→CBs w b cs args→Calls P f args.toArray w (VW b w r l)
def Ev:Tab6:=fun _ _ _ _=>none
theorem mI (P:Program):PbOk P Ev:=fun _ _ _ _ _ _ _ h=>by cases h
def Tab6.add (T:Tab6) (f:Nat) (g:Nat→List At→List CB→Option (List Prop×RV×List At)):Tab6:=fun f' b row cs=>bif Nat.beq f' f then g b row cs else T f' b row cs
theorem PbOk.add {P:Program} {T:Tab6} (hT:PbOk P T) {f:Nat} {fn:Func} (hf:P.funcs[f]?=some fn) (hn:(fn.name == "runtime.NumGoroutine")=false) (hb:fn.body.isNone=false) {g:Nat→List At→List CB→Option (List Prop×RV×List At)}
  (h:∀b row cs pre r l,g b row cs=some (pre,r,l)→aS pre→∀(args:List Value) (w:World),b<w.heap.size→w.rangeAt b 0 (aB row)→(∀q,w.frozen? ⟨b,q,none⟩=false)→CBs w b cs args→Calls P f args.toArray w (VW b w r l)):PbOk P (T.add f g):=by
 intro f' b row cs pre r l hg hp;unfold Tab6.add at hg;cases hb':Nat.beq f' f<;>rw[hb']at hg
 ·exact hT f' b row cs pre r l hg hp
 ·cases Nat.eq_of_beq_eq_true hb';exact⟨eJ hf hn hb,h b row cs pre r l hg hp⟩
def WK:Tab3:=fun _ _=>none
def Cg:Tab4:=fun _ _=>none
theorem qM (P:Program):FsOk P WK:=fun _ _ _ _ h=>by cases h
theorem nZ (P:Program):WrOk P Cg:=fun _ _ _ _ _ h=>by cases h
def Tab3.add (T:Tab3) (f:Nat) (g:List CA→Option (List Prop×FS)):Tab3:=fun f' cs=>bif Nat.beq f' f then g cs else T f' cs
def Tab4.add (T:Tab4) (f:Nat) (g:List CA→Option (List Prop×Nat×List At)):Tab4:=fun f' cs=>bif Nat.beq f' f then g cs else T f' cs
theorem FsOk.add {P:Program} {T:Tab3} (hT:FsOk P T) {f:Nat} {fn:Func} (hf:P.funcs[f]?=some fn) (hn:(fn.name == "runtime.NumGoroutine")=false) (hb:fn.body.isNone=false) {g:List CA→Option (List Prop×FS)}
  (h:∀cs pre r,g cs=some (pre,r)→aS pre→∀(args:List Value) (w:World),cH w cs args→Calls P f args.toArray w (fun e w'=>r.ok w e w')):FsOk P (T.add f g):=by
 intro f' cs pre r hg hp;unfold Tab3.add at hg;cases hb':Nat.beq f' f<;>rw[hb']at hg
 ·exact hT f' cs pre r hg hp
 ·cases Nat.eq_of_beq_eq_true hb';exact⟨eJ hf hn hb,h cs pre r hg hp⟩
theorem FsOk.ad {P:Program} {T:Tab3} (hT:FsOk P T) {f:Nat} {fn:Func} (hf:P.funcs[f]?=some fn) {g:List CA→Option (List Prop×FS)}
 (h:∀cs pre r,g cs=some (pre,r)→aS pre→∀(args:List Value) (w:World),cH w cs args→Calls P f args.toArray w (fun e w'=>r.ok w e w')) (hn:(fn.name == "runtime.NumGoroutine")=false:=by kernel_rfl) (hb:fn.body.isNone=false:=by kernel_rfl):FsOk P (T.add f g):=hT.add hf hn hb h
theorem WrOk.add {P:Program} {T:Tab4} (hT:WrOk P T) {f:Nat} {fn:Func} (hf:P.funcs[f]?=some fn) (hn:(fn.name == "runtime.NumGoroutine")=false) (hb:fn.body.isNone=false) {g:List CA→Option (List Prop×Nat×List At)}
  (h:∀cs pre j l,g cs=some (pre,j,l)→aS pre→∀(args:List Value) (w:World),cH w cs args→∀b o n m,args[j]?=some (.slice (some ⟨b,o,none⟩) n m)→(∀q,w.frozen? ⟨b,q,none⟩=false) →
   Calls P f args.toArray w (fun e w'=>e=.returned (.slice (some ⟨b,o,none⟩) n m)∧WrAt w w' b l∧w'.rangeAt b o (aB l))):WrOk P (T.add f g):=by
 intro f' cs pre j l hg hp;unfold Tab4.add at hg;cases hb':Nat.beq f' f<;>rw[hb']at hg
 ·exact hT f' cs pre j l hg hp
 ·cases Nat.eq_of_beq_eq_true hb';exact⟨eJ hf hn hb,h cs pre j l hg hp⟩
theorem WrOk.ad {P:Program} {T:Tab4} (hT:WrOk P T) {f:Nat} {fn:Func} (hf:P.funcs[f]?=some fn) {g:List CA→Option (List Prop×Nat×List At)}
 (h:∀cs pre j l,g cs=some (pre,j,l)→aS pre→∀(args:List Value) (w:World),cH w cs args→∀b o n m,args[j]?=some (.slice (some ⟨b,o,none⟩) n m)→(∀q,w.frozen? ⟨b,q,none⟩=false)→Calls P f args.toArray w (fun e w'=>e=.returned (.slice (some ⟨b,o,none⟩) n m)∧WrAt w w' b l∧w'.rangeAt b o (aB l))) (hn:(fn.name == "runtime.NumGoroutine")=false:=by kernel_rfl) (hb:fn.body.isNone=false:=by kernel_rfl):WrOk P (T.add f g):=hT.add hf hn hb h
theorem Ar {P:Program} {x:Ext} {w:World} (h2:FrOk P x.T2) (ho:∀b o l,x.old b o l→oldOf w b o l) (h3:FsOk P x.T3) (h4:WrOk P x.T4) (h5:PtOk P x.T5:=by exact kO _) (h6:PbOk P x.T6:=by exact mI _):ExtOk P x w.heap.size w:=fun w' hb =>
 ⟨fun b o l h=>bI hb (ho b o l h).1 (ho b o l h).2,fun f cs pre r hg hp=>⟨(h2 f cs pre r hg hp).1,fun args ha=>(h2 f cs pre r hg hp).2 args w' ha⟩,
  fun f cs pre r hg hp=>⟨(h3 f cs pre r hg hp).1,fun args ha=>(h3 f cs pre r hg hp).2 args w' ha⟩,fun f cs pre j l hg hp=>⟨(h4 f cs pre j l hg hp).1,fun args ha=>(h4 f cs pre j l hg hp).2 args w' ha⟩,fun f cs pre j r l hg hp=>⟨(h5 f cs pre j r l hg hp).1,fun args ha b o hj hz _=>(h5 f cs pre j r l hg hp).2 args w' ha b o hj hz⟩,fun f b row cs pre r l hg hp=>⟨(h6 f b row cs pre r l hg hp).1,fun args=>(h6 f b row cs pre r l hg hp).2 args w'⟩⟩
def FrAt (P:Program) (T:Tab2) (w:World):Prop:=∀f cs pre r,T f cs=some (pre,r)→aS pre→(∀args w,(callFunc f args).run P w=.ok (.enter f args) w)∧∀(args:List Value),cH w cs args→Calls P f args.toArray w (fun e w'=>r.ok w e w')
def FsAt (P:Program) (T:Tab3) (w:World):Prop:=∀f cs pre r,T f cs=some (pre,r)→aS pre→(∀args w,(callFunc f args).run P w=.ok (.enter f args) w)∧∀(args:List Value),cH w cs args→Calls P f args.toArray w (fun e w'=>r.ok w e w')
theorem FrAt.none (P:Program) (w:World):FrAt P WL w:=fun _ _ _ _ h=>by cases h
theorem FsAt.none (P:Program) (w:World):FsAt P WK w:=fun _ _ _ _ h=>by cases h
theorem FrAt.add {P:Program} {T:Tab2} {w:World} (hT:FrAt P T w) {f:Nat} {fn:Func} (hf:P.funcs[f]?=some fn) (hn:(fn.name == "runtime.NumGoroutine")=false) (hb:fn.body.isNone=false) {g:List CA→Option (List Prop×FR)}
  (h:∀cs pre r,g cs=some (pre,r)→aS pre→∀(args:List Value),cH w cs args→Calls P f args.toArray w (fun e w'=>r.ok w e w')):FrAt P (T.add f g) w:=by
 intro f' cs pre r hg hp;unfold Tab2.add at hg;cases hb':Nat.beq f' f<;>rw[hb']at hg
 ·exact hT f' cs pre r hg hp
 ·cases Nat.eq_of_beq_eq_true hb';exact⟨eJ hf hn hb,h cs pre r hg hp⟩
theorem FsAt.add {P:Program} {T:Tab3} {w:World} (hT:FsAt P T w) {f:Nat} {fn:Func} (hf:P.funcs[f]?=some fn) (hn:(fn.name == "runtime.NumGoroutine")=false) (hb:fn.body.isNone=false) {g:List CA→Option (List Prop×FS)}
  (h:∀cs pre r,g cs=some (pre,r)→aS pre→∀(args:List Value),cH w cs args→Calls P f args.toArray w (fun e w'=>r.ok w e w')):FsAt P (T.add f g) w:=by
 intro f' cs pre r hg hp;unfold Tab3.add at hg;cases hb':Nat.beq f' f<;>rw[hb']at hg
 ·exact hT f' cs pre r hg hp
 ·cases Nat.eq_of_beq_eq_true hb';exact⟨eJ hf hn hb,h cs pre r hg hp⟩
theorem JS {P:Program} {x:Ext} {base:Nat} {w:World} (ho:∀b o l,x.old b o l→b<base∧w.rangeAt b o (aB l)) (h2:∀w',Below base w w'→FrAt P x.T2 w') (h3:∀w',Below base w w'→FsAt P x.T3 w') (h4:WrOk P x.T4:=by exact nZ _) (h5:PtOk P x.T5:=by exact kO _) (h6:PbOk P x.T6:=by exact mI _):ExtOk P x base w:=fun w' hb =>
 ⟨fun b o l h=>bI hb (ho b o l h).1 (ho b o l h).2,h2 w' hb,h3 w' hb,fun f cs pre j l hg hp=>⟨(h4 f cs pre j l hg hp).1,fun args ha=>(h4 f cs pre j l hg hp).2 args w' ha⟩,fun f cs pre j r l hg hp=>⟨(h5 f cs pre j r l hg hp).1,fun args ha b o hj hz _=>(h5 f cs pre j r l hg hp).2 args w' ha b o hj hz⟩,fun f b row cs pre r l hg hp=>⟨(h6 f b row cs pre r l hg hp).1,fun args=>(h6 f b row cs pre r l hg hp).2 args w'⟩⟩
def qY (P:Program) (x:Ext):EqT:={ qG P with x:=x }
theorem vD {P:Program} {x:Ext} {w:World} (h2:FrOk P x.T2) (ho:∀b o l,x.old b o l→oldOf w b o l) (h3:FsOk P x.T3) (h4:WrOk P x.T4) (h5:PtOk P x.T5:=by exact kO _) (h6:PbOk P x.T6:=by exact mI _):dC P (qY P x) w.heap.size w:=⟨(aT P).1,Ar h2 ho h3 h4 h5 h6⟩
def Db (P:Program) (A:List Fact):List ResultVar→Option FR
 | .tmp s::rest=>(match oW A s with
  | some (.sl k 0 n m)=>(match dI A k,iT P A rest with
   | some (true,l),some post=>some ⟨l,n,m,post⟩
   | _,_=>none)
  | _=>none)
 | _=>none
theorem vU {P:Program} {fn:Func} {A:List Fact} {r:FR} {w:World} (h:Db P A fn.results.toList=some r) {a:Act} {w':World} (hA:Holds fn.ntmps w.heap.size w A a w'):bodyPost P fn (fun e w'=>r.ok w e w') .ret a w':=by
 obtain⟨β,hok,_⟩:=hA.facts;unfold Db at h;split at h
 ·rename_i s rest hx;split at h
  ·rename_i k n m hl;split at h
   ·rename_i l post hr hp;cases h;obtain⟨g1,g2,g3,_⟩:=hok _ (aX hr);obtain⟨g4,g5,g6⟩:=g3 rfl;have hs:=hok _ (eH hl);simp only[Fact.ok,AV.den]at hs;rw[g5]at hs g2;have hv:a.tmps.getD s undef=.slice (some ⟨(β k).1,0,none⟩) n m:=by simp[hs]
    have h1:(lG a.tmps (.tmp s)).run P w'=.ok (.slice (some ⟨(β k).1,0,none⟩) n m) w':=by
     show (pure (a.tmps.getD s undef):Sem Value).run P w'=_;rw[hv]; rfl
    have h2:=gJ hok hp;have hres:(results fn a.tmps).run P w'=.ok ((⟨l,n,m,post⟩:FR).val (β k).1) w':=by
     show ((fn.results.mapM (lG a.tmps)) >>= fun vs=>pure (if h:vs.size=1 then vs[0]else .tuple vs):Sem Value).run P w'=_;have hm:(List.toArray <$> fn.results.toList.mapM (lG a.tmps)).run P w'=.ok (.slice (some ⟨(β k).1,0,none⟩) n m::post.map TV.den).toArray w':=by
      rw[hx];simp[List.mapM_cons,h1,h2]
     rw[Array.mapM_eq_mapM_toList,Sem.run_bind,hm,Result.andThen_ok,Sem.run_pure];refine congrArg (fun x=>Result.ok x w') ?_;unfold FR.val;cases post with
     | nil=>rfl
     | cons t ts=>rw[dif_neg (by simp)]; rfl
    exact⟨hA.defers,_,hres,(β k).1,rfl,hA.below,g4,g1,g2,g6⟩
   ·cases h
  ·cases h
 ·cases h
def QR (P:Program) (A:List Fact):List ResultVar→List TV→Option FS
 | [],_=>none
 | x::rest,ante=>match QS P A x with
  | some t=>QR P A rest (ante++[t])
  | none=>(match x with
   | .tmp s=>(match oW A s with
    | some (.so k n)=>(match dI A k,iT P A rest with
     | some (true,l),some post=>(match nC A k with
      | some (e,sz,n')=>bif Nat.beq n n' then some ⟨l,n,e,sz,true,ante,post⟩else none
      | none=>some ⟨l,n,0,0,false,ante,post⟩)
     | _,_=>none)
    | some (.sl k 0 n m)=>(match dI A k,iT P A rest with
     | some (true,l),some post=>some ⟨l,n,0,0,false,ante,post⟩
     | _,_=>none)
    | _=>none)
   | _=>none)
theorem vA {P:Program} {A:List Fact} {base:Nat} {β:Nat→Bk} {a:Act} {w:World} (hA:∀φ∈A,φ.ok base β a w):∀{xs:List ResultVar} {ante:List TV} {r:FS},QR P A xs ante=some r →
  ∃b cap mid,r.ante=ante++mid∧(xs.mapM (lG a.tmps)).run P w=.ok (mid.map TV.den ++ .slice (some ⟨b,0,none⟩) r.n cap::r.post.map TV.den) w∧base≤b∧b<w.heap.size∧w.rangeAt b 0 (aB r.l)∧(∀j,w.frozen? ⟨b,j,none⟩=false)∧(r.ap=true→AppAt w b r.e r.sz r.n cap)
 | [],ante,r,h=>by cases h
 | x::rest,ante,r,h=>by
  unfold QR at h;split at h
  ·rename_i t ht;obtain⟨b,cap,mid,e,h1,h2⟩:=vA hA h;have hx:=vB hA ht;exact⟨b,cap,t::mid,by rw[e,List.append_assoc]; rfl,by simp[List.mapM_cons,hx,h1],h2⟩
  ·split at h
   ·rename_i s hno;have fin:∀(k n cap:Nat) (l:List At) (post:List TV) (e sz:Nat) (ap:Bool),a.tmps[s]?=some (.slice (some ⟨(β k).1,(β k).2.1,none⟩) n cap)→dI A k=some (true,l)→iT P A rest=some post→(ap=true→AppAt w (β k).1 e sz n cap)→r=⟨l,n,e,sz,ap,ante,post⟩ →
      ∃b cap mid,r.ante=ante++mid∧((ResultVar.tmp s::rest).mapM (lG a.tmps)).run P w=.ok (mid.map TV.den ++ .slice (some ⟨b,0,none⟩) r.n cap::r.post.map TV.den) w∧base≤b∧b<w.heap.size∧w.rangeAt b 0 (aB r.l)∧(∀j,w.frozen? ⟨b,j,none⟩=false)∧(r.ap=true→AppAt w b r.e r.sz r.n cap):=by
     intro k n cap l post e sz ap hs hr hp ha hre;subst hre;obtain⟨g1,g2,g3,_⟩:=hA _ (aX hr);obtain⟨g4,g5,g6⟩:=g3 rfl;rw[g5]at hs g2;have hv:a.tmps.getD s undef=.slice (some ⟨(β k).1,0,none⟩) n cap:=by simp[hs]
     have h1:(lG a.tmps (.tmp s)).run P w=.ok (.slice (some ⟨(β k).1,0,none⟩) n cap) w:=by
      show (pure (a.tmps.getD s undef):Sem Value).run P w=_;rw[hv]; rfl
     have h2:=gJ hA hp;exact⟨(β k).1,cap,[],by simp,by simp[List.mapM_cons,h1,h2],g4,g1,g2,g6,ha⟩
    split at h
    ·rename_i k n hl;have hs:=hA _ (eH hl);simp only[Fact.ok,AV.den]at hs;split at h
     ·rename_i l post hr hp;split at h
      ·rename_i e sz n' ha;cases hb:Nat.beq n n'<;>rw[hb]at h
       ·cases h
       ·cases Nat.eq_of_beq_eq_true hb;have ga:=hA _ (fW ha);simp only[Fact.ok]at ga;exact fin k n _ l post e sz true hs hr hp (fun _=>ga) (by cases h; rfl)
      ·exact fin k n _ l post 0 0 false hs hr hp (fun e=>by cases e) (by cases h; rfl)
     ·cases h
    ·rename_i k n m hl;have hs:=hA _ (eH hl);simp only[Fact.ok,AV.den,Nat.add_zero]at hs;split at h
     ·rename_i l post hr hp;exact fin k n m l post 0 0 false hs hr hp (fun e=>by cases e) (by cases h; rfl)
     ·cases h
    ·cases h
   ·cases h
theorem NG {P:Program} {fn:Func} {A:List Fact} {r:FS} {w:World} (h:QR P A fn.results.toList []=some r) {a:Act} {w':World} (hA:Holds fn.ntmps w.heap.size w A a w'):bodyPost P fn (fun e w'=>r.ok w e w') .ret a w':=by
 obtain⟨β,hok,_⟩:=hA.facts;obtain⟨b,cap,mid,e1,h1,h2,h3,h4,h5,h6⟩:=vA hok h;rw[List.nil_append]at e1;rw[←e1]at h1;have hres:(results fn a.tmps).run P w'=.ok (r.val b cap) w':=by
  show ((fn.results.mapM (lG a.tmps)) >>= fun vs=>pure (if h:vs.size=1 then vs[0]else .tuple vs):Sem Value).run P w'=_;have hm:(List.toArray <$> fn.results.toList.mapM (lG a.tmps)).run P w'=.ok (r.ante.map TV.den ++ .slice (some ⟨b,0,none⟩) r.n cap::r.post.map TV.den).toArray w':=by simp[h1]
  rw[Array.mapM_eq_mapM_toList,Sem.run_bind,hm,Result.andThen_ok,Sem.run_pure];refine congrArg (fun x=>Result.ok x w') ?_;unfold FS.val FS.lone;cases ha:r.ante with
  | nil =>
   cases hp:r.post with
   | nil=>rfl
   | cons t ts=>rw[dif_neg (by simp)]; rfl
  | cons t ts=>rw[dif_neg (by simp)]; rfl
 exact⟨hA.defers,_,hres,b,cap,rfl,hA.below,h2,h3,h4,h5,h6⟩
def Jy (P:Program) (q:EqT) (C:Nat→Cfg) (fn:Func) (n:Nat) (cs:List CA):Option (List Prop×FS) :=
 match fn.body with
 | some c=>bif Nat.ble cs.length fn.ntmps then
   (match run P q fn.ntmps C n c (iO 0 cs)with
   | some (ps,.rt,A)=>match QR P A fn.results.toList []with
    | some r=>some (ps,r)
    | none=>none
   | _=>none)else none
 | none=>none
theorem FI {P:Program} {q:EqT} {C:Nat→Cfg} {w:World} (hm:P.follows .mixedOrders=true) (hT:∀n d,TabOkW P ((C n).T d) w.heap.size w) (hq:dC P q w.heap.size w) {f:FuncId} {fn:Func} (hf:P.funcs[f]?=some fn) {n:Nat} {cs:List CA} {ps:List Prop} {r:FS}
  (h:Jy P q C fn n cs=some (ps,r)) (hps:aS ps) {args:List Value} (ha:cH w cs args):Calls P f args.toArray w (fun e w'=>r.ok w e w'):=by
 unfold Jy at h;split at h
 ·rename_i c hb;cases hle:Nat.ble cs.length fn.ntmps<;>rw[hle]at h
  ·cases h
  ·simp only[cond_true]at h;split at h
   ·rename_i ps' A hrun;split at h
    ·rename_i r' hr;cases h;exact eT hf hb ha (Nat.le_of_ble_eq_true hle) fun a w' hH=>(dT (P:=P) (q:=q) (nt:=fn.ntmps) (C:=C) hm hT hq n c _ A ps .rt a w' _ hrun hps hH fun a w' hA=>NG hr hA).1
    ·cases h
   ·cases h
 ·cases h
theorem Holds.at {nt base:Nat} {w0:World} {A:List Fact} {a:Act} {w:World} (h:Holds nt base w0 A a w) {k:Nat} {l:List At} (hk:Fact.row k true l∈A):∃b,Holds nt base w0 (.at k b::A) a w:=by
 obtain⟨β,h1,h2,h3⟩:=h.facts;obtain⟨_,_,g3,_⟩:=h1 _ hk;have up:∀k1 o1 l1,Fact.row k1 o1 l1∈(Fact.at k (β k).1::A)→Fact.row k1 o1 l1∈A:=fun k1 o1 l1 e=>by
  rcases List.mem_cons.1 e with e|e
  ·cases e
  ·exact e
 refine⟨(β k).1,h.defers,h.size,h.below,h.heap,β,fun φ hφ => ?_,fun k1 k2 o2 l1 l2 e1 e2=>h2 k1 k2 o2 l1 l2 (up _ _ _ e1) (up _ _ _ e2),fun k1 l1 e=>h3.1 k1 l1 (up _ _ _ e),h3.2⟩
 rcases List.mem_cons.1 hφ with rfl|hφ
 ·exact⟨rfl,(g3 rfl).2.1⟩
 ·exact h1 φ hφ
def Ok (P:Program) (base:Nat) (w0:World) (nt:Nat) (c:Code) (A:List Fact) (e:EA) (L:List Fact):Prop :=
 ∃q C f ps,dC P q base w0∧(∀n d,TabOkW P ((C n).T d) base w0)∧bJ P q nt C f c A L=some (ps,e,L)∧aS ps
section
variable {P:Program} {nt base:Nat} {w0:World} {Q:Exit→Act→World→Prop}
theorem Ok.wp (hm:P.follows .mixedOrders=true) {c:Code} {A L:List Fact} {e:EA} (h:Ok P base w0 nt c A e L) {a:Act} {w:World} (hA:Holds nt base w0 A a w) (hQ:∀a w,Holds nt base w0 L a w→Q e.out a w):c.wp P Q a w:=by
 obtain⟨q,C,f,ps,h1,h2,h3,h4⟩:=h;exact aE hm h2 h1 h3 h4 hA hQ
theorem EU (hm:P.follows .mixedOrders=true) {c:Code} (A:Nat→List Fact) (N:Nat) (hstep:∀i,i<N→Ok P base w0 nt c (A i) .nrm (A (i+1)))
  (e:EA) (he:e ≠ .nrm) (A':List Fact) (hend:Ok P base w0 nt c (A N) e A')
  {a:Act} {w:World} (hA:Holds nt base w0 (A 0) a w) (hQ:∀a w,Holds nt base w0 A' a w→Q e.out a w):(Code.loop c).wp P Q a w:=by
 have key:∀m i a w,i+m=N→Holds nt base w0 (A i) a w→Un P c Q (m+1) a w:=by
  intro m
  induction m with
  | zero =>
   intro i a w hi hA;have:i=N:=by omega
   subst this;unfold Un;refine hend.wp hm hA fun a w hA1 => ?_
   have:=hQ a w hA1;cases e with
   | nrm=>exact (he rfl).elim
   | ex id=>exact this
   | rt=>exact this
  | succ m ih =>
   intro i a w hi hA;unfold Un;exact (hstep i (by omega)).wp hm hA fun a w hA1=>ih (i+1) a w (by omega) hA1
 exact nE (key N 0 a w (by omega) hA)
end
theorem TabOkW.add {P:Program} {T:Tab} {base:Nat} {w0:World} (hT:TabOkW P T base w0) {f:Nat} {fn:Func} (hf:P.funcs[f]?=some fn) (hn:(fn.name == "runtime.NumGoroutine")=false) (hb:fn.body.isNone=false) {g:List CA→Option (List Prop×RV)}
  (h:∀w,Below base w0 w→∀cs pre r,g cs=some (pre,r)→aS pre→∀(args:List Value),cH w cs args→Calls P f args.toArray w (fun e w'=>e=.returned r.den∧Below w.heap.size w w')):TabOkW P (T.add f g) base w0:=by
 intro w hw f' cs pre r hg hp;unfold Tab.add at hg;cases hb':Nat.beq f' f<;>rw[hb']at hg
 ·exact hT w hw f' cs pre r hg hp
 ·cases Nat.eq_of_beq_eq_true hb';exact⟨eJ hf hn hb,h w hw cs pre r hg hp⟩
theorem oldOf.go {base:Nat} {w0 w:World} (hb:Below base w0 w) (hbase:base≤w0.heap.size) {b o:Nat} {l:List At} (h:b<base∧w0.rangeAt b o (aB l)):oldOf w b o l :=
 ⟨Nat.lt_of_lt_of_le h.1 (Nat.le_trans hbase hb.size),bI hb h.1 h.2⟩
def assoc {α:Type}:List (Nat×α)→Nat→Option α
 | [],_=>none
 | (k,v)::r,s=>bif Nat.beq k s then some v else assoc r s
def iI (n:Nat):Value:=.int .i64 (Int.ofNat n)
def bW (b o n m:Nat):Value:=.slice (some ⟨b,o,none⟩) n m
def ptV (b o:Nat):Value:=.pointer (some ⟨b,o,none⟩)
theorem pA {n:Nat} (h:n<9223372036854775808):IntKind.i64.wrap (n:Int)=n:=by rw[IntKind.wrap_i64]; omega
theorem Dg {i n:Nat}:aW .lss .i64 (Int.ofNat i) (Int.ofNat n)=some (.bool (decide (i<n))):=by
 show some (Value.bool (decide ((i:Int)<(n:Int))))=_
 by_cases h:i<n
 ·rw[decide_eq_true h,decide_eq_true (by omega)]
 ·rw[decide_eq_false h,decide_eq_false (by omega)]
theorem xL {i n:Nat} (h:i<n):aW .lss .i64 (Int.ofNat i) (Int.ofNat n)=some (.bool true):=by rw[Dg,decide_eq_true h]
theorem oR {i n:Nat} (h:n≤i):aW .lss .i64 (Int.ofNat i) (Int.ofNat n)=some (.bool false):=by rw[Dg,decide_eq_false (by omega)]
theorem IY {i k:Nat} (h:i+k<9223372036854775808):aW .add .i64 (Int.ofNat i) (Int.ofNat k)=some (iI (i+k)):=by
 show some (Value.int .i64 (IntKind.i64.wrap ((i:Int)+(k:Int))))=_;rw[show (i:Int)+(k:Int)=((i+k:Nat):Int) by omega,pA h];rfl
theorem tE {i k:Nat} (h:k≤i) (hi:i<9223372036854775808):aW .sub .i64 (Int.ofNat i) (Int.ofNat k)=some (iI (i-k)):=by
 show some (Value.int .i64 (IntKind.i64.wrap ((i:Int)-(k:Int))))=_;rw[show (i:Int)-(k:Int)=((i-k:Nat):Int) by omega,pA (by omega)];rfl
theorem Ps {i k:Nat} (h:i*k<9223372036854775808):aW .mul .i64 (Int.ofNat i) (Int.ofNat k)=some (iI (i*k)):=by
 show some (Value.int .i64 (IntKind.i64.wrap ((i:Int)*(k:Int))))=_;rw[show (i:Int)*(k:Int)=((i*k:Nat):Int) by simp,pA h];rfl
theorem Pr {i k:Nat} (hk:0<k) (h:i<9223372036854775808):aW .quo .i64 (Int.ofNat i) (Int.ofNat k)=some (iI (i/k)):=by
 show (if (k:Int)=0 then none else some (Value.int .i64 (IntKind.i64.wrap ((i:Int).tdiv (k:Int)))))=_;rw[if_neg (by omega),show (i:Int).tdiv (k:Int)=((i/k:Nat):Int)from rfl,pA (Nat.lt_of_le_of_lt (Nat.div_le_self _ _) h)];rfl
section
variable {E:Env} {ops big:Array Oper} {base:Nat} {w0:World} {A A':List Fact} {TF:List (Option Nat×Fact)} {rs:List Rec} {ps:List Prop} {Q:Exit→Act→World→Prop}
theorem zE {off:Nat} {R:List Nat} (hT:∀d,TabOkW E.P (E.T d) base w0) (hq:dC E.P E.q base w0) (hrun:uJ E false ops ops.toList 0 (A.map fun φ=>(none,φ)) [] []=some (ps,TF,rs)) (hps:aS ps) (hchk:Ld false ops rs=true)
  (hsub:∀i,i<ops.size→big[off+i]?=ops[i]?) (hg:∀(i:Nat) (o:Oper),ops[i]?=some o→o.guard=none)
  (hQ:∀a w,Inv E false ops base w0 TF rs (fun i=>i<ops.size) a w→wpOps E.P big Q R a w) :
  ∀(m k:Nat) (a:Act) (w:World),k+m=ops.size→Inv E false ops base w0 TF rs (fun i=>i<k) a w→wpOps E.P big Q (List.range' (off+k) m++R) a w
 | 0,k,a,w,hk,hI=>by
  have:k=ops.size:=by omega
  subst this;exact hQ a w hI
 | m+1,k,a,w,hk,hI=>by
  have hlt:k<ops.size:=by omega
  have ho:ops[k]?=some ops[k]:=Array.getElem?_eq_getElem hlt;have hst:=sJ hT hq hrun hps hchk (Q:=Q) hI ho (Nat.lt_irrefl k) (fun j hj=>by unfold UP at hj; simpa using hj);have hgk:=hg k _ ho;have hw1:∀y,Region.wanted ops[k] y=true:=fun y=>by unfold Region.wanted; rw[hgk]
  rw[if_pos (hw1 _)]at hst;simp only[List.range'_succ,List.cons_append,wpOps];rw[hsub k hlt,ho];simp only;have hnext:∀a' w',Inv E false ops base w0 TF rs (fun j=>j=k∨j<k) a' w'→wpOps E.P big Q (List.range' (off+k+1) m++R) a' w':=fun a' w' h=>by
   have:=zE hT hq hrun hps hchk hsub hg hQ m (k+1) a' w' (by omega) (by
    have:(fun j=>j<k+1)=fun j=>j=k∨j<k:=funext fun j=>propext (by omega)
    rwa [this])
   rwa [←Nat.add_assoc]at this
  rw[if_pos (hw1 _)];exact Or.inl (Oper.wp_mono hnext hst)
theorem EF {off:Nat} {R:List Nat} (hT:∀d,TabOkW E.P (E.T d) base w0) (hq:dC E.P E.q base w0) (h:LH E false ops A=some (ps,A')) (hps:aS ps)
  (hsub:∀i,i<ops.size→big[off+i]?=ops[i]?) (hg:ops.toList.all (fun o=>o.guard.isNone)=true) {a:Act} {w:World} (hA:Holds E.nt base w0 A a w)
  (hQ:∀a w,Holds E.nt base w0 A' a w→wpOps E.P big Q R a w):wpOps E.P big Q (List.range' off ops.size++R) a w:=by
 unfold LH at h;split at h
 ·rename_i ps' TF rs hrun;cases hc:(Ld false ops rs&&Pz false ops)<;>rw[hc]at h
  ·cases h
  ·cases h;rw[Bool.and_eq_true]at hc;have hg':∀(i:Nat) (o:Oper),ops[i]?=some o→o.guard=none:=fun i o ho=>by
    rw[List.all_eq_true]at hg;have:=hg o (Array.mem_toList_iff.2 (Array.mem_of_getElem? ho));simpa using this
   have:=zE (off:=off) (R:=R) (Q:=Q) hT hq hrun hps hc.1 hsub hg' (fun a w hI=>hQ a w (yF hrun (fun _ h=>h) hI)) ops.size 0 a w (by omega) (by
    have:(fun i=>i<0)=fun _:Nat=>False:=funext fun i=>propext ⟨fun h=>by omega,fun h=>h.elim⟩
    rw[this];exact pP hrun hA)
   rwa [Nat.add_zero]at this
 ·cases h
end
def jX (P:Program) (q:EqT) (nt:Nat) (c:Cfg) (ops:Array Oper) (A K:List Fact):Option (List Prop×List Fact) :=
 match LH (Uo P q nt c) false ops A with
 | some (ps,A1)=>match pick A1 K with|some L=>some (ps,L)|none=>none
 | none=>none
theorem AJ {P:Program} {q:EqT} {nt base off:Nat} {c:Cfg} {w0:World} {ops big:Array Oper} {A K L:List Fact} {ps:List Prop} {Q:Exit→Act→World→Prop} {R:List Nat} (hT:∀d,TabOkW P (c.T d) base w0) (hq:dC P q base w0) (h:jX P q nt c ops A K=some (ps,L)) (hps:aS ps)
  (hsub:∀i,i<ops.size→big[off+i]?=ops[i]?) (hg:ops.toList.all (fun o=>o.guard.isNone)=true) {a:Act} {w:World} (hA:Holds nt base w0 A a w)
  (hQ:∀a w,Holds nt base w0 L a w→wpOps P big Q R a w):wpOps P big Q (List.range' off ops.size++R) a w:=by
 unfold jX at h;split at h
 ·rename_i ps' A1 h1;split at h
  ·rename_i L' h2;cases h;exact EF (E:=Uo P q nt c) hT hq h1 hps hsub hg hA fun a w hA1=>hQ a w (hA1.sub (jK h2))
  ·cases h
 ·cases h
theorem bO {P:Program} {q:EqT} {nt base s e:Nat} {c:Cfg} {w0:World} {big:Array Oper} {A K L:List Fact} {ps:List Prop} {Q:Exit→Act→World→Prop} {R:List Nat} (hT:∀d,TabOkW P (c.T d) base w0) (hq:dC P q base w0) (h:jX P q nt c (big.extract s e) A K=some (ps,L)) (hps:aS ps)
  (hg:(big.extract s e).toList.all (fun o=>o.guard.isNone)=true) {a:Act} {w:World} (hA:Holds nt base w0 A a w)
  (hQ:∀a w,Holds nt base w0 L a w→wpOps P big Q R a w):wpOps P big Q (List.range' s (big.extract s e).size++R) a w :=
 AJ hT hq h hps (fun i hi=>by
  have hi':i<min e big.size-s:=by simpa using hi
  rw[Array.getElem?_extract,if_pos hi']) hg hA hQ
theorem eU {P:Program} {big:Array Oper} {Q:Exit→Act→World→Prop} {R:List Nat} {i:Nat} {o:Oper} (ho:big[i]?=some o) (hg:o.guard=none) {a:Act} {w:World} (h:o.wp P a w (fun a w=>wpOps P big Q R a w) Q):wpOps P big Q (i::R) a w:=by
 simp only[wpOps];rw[ho];simp only;have hw:∀y,Region.wanted o y=true:=fun y=>by unfold Region.wanted; rw[hg]
 rw[if_pos (hw _)];exact Or.inl h
def bP:Code→Array Oper
 | .region _ ops _=>ops
 | _ => #[]
section
variable {P:Program} {nt base:Nat} {w0:World} {A:List Fact} {a:Act} {w:World}
theorem Holds.im (h:Holds nt base w0 A a w) {s k o n m b:Nat} (h1:Fact.slot s (.sl k o n m)∈A) (h2:Fact.at k b∈A):Holds nt base w0 (.slot s (.im (bW b o n m))::A) a w:=by
 obtain⟨β,g1,g2,g3⟩:=h.facts;have e1:=g1 _ h1;have e2:=g1 _ h2;simp only[Fact.ok]at e1 e2;have up:∀k1 o1 l1,Fact.row k1 o1 l1∈(Fact.slot s (.im (bW b o n m))::A)→Fact.row k1 o1 l1∈A:=fun k1 o1 l1 e=>by
  rcases List.mem_cons.1 e with e|e
  ·cases e
  ·exact e
 refine⟨h.defers,h.size,h.below,h.heap,β,fun φ hφ => ?_,fun k1 k2 o2 l1 l2 q1 q2=>g2 k1 k2 o2 l1 l2 (up _ _ _ q1) (up _ _ _ q2),fun k1 l1 e=>g3.1 k1 l1 (up _ _ _ e),g3.2⟩
 rcases List.mem_cons.1 hφ with rfl|hφ
 ·show a.tmps[s]?=_;rw[e1];simp[AV.den,e2,bW]
 ·exact g1 φ hφ
theorem Holds.old (h:Holds nt base w0 A a w) {k b:Nat} {l:List At} (h1:Fact.row k true l∈A) (h2:Fact.at k b∈A):oldOf w b 0 l:=by
 obtain⟨β,g1,g2⟩:=h.facts;obtain⟨e1,e2,_⟩:=g1 _ h1;have e3:=g1 _ h2;simp only[Fact.ok]at e3;rw[e3.1]at e1 e2;rw[e3.2]at e2;exact⟨e1,e2⟩
theorem Holds.slot (h:Holds nt base w0 A a w) {s:Nat} {v:Value} (h1:Fact.slot s (.im v)∈A):a.tmps[s]?=some v:=by
 obtain⟨β,g1,g2⟩:=h.facts;exact g1 _ h1
theorem Holds.slotF (h:Holds nt base w0 A a w) {s:Nat} {l:List At} (h1:Fact.slot s (.fl l)∈A):a.tmps[s]?=some (.agg (aB l).toArray):=by
 obtain⟨β,g1,g2⟩:=h.facts;exact g1 _ h1
theorem Holds.put (h:Holds nt base w0 A a w) {w':World} (hb:Below w.heap.size w w') {d:Nat} (hd:d<nt) (v:TV) (hA:∀φ∈A,iN (some d) none φ=false):Holds nt base w0 (.slot d v.av::A) (a.put (some d) v.den) w':=by
 obtain⟨β,g1,g2,g3,gt⟩:=h.facts;have hP:=pY (base:=base) (β:=β) (a:=a) (w:=w) (w':=w') (M:=A) v.av (d:=d) (by rw[h.size]; exact hd) h.heap hb;rw[TV.av_den]at hP;have up:∀k1 o1 l1,Fact.row k1 o1 l1∈(Fact.slot d v.av::A)→Fact.row k1 o1 l1∈A:=fun k1 o1 l1 e=>by
  rcases List.mem_cons.1 e with e|e
  ·cases e
  ·exact e
 refine⟨by rw[iF]; exact h.defers,by rw[cJ]; exact h.size,h.below.trans (hb.mono h.heap),Nat.le_trans h.heap hb.size,β,fun φ hφ => ?_,fun k1 k2 o2 l1 l2 q1 q2=>g2 k1 k2 o2 l1 l2 (up _ _ _ q1) (up _ _ _ q2),fun k1 l1 e=>g3 k1 l1 (up _ _ _ e),Nat.le_trans gt.size hb.size,fun p h1 h2 => ?_,gt.shape.trans (Shape.below hb)⟩
 ·rcases List.mem_cons.1 hφ with rfl|hφ
  ·exact hP.ok _ (List.mem_singleton.2 rfl)
  ·exact Iv hP (g1 φ hφ) (hA φ hφ) fun kk k own l q=>by cases q
 ·have hlt:=Nat.lt_of_lt_of_le h2 gt.size;have:=gt.mem p h1 h2;exact⟨(hb.cell hlt).trans this.1,(hb.frozen hlt).trans this.2⟩
end
def gO (f:Nat→List At):Nat→Nat→List At
 | _,0=>[]
 | s,n+1=>f s++gO f (s+1) n
theorem mD {f:Nat→List At} {c:Nat} (h:∀j,eS (f j)=c):∀n s,eS (gO f s n)=n*c
 | 0,s=>by simp[gO,eS]
 | n+1,s=>by
  show eS (f s++gO f (s+1) n)=_;rw[nR,h,mD h n,Nat.add_mul,Nat.one_mul,Nat.add_comm]
theorem wH (f:Nat→List At):∀(i n s:Nat),i<n→gO f s n=gO f s i++(f (s+i)++gO f (s+i+1) (n-i-1))
 | 0,n+1,s,_=>rfl
 | i+1,n+1,s,h=>by
  have:=wH f i n (s+1) (by omega);show f s++gO f (s+1) n=(f s++gO f (s+1) i)++_;rw[this,List.append_assoc,show s+1+i=s+(i+1) by omega,show n+1-(i+1)-1=n-i-1 by omega]
theorem PS (a:At):0<a.sz:=by cases a<;>exact Nat.succ_pos _
theorem PP:∀(A X:List At),tk (A++X) (eS A)=some A
 | [],X=>by cases X<;>rfl
 | a::r,X=>by
  have h:=PS a;show tk (a::(r++X)) (a.sz+eS r)=_;unfold tk;rw[show Nat.beq (a.sz+eS r) 0=false by cases hq:Nat.beq (a.sz+eS r) 0; rfl; exact absurd (Nat.eq_of_beq_eq_true hq) (by omega),show Nat.ble a.sz (a.sz+eS r)=true by simp,Nat.add_sub_cancel_left,PP r X];rfl
theorem UL:∀(A X:List At),dp (A++X) (eS A)=some X
 | [],X=>by cases X<;>rfl
 | a::r,X=>by
  have h:=PS a;show dp (a::(r++X)) (a.sz+eS r)=_;unfold dp;rw[show Nat.beq (a.sz+eS r) 0=false by cases hq:Nat.beq (a.sz+eS r) 0; rfl; exact absurd (Nat.eq_of_beq_eq_true hq) (by omega),show Nat.ble a.sz (a.sz+eS r)=true by simp,Nat.add_sub_cancel_left];exact UL r X
theorem XH (A m s:List At) {o n:Nat} (ho:o=eS A) (hn:n=eS m):CM (A++(m++s)) o n=some m:=by
 subst ho; subst hn;unfold CM;rw[UL];exact PP m s
theorem XI {f:Nat→List At} {c N i o:Nat} (h:∀j,eS (f j)=c) (hi:i<N) (ho:o=i*c):CM (gO f 0 N) o c=some (f i):=by
 rw[wH f i N 0 hi,Nat.zero_add];exact XH _ _ _ (by rw[mD h,ho]) (h i).symm
def Zs (f:Nat→List At) (z:List At) (N i:Nat):List At:=gO f 0 i++gO (fun _=>z) i (N-i)
theorem LO {w:World} {b o:Nat} {f:Nat→List At} {c N i:Nat} (h:∀j,eS (f j)=c) (hi:i<N) (hr:w.rangeAt b o (aB (gO f 0 N))):w.rangeAt b (o+i*c) (aB (f i)) :=
 mM hr (XI h hi rfl)
def CK (l:List Value) (v:Value):Prop:=l=List.replicate l.length v
theorem QF {l m:List Value} {v:Value} (h:CK l v) (k:CK m v):CK (l++m) v:=by
 unfold CK at *;rw[h,k];simp[List.replicate_append_replicate]
theorem BY {z:List At} {v:Value} (h:CK (aB z) v):∀n s,CK (aB (gO (fun _=>z) s n)) v
 | 0,s=>rfl
 | n+1,s=>by
  show CK (aB (z++gO (fun _=>z) (s+1) n)) v;rw[aL];exact QF h (BY h n (s+1))
theorem Zr {P:Program} {t e:TypeId} {i:TypeInfo} {zv:Value} {z:List At} {v:Value} {N:Nat} (ht:P.underlying t=some (.slice e)) (hi:P.info? e=some i) (hz:i.zero=some zv) (hs:i.size=eS z) (hv:zv.cells.toList=List.replicate i.size v) (hsame:CK (aB z) v) (h0:0<eS z)
  (hb:i.bytes*N≤281474976710656) (hN:N<4611686018427387904) :
  ∃e,∀w:World,(Instr.makeSlice t (iI N) (iI N)).run P w=.ok (.slice (some ⟨w.heap.size,0,none⟩) N N) (w.alloc (.cells (aB (gO (fun _=>z) 0 N)).toArray e)):=by
 refine⟨e,fun w => ?_⟩;have hr:=Go.run_make (P:=P) w t e i zv ht hi hz .i64 .i64 (N:Int) (N:Int) (by omega) (Int.le_refl _) (by rw[←Int.natCast_mul]; omega) (by omega);refine Eq.trans hr ?_;have hsz:zv.cells.size=i.size:=by rw[←Array.length_toList,hv,List.length_replicate]
 have hc:madeCells zv.cells (N*i.size)=(aB (gO (fun _=>z) 0 N)).toArray:=by
  have hl:=mD (f:=fun _=>z) (c:=eS z) (fun _=>rfl) N 0;have h2:=BY hsame N 0;rw[h2,aJ,hl,←hs];unfold madeCells;apply Array.ext
  ·simp
  ·intro j h1 h3;simp only[Array.getElem_map,Array.getElem_range,List.getElem_toArray,List.getElem_replicate];have hj:j%zv.cells.size<zv.cells.size:=Nat.mod_lt _ (by rw[hsz,hs]; exact h0);have e1:zv.cells.toList[j%zv.cells.size]?=some v:=by
    rw[hv,List.getElem?_replicate,if_pos (by omega)]
   rw[Array.getElem?_toList]at e1;rw[getElem!_def,e1]
 simp only[Int.toNat_natCast,hc]
theorem gH {P:Program} {id:Nat} {ops:Array Oper} {l:List Nat} (hl:List.range ops.size=l) {Q:Exit→Act→World→Prop} {a:Act} {w:World} (h:wpOps P ops Q l a w):(Code.region id ops false).wp P Q a w:=wp_region (by rw[hl]; exact h)
theorem iB {P:Program} {fn:Func} {A:List Fact} {l:List TV} {r:RV} {nt base:Nat} {w0:World} (h1:iT P A fn.results.toList=some l) (h2:rv l=some r) {a:Act} {w':World} (hA:Holds nt base w0 A a w') {R:Ending→World→Prop} (hR:R (.returned r.den) w'):bodyPost P fn R .ret a w':=by
 obtain⟨β',hok,_⟩:=hA.facts;have hres:(results fn a.tmps).run P w'=.ok r.den w':=by
  have:=gJ hok h1;show ((fn.results.mapM (lG a.tmps)) >>= fun vs=>pure (if h:vs.size=1 then vs[0]else .tuple vs):Sem Value).run P w'=_;have hm:(List.toArray <$> fn.results.toList.mapM (lG a.tmps)).run P w'=.ok (l.map TV.den).toArray w':=by simp[this]
  rw[Array.mapM_eq_mapM_toList,Sem.run_bind,hm,Result.andThen_ok,Sem.run_pure];exact congrArg (fun x=>Result.ok x w') (wX h2)
 exact⟨hA.defers,_,hres,hR⟩
theorem Holds.now {nt base:Nat} {w0:World} {A:List Fact} {a:Act} {w:World} (h:Holds nt base w0 A a w):Holds nt base w A a w:=by
 obtain⟨β,h1,h2,h3,h4⟩:=h.facts;exact⟨h.defers,h.size,Below.refl _ _,h.heap,β,h1,h2,h3,h4.size,fun _ _ _=>⟨rfl,rfl⟩,Shape.refl _⟩
theorem WrAt.refl (w:World) (b:Nat):WrAt w w b []:=⟨rfl,rfl,rfl,Nat.le_refl _,fun _ _ _=>rfl,Shape.refl _,fun _=>rfl⟩
theorem WrAt.below {w w1 w2:World} {b:Nat} (hb:b<w.heap.size) (h:WrAt w w1 b []) (h2:Below w.heap.size w1 w2):WrAt w w2 b [] :=
 ⟨h2.os.trans h.os,h2.tape.trans h.tape,h2.output.trans h.output,Nat.le_trans h.size h2.size,fun k hk hne=>(h2.block k hk).trans (h.block k hk hne),
  ⟨fun q cur e hq=>by
   obtain⟨c,h3,h4⟩:=h.shape.1 q cur e hq;exact⟨c,(h2.block q (Array.getElem?_eq_some_iff.1 hq).1).trans h3,h4⟩,Nat.le_trans h.size h2.size,fun q o hq ho=>(h2.block q (Array.getElem?_eq_some_iff.1 hq).1).trans (h.shape.2.same q o hq ho)⟩,fun j=>(World.frozen?_of_block (h2.block b hb)).trans (h.frozen j)⟩
theorem lD (b:Nat):∀(vs:List Value) (o:Nat) (w:World) (k:Nat),k≠b→(w.setCells b o vs).heap[k]?=w.heap[k]?
 | [],_,_,_,_=>rfl
 | v::r,o,w,k,h=>by
  rw[World.setCells,lD b r (o+1) _ k h];exact Below.heap_setCell w _ v k h
theorem iR (b:Nat):∀(vs:List Value) (o:Nat) (w:World),(w.setCells b o vs).os=w.os∧(w.setCells b o vs).tape=w.tape∧(w.setCells b o vs).output=w.output
 | [],_,_=>⟨rfl,rfl,rfl⟩
 | v::r,o,w=>by rw[World.setCells]; exact iR b r (o+1) _
theorem WrAt.set {w w1:World} {b:Nat} (h:WrAt w w1 b []) (o:Nat) (vs:List Value):WrAt w (w1.setCells b o vs) b [] :=
 ⟨(iR b vs o w1).1.trans h.os,(iR b vs o w1).2.1.trans h.tape,(iR b vs o w1).2.2.trans h.output,by rw[cZ]; exact h.size,fun k hk hne=>(lD b vs o w1 k hne).trans (h.block k hk hne),
  h.shape.trans (eG b vs o w1),fun j=>by rw[World.frozen?_setCells]; exact h.frozen j⟩
theorem Holds.post {nt base:Nat} {w0:World} {A:List Fact} {a:Act} {w:World} (h:Holds nt base w0 A a w) {dst kill:Option Nat} {out:List Fact} {a':Act} {w':World}
  (hP:∀β,(∀φ∈A,φ.ok base β a w)→∃β',PostB base β β' a w dst A out kill a' w') (hd:iH dst nt=false:=by kernel_rfl):Holds nt base w0 (out++A.filter (fun φ => !(iN dst kill φ))) a' w':=by
 obtain⟨β,g1,g2,g3,gt⟩:=h.facts;obtain⟨β',P⟩:=hP β g1;have hkill:∀φ∈A,iN dst kill φ=false→∀kk k own l,kill=some kk→φ=.row k own l→(β kk).1≠(β k).1:=fun φ hφ hc kk k own l hkk e=>by
  obtain⟨l0,hl0⟩:=P.kills kk hkk;have hne:kk≠k:=fun e2=>by
   rw[e]at hc;simp only[iN,Bool.or_eq_false_iff]at hc;have:=dE.2 (e2▸hkk:kill=some k);rw[hc.2]at this; cases this
  subst e;exact g2 kk k own l0 l hl0 hφ hne
 have hmem:∀φ∈A.filter (fun φ => !(iN dst kill φ)),φ∈A∧iN dst kill φ=false:=fun φ hφ=>by
  obtain⟨h1,h2⟩:=List.mem_filter.1 hφ;exact⟨h1,by simpa using h2⟩
 have hβ:∀k own l,Fact.row k own l∈A.filter (fun φ => !(iN dst kill φ))→β' k=β k:=fun k own l hφ=>by
  obtain⟨_,hc⟩:=hmem _ hφ;simp only[iN,Bool.or_eq_false_iff]at hc;exact P.beta k fun e=>by have:=dE.2 e; rw[hc.1]at this; cases this
 have hno:∀k l k' o' l',Fact.row k true l∈out→Fact.row k' o' l'∈A.filter (fun φ => !(iN dst kill φ))→k≠k'→(β' k).1≠(β' k').1:=fun k l k' o' l' hk hk' hne=>by
  rw[hβ k' o' l' hk'];obtain⟨hA',hc⟩:=hmem _ hk'
  rcases P.rows k l hk with⟨h2,_⟩|⟨h2,l0,h3⟩|⟨h2,k0,l0,hk0,he,h3⟩
  ·have:=(g1 _ hA').1;omega
  ·rw[P.beta k h2];exact g2 k k' o' l0 l' h3 hA' hne
  ·rw[he];refine g2 k0 k' o' l0 l' h3 hA' fun e => ?_
   subst e;simp only[iN,Bool.or_eq_false_iff]at hc;have:=dE.2 hk0;rw[hc.2]at this; cases this
 have hnt:β' nt=β nt:=P.beta nt fun e=>by have:=dE.2 e; rw[hd]at this; cases this
 refine⟨by rw[P.defers]; exact h.defers,by rw[P.size]; exact h.size,P.below w0 h.below,Nat.le_trans h.heap P.heap,β',fun φ hφ => ?_,fun k k' o' l l' hk hk' hne => ?_,fun k l hk => ?_,by rw[hnt]; exact Nat.le_trans gt.size P.heap,fun p q1 q2 => ?_,gt.shape.trans P.shape⟩
 ·rcases List.mem_append.1 hφ with hφ|hφ
  ·exact P.ok φ hφ
  ·obtain⟨h1,h2⟩:=hmem φ hφ;exact Iv P (g1 φ h1) h2 (hkill φ h1 h2)
 ·rcases List.mem_append.1 hk with hk|hk
  ·rcases List.mem_append.1 hk' with hk'|hk'
   ·cases o' with
    | true=>exact absurd (P.one k k' l l' hk hk') hne
    | false=>exact (P.onlyOwn k' l' hk').elim
   ·exact hno k l k' o' l' hk hk' hne
  ·rcases List.mem_append.1 hk' with hk'|hk'
   ·cases o' with
    | true=>exact fun e=>hno k' l' k true l hk' hk (Ne.symm hne) e.symm
    | false=>exact (P.onlyOwn k' l' hk').elim
   ·rw[hβ k true l hk,hβ k' o' l' hk'];exact g2 k k' o' l l' (hmem _ hk).1 (hmem _ hk').1 hne
 ·rw[hnt]
  rcases List.mem_append.1 hk with hk|hk
  ·rcases P.rows k l hk with⟨h2,_⟩|⟨h2,l0,h3⟩|⟨h2,k0,l0,hk0,he,h3⟩
   ·exact Or.inr (Nat.le_trans gt.size h2)
   ·rw[P.beta k h2];exact g3 k l0 h3
   ·rw[he];exact g3 k0 l0 h3
  ·rw[hβ k true l hk];exact g3 k l (hmem _ hk).1
 ·rw[hnt]at q2;have h3:=P.mem p (Nat.lt_of_lt_of_le q2 gt.size) fun kk hkk e=>by
   obtain⟨l0,hl0⟩:=P.kills kk hkk
   rcases g3 kk l0 hl0 with h4|h4<;>omega
  have h4:=gt.mem p q1 q2;exact⟨h3.1.trans h4.1,h3.2.trans h4.2⟩
theorem jS {P:Program} {o:Oper} {a:Act} {w:World} {K:Act→World→Prop} {Q:Exit→Act→World→Prop} {id:Nat} {xs:Array Operand} {ts:Array TypeId} {vs:List Value} {R:Ending→World→Prop} (ho:o.op=.call ⟨.value (.func id),xs,ts⟩) (hv:xs.toList.map a.eval=vs)
  (he:∀xs,(callFunc id xs).run P w=.ok (.enter id xs) w) (hc:Calls P id vs.toArray w R) (hK:∀e w',R e w'→∃v,e=.returned v∧K (a.put o.dst v) w'):o.wp P a w K Q:=by
 have ea:xs.map a.eval=vs.toArray:=by rw[←Array.toArray_toList (xs:=xs.map a.eval),Array.toList_map,hv]
 have hrun:(execOp a.eval o).run P w=.ok (.enter id vs.toArray) w:=by
  have hf:a.eval (.func id)=.func (.func id) #[] #[]:=rfl;simp[execOp,ho,resolve,Deferred.ofValue,hf,invoke,ea,he]
 unfold Oper.wp;rw[hrun];refine Calls.mono hc ?_;intro e w' hr;obtain⟨v,rfl,hk⟩:=hK e w' hr;exact hk
end Go.Proofs.YtpjlhhpjpnacmaaGreat.Ex
namespace Go.Proofs.YtpjlhhpjpnacmaaGreat
open Go.Proofs.Tryz
open Go.RowKit
theorem pQ (x y c:Nat) (hc:c≤1) (w:World) :
  (callFunc 123 #[.int .u64 (x:Int),.int .u64 (y:Int),.int .u64 (c:Int)]).run prog w =
   .ok (.value (.tuple #[.int .u64 (GQ x y c:Nat),.int .u64 (GR x y c:Nat)])) w:=by
 rw[run_callFunc_extern func123 (by kernel_rfl) (by kernel_rfl) (by kernel_rfl) (e:=add64Entry) (by kernel_rfl),run_add64 x y c (by omega) (by omega) (by omega) (by omega)];simp only[Result.andThen];unfold GQ GR;congr 5<;>omega
theorem DH (x y:Nat) (w:World) :
  (callFunc 123 #[.int .u64 (x:Int),.int .u64 (y:Int),.int .u64 0]).run prog w =
   .ok (.value (.tuple #[.int .u64 (GQ x y 0:Nat),.int .u64 (GR x y 0:Nat)])) w:=pQ x y 0 (by omega) w
def PT:Array Value→Sem Value:=fun args=>do
 let (x,y,b) ←Extern.MathBitsCarry.three "Sub64" args
 pure (Extern.MathBitsCarry.pair ((x+Extern.MathBitsCarry.m64-y-b)%Extern.MathBitsCarry.m64) (if x<y+b then 1 else 0))
theorem DD {P:Program} (x y b:Nat) (hb:b≤1) (w:World) :
  (PT #[.int .u64 x,.int .u64 y,.int .u64 b]).run P w=.ok (.tuple #[.int .u64 (CW x y b:Nat),.int .u64 (CX x y b:Nat)]) w:=by
 have:b=0∨b=1:=by omega
 rcases this with rfl|rfl<;>rfl
theorem uY (x y c:Nat) (hc:c≤1) (w:World) :
  (callFunc 89 #[.int .u64 (x:Int),.int .u64 (y:Int),.int .u64 (c:Int)]).run prog w =
   .ok (.value (.tuple #[.int .u64 (CW x y c:Nat),.int .u64 (CX x y c:Nat)])) w:=by
 rw[run_callFunc_extern func89 (by kernel_rfl) (by kernel_rfl) (by kernel_rfl) (e:=PT) (by kernel_rfl),DD x y c hc];rfl
theorem DG (x y:Nat) (w:World) :
  (callFunc 89 #[.int .u64 (x:Int),.int .u64 (y:Int),.int .u64 0]).run prog w =
   .ok (.value (.tuple #[.int .u64 (CW x y 0:Nat),.int .u64 (CX x y 0:Nat)])) w:=uY x y 0 (by omega) w
theorem tU {x y c:Nat} (hx:x<18446744073709551616) (hy:y<18446744073709551616) (hc:c≤1):∃d b:Nat,(∀w,(callFunc 123 #[.int .u64 (x:Int),.int .u64 (y:Int),.int .u64 (c:Int)]).run prog w =
   .ok (.value (.tuple #[.int .u64 (d:Int),.int .u64 (b:Int)])) w)∧d<18446744073709551616∧b≤1∧Hid (d+18446744073709551616*b=x+y+c) :=
 ⟨_,_,pQ x y c hc,yP _ _ _,yQ hx hy hc,VV x y c⟩
theorem qH {x y:Nat} (hx:x<18446744073709551616) (hy:y<18446744073709551616):∃d b:Nat,(∀w,(callFunc 123 #[.int .u64 (x:Int),.int .u64 (y:Int),.int .u64 0]).run prog w =
   .ok (.value (.tuple #[.int .u64 (d:Int),.int .u64 (b:Int)])) w)∧d<18446744073709551616∧b≤1∧Hid (d+18446744073709551616*b=x+y) :=
 ⟨_,_,DH x y,yP _ _ _,yQ hx hy (Nat.zero_le _),VV x y 0⟩
theorem jN {x y c:Nat} (hx:x<18446744073709551616) (hy:y<18446744073709551616) (hc:c≤1):∃d b:Nat,(∀w,(callFunc 89 #[.int .u64 (x:Int),.int .u64 (y:Int),.int .u64 (c:Int)]).run prog w =
   .ok (.value (.tuple #[.int .u64 (d:Int),.int .u64 (b:Int)])) w)∧d<18446744073709551616∧b≤1∧Hid (d+y+c=x+18446744073709551616*b) :=
 ⟨_,_,uY x y c hc,IB _ _ _,IC _ _ _,Cv hx hy hc⟩
theorem vX {x y:Nat} (hx:x<18446744073709551616) (hy:y<18446744073709551616):∃d b:Nat,(∀w,(callFunc 89 #[.int .u64 (x:Int),.int .u64 (y:Int),.int .u64 0]).run prog w =
   .ok (.value (.tuple #[.int .u64 (d:Int),.int .u64 (b:Int)])) w)∧d<18446744073709551616∧b≤1∧Hid (d+y=x+18446744073709551616*b) :=
 ⟨_,_,DG x y,IB _ _ _,IC _ _ _,Cv hx hy (Nat.zero_le _)⟩
def KV (A B:Nat) (w:World) (e:Ending) (w':World):Prop :=
 ∃s0 s1 s2 s3 c:Nat,e=.returned (.tuple #[.agg #[.int .u64 s0,.int .u64 s1,.int .u64 s2,.int .u64 s3],.int .u64 c])∧aZ s0 s1 s2 s3∧c≤1∧aA s0 s1 s2 s3+115792089237316195423570985008687907853269984665640564039457584007913129639936*c=A+B∧Below w.heap.size w w'
def KS (A B:Nat) (w:World) (e:Ending) (w':World):Prop :=
 ∃s0 s1 s2 s3 c:Nat,e=.returned (.tuple #[.agg #[.int .u64 s0,.int .u64 s1,.int .u64 s2,.int .u64 s3],.int .u64 c])∧aZ s0 s1 s2 s3∧c≤1∧aA s0 s1 s2 s3+B=A+115792089237316195423570985008687907853269984665640564039457584007913129639936*c∧Below w.heap.size w w'
theorem uV (a0 a1 a2 a3 b0 b1 b2 b3:Nat) (ha:aZ a0 a1 a2 a3) (hb:aZ b0 b1 b2 b3) (w:World) :
  Calls prog 67 #[.agg #[.int .u64 a0,.int .u64 a1,.int .u64 a2,.int .u64 a3],.agg #[.int .u64 b0,.int .u64 b1,.int .u64 b2,.int .u64 b3]] w (KS (aA a0 a1 a2 a3) (aA b0 b1 b2 b3) w):=by
 obtain⟨s0,c0,r0,bs0,bc0,e0⟩:=vX ha.1 hb.1;obtain⟨s1,c1,r1,bs1,bc1,e1⟩:=jN ha.2.1 hb.2.1 bc0;obtain⟨s2,c2,r2,bs2,bc2,e2⟩:=jN ha.2.2.1 hb.2.2.1 bc1;obtain⟨s3,c3,r3,bs3,bc3,e3⟩:=jN ha.2.2.2 hb.2.2.2 bc2
 go_enter func67,ntmps67
 go_wp2
 refine wp_loop_rounds 5 ?_;rw[rounds_succ]
 go_wp2
 go_region
 go_wp2
 rw[rounds_succ]
 go_wp2
 go_region
 go_wp2
 rw[rounds_succ]
 go_wp2
 go_region
 go_wp2
 rw[rounds_succ]
 go_wp2
 go_region
 go_wp2
 rw[rounds_succ]
 go_wp2
 refine bodyPost_ret (v:=.tuple #[.agg #[.int .u64 s0,.int .u64 s1,.int .u64 s2,.int .u64 s3],.int .u64 c3]) (by simp[results,results67,go_sem]) rfl ?_;refine⟨_,_,_,_,_,rfl,⟨bs0,bs1,bs2,bs3⟩,bc3,by have:=e0.out; have:=e1.out; have:=e2.out; have:=e3.out; unfold aA; omega,?_⟩
 repeat (first|exact Below.refl _ _|refine Below.drew ?_|refine Below.alloc ?_ (by first|(simp; done)|(simp; omega)) _)
theorem rI {W w1:World} (hb:Below W.heap.size W w1):(∀b o,b<W.heap.size→w1.cell? ⟨b,o,none⟩=W.cell? ⟨b,o,none⟩)∧(∀b o,b<W.heap.size→w1.frozen? ⟨b,o,none⟩=W.frozen? ⟨b,o,none⟩) :=
 ⟨fun b o h=>hb.cell (p:=⟨b,o,none⟩) h,fun b o h=>hb.frozen (p:=⟨b,o,none⟩) h⟩
def yC (a0 a1 a2 a3 b0 b1 b2 b3:Nat):Bool:=decide (a0=b0∧a1=b1∧a2=b2∧a3=b3)
theorem pG (d:Nat) (a0 a1 a2 a3 b0 b1 b2 b3:Nat) (w:World):(Op.equalIn (d+1+1) 27 (.agg #[.int .u64 a0,.int .u64 a1,.int .u64 a2,.int .u64 a3]) (.agg #[.int .u64 b0,.int .u64 b1,.int .u64 b2,.int .u64 b3])).run prog w=.ok (yC a0 a1 a2 a3 b0 b1 b2 b3) w:=by
 have h0:∀(x y:Int) (w:World),(Op.equalIn (d+1) 22 (.int .u64 x) (.int .u64 y)).run prog w=.ok (x==y) w:=fun x y w=>run_equalIn_int w d 22 .u64 .u64 x y underlying22
 rw[Op.equalIn];simp only[Sem.run_bind,run_underlying underlying27,Result.andThen_ok,Tryz.sizeOf22];simp[Std.Legacy.Range.forIn_eq_forIn_range',Std.Legacy.Range.size,List.range',part,h0,Sem.run_bind,Result.andThen_ok];unfold yC
 by_cases q0:a0=b0<;>by_cases q1:a1=b1<;>by_cases q2:a2=b2<;>by_cases q3:a3=b3<;>simp[q0,q1,q2,q3]<;>omega
theorem BN:prog.eqGuardType prog.depth 27=false:=by kernel_rfl
theorem gD {a0 a1 a2 a3 b0 b1 b2 b3:Nat} (ha:aZ a0 a1 a2 a3) (hb:aZ b0 b1 b2 b3):yC a0 a1 a2 a3 b0 b1 b2 b3=true↔aA a0 a1 a2 a3=aA b0 b1 b2 b3:=by
 unfold yC; rw[decide_eq_true_iff];exact⟨fun⟨h0,h1,h2,h3⟩=>by rw[h0,h1,h2,h3],yT ha hb⟩
def bF (A B:Nat):Int:=if A=B then 0 else if A<B then -1 else 1
theorem wD (a0 a1 a2 a3 b0 b1 b2 b3:Nat) (ha:aZ a0 a1 a2 a3) (hb:aZ b0 b1 b2 b3) (w:World) :
  Calls prog 35 #[.agg #[.int .u64 a0,.int .u64 a1,.int .u64 a2,.int .u64 a3],.agg #[.int .u64 b0,.int .u64 b1,.int .u64 b2,.int .u64 b3]] w fun e w'=>e=.returned (.int .i64 (bF (aA a0 a1 a2 a3) (aA b0 b1 b2 b3)))∧Below w.heap.size w w':=by
 have hE:=fun w=>pG 9998 a0 a1 a2 a3 b0 b1 b2 b3 w
 have hG:=BN;have hi:=gD ha hb;cases q:yC a0 a1 a2 a3 b0 b1 b2 b3
 ·rw[q]at hE hi;have hn:¬aA a0 a1 a2 a3=aA b0 b1 b2 b3:=fun h=>by simpa using hi.2 h
  have hfin1:aA a0 a1 a2 a3<aA b0 b1 b2 b3→bF (aA a0 a1 a2 a3) (aA b0 b1 b2 b3) = -1:=fun h=>by unfold bF; rw[if_neg hn,if_pos h]
  have hfin2:¬aA a0 a1 a2 a3<aA b0 b1 b2 b3→bF (aA a0 a1 a2 a3) (aA b0 b1 b2 b3)=1:=fun h=>by unfold bF; rw[if_neg hn,if_neg h]
  have HF1:=Lib.hid hfin1; have HF2:=Lib.hid hfin2;have vb:=cE hb;have va:=cE ha;clear q hi hn hfin1 hfin2
  go_enter func35,ntmps35
  go_wp2_with fail;refine (uV a0 a1 a2 a3 b0 b1 b2 b3 ha hb _).mono ?_
  rintro e w1 ⟨s0,s1,s2,s3,c,rfl,hs,hc,hv,hbl⟩
  have HV:=Lib.hid hv; clear hv;have vs:=cE hs;have hc':c=0∨c=1:=by omega
  rcases hc' with rfl|rfl
  ·go_wp2
   go_ret;exact⟨by rw[HF2.out (by have:=HV.out; omega)]; rfl,((((Below.refl _ _).alloc (Nat.le_refl _) _).alloc (by simp) _).trans (hbl.mono (by simp; omega))).alloc (by have:=hbl.size; simp at this; omega) _⟩
  ·go_wp2
   go_ret;exact⟨by rw[HF1.out (by have:=HV.out; omega)]; rfl,((((Below.refl _ _).alloc (Nat.le_refl _) _).alloc (by simp) _).trans (hbl.mono (by simp; omega))).alloc (by have:=hbl.size; simp at this; omega) _⟩
 ·rw[q]at hE hi;have hn:aA a0 a1 a2 a3=aA b0 b1 b2 b3:=hi.1 rfl;have HF:=Lib.hid (show bF (aA a0 a1 a2 a3) (aA b0 b1 b2 b3)=0 by unfold bF; rw[if_pos hn]);clear q hi hn
  go_enter func35,ntmps35
  go_wp2_with fail;go_ret;exact⟨by rw[HF.out]; rfl,(((Below.refl _ _).alloc (Nat.le_refl _) _).alloc (by simp) _)⟩
end Go.Proofs.YtpjlhhpjpnacmaaGreat
namespace Go.Proofs
open Go.Shelf
def Tryz.lays129_ren:Go.Shelf.Ren:=⟨fun|129=>118|n=>n,fun|53=>22|3=>3|4=>4|46=>77|5=>5|9=>9|n=>n,fun|n=>n⟩
theorem Tryz.lays129:Go.Proofs.Lays.n129 prog Tryz.lays129_ren:={
 mixed:=by kernel_rfl
 f129:=func118.trans (congrArg some (by kernel_rfl))
 t3:=underlying3
 a3:=Tryz.isAgg3
 z3:=Tryz.sizeOf3
 v3:=Tryz.zeroValue3
 t4:=underlying4
 a4:=Tryz.isAgg4
 z4:=Tryz.sizeOf4
 v4:=Tryz.zeroValue4
 t5:=underlying5
 a5:=Tryz.isAgg5
 z5:=Tryz.sizeOf5
 v5:=Tryz.zeroValue5
 t9:=underlying9
 a9:=Tryz.isAgg9
 z9:=Tryz.sizeOf9
 v9:=Tryz.zeroValue9
 t46:=underlying77
 a46:=Tryz.isAgg77
 z46:=Tryz.sizeOf77
 v46:=Tryz.zeroValue77
 t53:=underlying22
 a53:=Tryz.isAgg22
 z53:=Tryz.sizeOf22
 v53:=Tryz.zeroValue22 }
theorem Tryz.bits_Len64 (x:Int) (w:World) (h0:0≤x) (h1:x≤18446744073709551615) :
  Calls prog 118 #[.int .u64 x] w fun e w'=>e=.returned (.int .i64 (Lib.bitLen x.toNat))∧w'=w:=Any.bits_Len64 Tryz.lays129 x w h0 h1
def Tryz.lays264_ren:Go.Shelf.Ren:=⟨fun|264=>137|n=>n,fun|53=>22|46=>77|n=>n,fun|n=>n⟩
theorem Tryz.lays264:Go.Proofs.Lays.n264 prog Tryz.lays264_ren:={
 mixed:=by kernel_rfl
 f264:=func137.trans (congrArg some (by kernel_rfl))
 t46:=underlying77
 a46:=Tryz.isAgg77
 z46:=Tryz.sizeOf77
 v46:=Tryz.zeroValue77
 t53:=underlying22
 a53:=Tryz.isAgg22
 z53:=Tryz.sizeOf22
 v53:=Tryz.zeroValue22 }
open Go.RowKit Go.Lib in
theorem Tryz.bits_Mul64 (x y:Nat) (hx:x<18446744073709551616) (hy:y<18446744073709551616) (w:World) :
  Calls prog 137 #[.int .u64 x,.int .u64 y] w fun e w'=>e=.returned (.tuple #[.int .u64 ((x*y/18446744073709551616:Nat):Int),.int .u64 ((x*y%18446744073709551616:Nat):Int)])∧w'=w:=Any.bits_Mul64 Tryz.lays264 x y hx hy w
end Go.Proofs
namespace Go.Proofs.YtpjlhhpjpnacmaaGreat
open Go.Proofs.Tryz
open Go.RowKit
theorem AW (x y:Nat) (hx:x<18446744073709551616) (hy:y<18446744073709551616) (w:World) :
  Calls prog 137 #[.int .u64 x,.int .u64 y] w fun e w'=>e=.returned (.tuple #[.int .u64 (SO x y:Nat),.int .u64 (SN x y:Nat)])∧w'=w :=
 Tryz.bits_Mul64 x y hx hy w
theorem TZ {x y:Nat} (hx:x<18446744073709551616) (hy:y<18446744073709551616):∃h l:Nat,(∀w,Calls prog 137 #[.int .u64 x,.int .u64 y] w fun e w'=>e=.returned (.tuple #[.int .u64 (h:Nat),.int .u64 (l:Nat)])∧w'=w)∧h≤18446744073709551614∧l<18446744073709551616∧Hid (l+18446744073709551616*h=x*y) :=
 ⟨_,_,AW x y hx hy,ZB hx hy,ZA _ _,Pw x y⟩
theorem mJ (x:Nat) (h:x<18446744073709551616):IntKind.u64.wrap (x:Int)=(x:Int):=by rw[IntKind.wrap_u64]; omega
theorem jR (x:Nat):IntKind.u64.wrap (x:Int)=((x%18446744073709551616:Nat):Int):=by rw[IntKind.wrap_u64]; omega
theorem pK (x S:Nat):(x:Int)*2^S=((x*2^S:Nat):Int):=by rw[Int.natCast_mul,Int.natCast_pow]; rfl
theorem LU (S:Nat) (h:S≤63):2^(64-S)*2^S=18446744073709551616:=by
 rw[←Nat.pow_add,show 64-S+S=64 by omega]
theorem Bb {Y:Nat} (h:Y<18446744073709551616):∃a b:Nat,(Y:Int)/4294967296=(a:Int)∧bits .and .u64 (Y:Int) 4294967295=(b:Int)∧a<4294967296∧b<4294967296∧Y=a*4294967296+b:=by
 refine⟨Y/4294967296,Y%4294967296,by omega,?_,by omega,by omega,by omega⟩;have h':=bits_and_u64_nat Y 4294967295 h (by omega);rw[show Y &&& 4294967295=Y%4294967296 from Nat.and_two_pow_sub_one_eq_mod Y 32]at h';exact h'
section
variable {y1 y0 u u1 q r:Nat}
end
theorem It {y:Nat} (h0:1≤y) (hy:y<18446744073709551616):Lib.bitLen y=y.log2+1∧2^y.log2≤y∧y<2^(y.log2+1)∧y.log2≤63:=by
 have a:=Nat.log2_self_le (show y≠0 by omega);have b:y<2^(y.log2+1):=Nat.lt_log2_self;refine⟨?_,a,b,?_⟩
 ·rw[Lib.bitLen_shift y.log2 y a hy];have:y/2^y.log2=1:=by
   rw[Nat.pow_succ]at b;exact (Nat.div_eq_iff (Nat.two_pow_pos _)).2 ⟨by omega,by omega⟩
  rw[this]; rfl
 ·have:=(Nat.log2_lt (show y≠0 by omega)).2 (show y<2^64 from hy);omega
def RowIs (w:World) (b n:Nat) (P:Nat→Nat):Prop:=∀k,k<n→w.cell? ⟨b,k,none⟩=some (.int .u64 (P k:Nat))∧w.frozen? ⟨b,k,none⟩=false
def cV (P:Nat→Nat) (i v:Nat):Nat→Nat:=fun k=>if k=i then v else P k
def cQ (l:List Nat):Nat→Nat:=fun k=>l.getD k 0
section
variable {w w':World} {b n i v:Nat} {P:Nat→Nat}
theorem RowIs.cell (h:RowIs w b n P) (hi:i<n):w.cell? ⟨b,i,none⟩=some (.int .u64 (P i:Nat)):=(h i hi).1
theorem RowIs.free (h:RowIs w b n P) (hi:i<n):w.frozen? ⟨b,i,none⟩=false:=(h i hi).2
theorem RowIs.set (h:RowIs w b n P) (hi:i<n):RowIs (w.setCell ⟨b,i,none⟩ (.int .u64 (v:Nat))) b n (cV P i v):=by
 intro k hk;refine⟨?_,by rw[World.frozen?_setCell]; exact h.free hk⟩;unfold cV
 by_cases e:k=i
 ·subst e; rw[if_pos rfl]; exact World.cell?_setCell_same (h:=h.cell hk) ..
 ·rw[if_neg e,World.cell?_setCell_other (h:=fun he=>e (by simpa using (congrArg Addr.off he).symm)) ..]; exact h.cell hk
theorem RowIs.other (h:RowIs w b n P) {c:Nat} (hc:c≠b) (x:Value):RowIs (w.setCell ⟨c,i,none⟩ x) b n P:=by
 intro k hk;exact⟨by rw[World.cell?_setCell_other (h:=fun he=>hc (by simpa using congrArg Addr.block he)) ..]; exact h.cell hk,by rw[World.frozen?_setCell]; exact h.free hk⟩
theorem RowIs.drew (h:RowIs w b n P):RowIs w.drew b n P:=h
theorem RowIs.drewN (h:RowIs w b n P) (m:Nat):RowIs (w.drewN m) b n P:=h
theorem RowIs.below (h:RowIs w b n P) {B:Nat} (hb:Below B w w') (hB:b<B):RowIs w' b n P:=by
 intro k hk;exact⟨by rw[hb.cell (p:=⟨b,k,none⟩) hB]; exact h.cell hk,by rw[hb.frozen (p:=⟨b,k,none⟩) hB]; exact h.free hk⟩
theorem RowIs.alloc (h:RowIs w b n P) (hb:b<w.heap.size) (o:Obj):RowIs (w.alloc o) b n P :=
 h.below ((Below.refl w.heap.size w).alloc (Nat.le_refl _) o) hb
theorem RowIs.mk (w:World) (t:TypeId) (l:List Nat) (b:Nat) (hb:b=w.heap.size):RowIs (w.alloc (.cells (l.map fun x=>Value.int .u64 (x:Nat)).toArray t)) b l.length (cQ l):=by
 subst hb;intro k hk;refine⟨?_,World.frozen?_alloc_new _ _ _ _⟩;rw[World.cell?_alloc_new];simp[cQ,hk]
end
structure Row4 (w:World) (b:Nat) (c0 c1 c2 c3:Nat):Prop where
 c0:w.cell? ⟨b,0,none⟩=some (.int .u64 c0)
 c1:w.cell? ⟨b,1,none⟩=some (.int .u64 c1)
 c2:w.cell? ⟨b,2,none⟩=some (.int .u64 c2)
 c3:w.cell? ⟨b,3,none⟩=some (.int .u64 c3)
 fr:∀k,w.frozen? ⟨b,k,none⟩=false
theorem Row4.below {w w':World} {b:Nat} {c0 c1 c2 c3:Nat} (h:Row4 w b c0 c1 c2 c3) {B:Nat} (hb:Below B w w') (hB:b<B):Row4 w' b c0 c1 c2 c3 :=
 ⟨by rw[hb.cell (p:=⟨b,0,none⟩) hB]; exact h.c0,by rw[hb.cell (p:=⟨b,1,none⟩) hB]; exact h.c1,by rw[hb.cell (p:=⟨b,2,none⟩) hB]; exact h.c2,by rw[hb.cell (p:=⟨b,3,none⟩) hB]; exact h.c3,
  fun k=>by rw[hb.frozen (p:=⟨b,k,none⟩) hB]; exact h.fr k⟩
theorem Row4.alloc {w:World} {b:Nat} {c0 c1 c2 c3:Nat} (h:Row4 w b c0 c1 c2 c3) (hb:b<w.heap.size) (o:Obj):Row4 (w.alloc o) b c0 c1 c2 c3 :=
 h.below ((Below.refl w.heap.size w).alloc (Nat.le_refl _) o) hb
theorem Row4.drewN {w:World} {b:Nat} {c0 c1 c2 c3:Nat} (h:Row4 w b c0 c1 c2 c3) (n:Nat):Row4 (w.drewN n) b c0 c1 c2 c3:=⟨h.c0,h.c1,h.c2,h.c3,h.fr⟩
theorem Row4.new (w:World) (c0 c1 c2 c3:Nat) (t:TypeId):Row4 (w.alloc (.cells #[.int .u64 c0,.int .u64 c1,.int .u64 c2,.int .u64 c3] t)) w.heap.size c0 c1 c2 c3 :=
 ⟨by rw[World.cell?_alloc_new]; rfl,by rw[World.cell?_alloc_new]; rfl,by rw[World.cell?_alloc_new]; rfl,by rw[World.cell?_alloc_new]; rfl,fun k=>World.frozen?_alloc_new _ _ _ _⟩
theorem Row4.other {w:World} {b d i:Nat} {c0 c1 c2 c3:Nat} (h:Row4 w b c0 c1 c2 c3) (hd:d≠b) (v:Value):Row4 (w.setCell ⟨d,i,none⟩ v) b c0 c1 c2 c3 :=
 ⟨by rw[World.cell?_setCell_other (h:=fun he=>hd (by simpa using congrArg Addr.block he)) ..]; exact h.c0,by rw[World.cell?_setCell_other (h:=fun he=>hd (by simpa using congrArg Addr.block he)) ..]; exact h.c1,
  by rw[World.cell?_setCell_other (h:=fun he=>hd (by simpa using congrArg Addr.block he)) ..]; exact h.c2,by rw[World.cell?_setCell_other (h:=fun he=>hd (by simpa using congrArg Addr.block he)) ..]; exact h.c3,
  fun k=>by rw[World.frozen?_setCell]; exact h.fr k⟩
def set4 (w:World) (b:Nat) (d0 d1 d2 d3:Nat):World:=(((w.setCell ⟨b,0,none⟩ (.int .u64 d0)).setCell ⟨b,1,none⟩ (.int .u64 d1)).setCell ⟨b,2,none⟩ (.int .u64 d2)).setCell ⟨b,3,none⟩ (.int .u64 d3)
theorem Row4.rows {w:World} {b:Nat} {c0 c1 c2 c3:Nat} (h:Row4 w b c0 c1 c2 c3):RowIs w b 4 (cQ [c0,c1,c2,c3]):=by
 intro k hk;refine⟨?_,h.fr k⟩
 match k,hk with
 | 0,_=>exact h.c0
 | 1,_=>exact h.c1
 | 2,_=>exact h.c2
 | 3,_=>exact h.c3
theorem Row4.set4 {w:World} {b:Nat} {c0 c1 c2 c3:Nat} (h:Row4 w b c0 c1 c2 c3) (d0 d1 d2 d3:Nat):Row4 (set4 w b d0 d1 d2 d3) b d0 d1 d2 d3:=by
 have r:=(((h.rows.set (show 0<4 by omega) (v:=d0)).set (show 1<4 by omega) (v:=d1)).set (show 2<4 by omega) (v:=d2)).set (show 3<4 by omega) (v:=d3);exact⟨r.cell (by omega),r.cell (show 1<4 by omega),r.cell (show 2<4 by omega),r.cell (show 3<4 by omega),fun k=>by
  show World.frozen? (((_:World).setCell _ _)) _=_;rw[World.frozen?_setCell,World.frozen?_setCell,World.frozen?_setCell,World.frozen?_setCell]; exact h.fr k⟩
theorem Row4.set4_other {w:World} {b d:Nat} {c0 c1 c2 c3:Nat} (h:Row4 w b c0 c1 c2 c3) (hd:d≠b) (e0 e1 e2 e3:Nat):Row4 (Go.Proofs.YtpjlhhpjpnacmaaGreat.set4 w d e0 e1 e2 e3) b c0 c1 c2 c3 :=
 (((h.other hd _).other hd _).other hd _).other hd _
theorem aM {B:Nat} {w w':World} {b:Nat} (h:Below B w w') (hb:B≤b) (d0 d1 d2 d3:Nat):Below B w (set4 w' b d0 d1 d2 d3) :=
 (((h.setCell (p:=⟨b,0,none⟩) hb _).setCell (p:=⟨b,1,none⟩) hb _).setCell (p:=⟨b,2,none⟩) hb _).setCell (p:=⟨b,3,none⟩) hb _
theorem aN (B:Nat) (w:World) (n:Nat):Below B w (w.drewN n):=⟨rfl,rfl,rfl,Nat.le_refl _,fun _ _=>rfl⟩
def cD (B:Nat) (P:Nat→Nat):Nat→Nat
 | 0=>0
 | n+1=>cD B P n+P n*B^n
theorem bD (B:Nat) (P:Nat→Nat) (n:Nat):cD B P (n+1)=cD B P n+P n*B^n:=rfl
theorem dW (B:Nat) (P:Nat→Nat) (k v:Nat):∀n,n≤k→cD B (cV P k v) n=cD B P n
 | 0,_=>rfl
 | n+1,h=>by
  rw[bD,bD,dW B P k v n (by omega)];unfold cV;rw[if_neg (by omega)]
theorem oE (B:Nat) (P:Nat→Nat) (k v:Nat):∀n,k<n→cD B (cV P k v) n+P k*B^k=cD B P n+v*B^k
 | n+1,h=>by
  rw[bD,bD]
  by_cases e:k=n
  ·subst e;rw[dW B P k v k (Nat.le_refl _)];unfold cV;rw[if_pos rfl]; omega
  ·have:=oE B P k v n (by omega);have e':cV P k v n=P n:=by unfold cV; rw[if_neg (by omega)]
   rw[e']; omega
theorem sH (B:Nat) (P:Nat→Nat) (h:∀k,P k=0):∀n,cD B P n=0
 | 0=>rfl
 | n+1=>by rw[bD,sH B P h n,h n,Nat.zero_mul]
theorem sI (B:Nat) (P:Nat→Nat) (hB:0<B):∀n,(∀k,k<n→P k<B)→cD B P n<B^n
 | 0,_=>by simp[cD]
 | n+1,h=>by
  have h1:=sI B P hB n (fun k hk=>h k (by omega));have h2:=Nat.mul_le_mul_right (B^n) (show P n+1≤B by have:=h n (by omega); omega);rw[bD,Nat.pow_succ,Nat.mul_comm (B^n) B];rw[Nat.add_mul,Nat.one_mul]at h2;omega
theorem sK {B:Nat} {P:Nat→Nat} {n k x o d o' T:Nat} (hk:k<n) (he:d+B*o'=x+P k+o) (hT:cD B P n+o*B^k=T) :
  cD B (cV P k d) n+o'*B^(k+1)=T+x*B^k:=by
 have h1:=oE B P k d n hk;have h2:d*B^k+o'*B^(k+1)=x*B^k+P k*B^k+o*B^k:=by
  rw[Nat.pow_succ,←Nat.add_mul,←Nat.add_mul,←he,Nat.add_mul];congr 1;rw[Nat.mul_comm (B^k) B,←Nat.mul_assoc,Nat.mul_comm o' B]
 omega
section
variable {R n:Nat} {A B P:Nat→Nat} {i j o d o':Nat}
def MI (R n:Nat) (A B:Nat→Nat) (i j o:Nat) (P:Nat→Nat):Prop :=
 (∀k,i+n≤k→P k=0)∧cD R P (n+n)+o*R^(i+j)=cD R A i*cD R B n+A i*R^i*cD R B j
def MO (R n:Nat) (A B:Nat→Nat) (i:Nat) (P:Nat→Nat):Prop :=
 (∀k,i+n≤k→P k=0)∧cD R P (n+n)=cD R A i*cD R B n
theorem ZD (hi:i<n) (hj:j<n) (h:MI R n A B i j o P) (he:d+R*o'=A i*B j+P (i+j)+o):MI R n A B i (j+1) o' (cV P (i+j) d):=by
 refine⟨fun k hk=>by unfold cV; rw[if_neg (by omega)]; exact h.1 k hk,?_⟩;have e:A i*B j*R^(i+j)=A i*R^i*(B j*R^j):=by
  rw[Nat.pow_add,Nat.mul_assoc,Nat.mul_assoc,Nat.mul_left_comm (B j)]
 have:=sK (P:=P) (k:=i+j) (by omega) he h.2;rw[show i+(j+1)=i+j+1 by omega,this,bD,e,Nat.mul_add,Nat.add_assoc]
theorem Iq (hi:i<n) (h:MI R n A B i n o P):MO R n A B (i+1) (cV P (i+n) o):=by
 refine⟨fun k hk=>by unfold cV; rw[if_neg (by omega)]; exact h.1 k (by omega),?_⟩;have h1:=oE R P (i+n) o (n+n) (by omega);rw[h.1 (i+n) (Nat.le_refl _),Nat.zero_mul,Nat.add_zero]at h1;rw[h1,h.2,bD,←Nat.add_mul]
theorem ST (h:MO R n A B i P):MI R n A B i 0 0 P:=⟨h.1,by rw[h.2,Nat.zero_mul]; rfl⟩
theorem SS (h:∀k,P k=0):MO R n A B 0 P:=⟨fun k _=>h k,by rw[sH R P h]; show _=0*_; rw[Nat.zero_mul]⟩
theorem jG (R:Nat) (P:Nat→Nat) (n:Nat):∀m,cD R P (n+m)=cD R P n+R^n*cD R (fun k=>P (n+k)) m
 | 0=>by rw[Nat.add_zero]; show _=_+R^n*0; rw[Nat.mul_zero,Nat.add_zero]
 | m+1=>by
  rw[show n+(m+1)=n+m+1 by omega,bD,jG R P n m,bD,Nat.mul_add,Nat.pow_add,←Nat.mul_assoc (R^n),Nat.add_assoc];rw[Nat.mul_comm (P (n+m)) (R^n*R^m),Nat.mul_right_comm]
end
theorem jE (P:Nat→Nat):aA (P 0) (P 1) (P 2) (P 3)=cD 18446744073709551616 P 4:=by
 unfold aA;simp only[cD];omega
def Co (A B:Nat) (w:World) (e:Ending) (w':World):Prop :=
 ∃h0 h1 h2 h3 l0 l1 l2 l3:Nat,e=.returned (.tuple #[.agg #[.int .u64 h0,.int .u64 h1,.int .u64 h2,.int .u64 h3],.agg #[.int .u64 l0,.int .u64 l1,.int .u64 l2,.int .u64 l3]])∧aZ h0 h1 h2 h3∧aZ l0 l1 l2 l3∧aA l0 l1 l2 l3+115792089237316195423570985008687907853269984665640564039457584007913129639936*aA h0 h1 h2 h3=A*B∧Below w.heap.size w w'
structure MW (w wr:World) (A B P:Nat→Nat):Prop where
 below:Below w.heap.size w wr
 size:wr.heap.size=w.heap.size+1+1+1+1+1
 rowA:RowIs wr w.heap.size 4 A
 rowB:RowIs wr (w.heap.size+1) 4 B
 rowH:∃H,RowIs wr (w.heap.size+1+1) 4 H
 rowL:∃L,RowIs wr (w.heap.size+1+1+1) 4 L
 rowP:RowIs wr (w.heap.size+1+1+1+1) 8 P
 lt:∀k,P k<18446744073709551616
theorem MW.set {w wr:World} {A B P:Nat→Nat} (h:MW w wr A B P) {k d:Nat} (hk:k<8) (hd:d<18446744073709551616) :
  MW w (wr.setCell ⟨w.heap.size+1+1+1+1,k,none⟩ (.int .u64 (d:Nat))) A B (cV P k d) :=
 ⟨h.below.setCell (p:=⟨w.heap.size+1+1+1+1,k,none⟩) (by simp; omega) _,by rw[World.size_setCell]; exact h.size,h.rowA.other (by omega) _,h.rowB.other (by omega) _,
  h.rowH.elim fun H x=>⟨H,x.other (by omega) _⟩,h.rowL.elim fun L x=>⟨L,x.other (by omega) _⟩,h.rowP.set hk,
  fun x=>by unfold cV; split; exact hd; exact h.lt x⟩
theorem MW.drewN {w wr:World} {A B P:Nat→Nat} (h:MW w wr A B P) (n:Nat):MW w (wr.drewN n) A B P :=
 ⟨h.below.trans (aN _ _ _),h.size,h.rowA,h.rowB,h.rowH,h.rowL,h.rowP,h.lt⟩
theorem RowIs.mk4 {w:World} {b:Nat} {c0 c1 c2 c3:Nat} (h0:w.cell? ⟨b,0,none⟩=some (.int .u64 c0)) (h1:w.cell? ⟨b,1,none⟩=some (.int .u64 c1)) (h2:w.cell? ⟨b,2,none⟩=some (.int .u64 c2)) (h3:w.cell? ⟨b,3,none⟩=some (.int .u64 c3))
  (hf:∀k,w.frozen? ⟨b,k,none⟩=false):RowIs w b 4 (cQ [c0,c1,c2,c3]):=by
 intro k hk;refine⟨?_,hf k⟩
 match k,hk with
 | 0,_=>exact h0
 | 1,_=>exact h1
 | 2,_=>exact h2
 | 3,_=>exact h3
theorem RowIs.mk8z {w:World} {b:Nat} (h:∀k,k<8→w.cell? ⟨b,k,none⟩=some (.int .u64 0)) (hf:∀k,w.frozen? ⟨b,k,none⟩=false):RowIs w b 8 (fun _=>0) :=
 fun k hk=>⟨h k hk,hf k⟩
theorem lX {a0 a1 a2 a3:Nat} (ha:aZ a0 a1 a2 a3) (k:Nat):cQ [a0,a1,a2,a3] k<18446744073709551616:=by
 obtain⟨h0,h1,h2,h3⟩:=ha;unfold cQ
 match k with
 | 0=>exact h0
 | 1=>exact h1
 | 2=>exact h2
 | 3=>exact h3
 | k+4=>simp
def gT (P:Nat→Prop) (w:World) (e:Ending) (w':World):Prop :=
 ∃s0 s1 s2 s3:Nat,e=.returned (.agg #[.int .u64 s0,.int .u64 s1,.int .u64 s2,.int .u64 s3])∧aZ s0 s1 s2 s3∧P (aA s0 s1 s2 s3)∧Below w.heap.size w w'
def Mem (w wr:World) (rs:List (Nat×Nat×Nat×Nat×Nat)):Prop :=
 Below w.heap.size w wr∧∀r,r∈rs→r.1<wr.heap.size∧Row4 wr r.1 r.2.1 r.2.2.1 r.2.2.2.1 r.2.2.2.2
theorem Mem.nil (w:World):Mem w w []:=⟨Below.refl _ _,fun _ h=>by cases h⟩
theorem Mem.on {w wr w':World} {rs:List (Nat×Nat×Nat×Nat×Nat)} (h:Mem w wr rs) (hb:Below wr.heap.size wr w'):Mem w w' rs :=
 ⟨h.1.trans (hb.mono h.1.size),fun r hr=>⟨Nat.lt_of_lt_of_le (h.2 r hr).1 hb.size,(h.2 r hr).2.below hb (h.2 r hr).1⟩⟩
theorem Mem.drewN {w wr:World} {rs:List (Nat×Nat×Nat×Nat×Nat)} (h:Mem w wr rs) (n:Nat):Mem w (wr.drewN n) rs:=h.on (aN _ _ n)
theorem Mem.new {w wr:World} {rs:List (Nat×Nat×Nat×Nat×Nat)} (h:Mem w wr rs) (b c0 c1 c2 c3:Nat) (t:TypeId) (hb:b=wr.heap.size) :
  Mem w (wr.alloc (.cells #[.int .u64 c0,.int .u64 c1,.int .u64 c2,.int .u64 c3] t)) ((b,c0,c1,c2,c3)::rs):=by
 subst hb;have hB:Below wr.heap.size wr (wr.alloc (.cells #[.int .u64 c0,.int .u64 c1,.int .u64 c2,.int .u64 c3] t)):=(Below.refl _ _).alloc (Nat.le_refl _) _;refine⟨(h.on hB).1,fun r hr => ?_⟩
 rcases List.mem_cons.1 hr with e|hr
 ·rw[e];exact⟨by simp,Row4.new wr c0 c1 c2 c3 t⟩
 ·exact (h.on hB).2 r hr
theorem Mem.get {w wr:World} {rs:List (Nat×Nat×Nat×Nat×Nat)} (h:Mem w wr rs) {b c0 c1 c2 c3:Nat} (hm:(b,c0,c1,c2,c3)∈rs):b<wr.heap.size∧Row4 wr b c0 c1 c2 c3:=h.2 _ hm
theorem Mem.sub {w wr:World} {rs rs':List (Nat×Nat×Nat×Nat×Nat)} (h:Mem w wr rs) (hs:∀r,r∈rs'→r∈rs):Mem w wr rs':=⟨h.1,fun r hr=>h.2 r (hs r hr)⟩
theorem Mem.put {w wr:World} {rs:List (Nat×Nat×Nat×Nat×Nat)} {b c0 c1 c2 c3:Nat} (h:Mem w wr ((b,c0,c1,c2,c3)::rs)) (d0 d1 d2 d3:Nat) (hw:w.heap.size≤b) (hne:∀r,r∈rs→r.1≠b) :
  Mem w (set4 wr b d0 d1 d2 d3) ((b,d0,d1,d2,d3)::rs):=by
 refine⟨aM h.1 hw _ _ _ _,fun r hr => ?_⟩;have hs:(set4 wr b d0 d1 d2 d3).heap.size=wr.heap.size:=by unfold set4; simp only[World.size_setCell]
 rcases List.mem_cons.1 hr with e|hr
 ·rw[e];exact⟨by rw[hs]; exact (h.2 _ List.mem_cons_self).1,(h.2 _ List.mem_cons_self).2.set4 _ _ _ _⟩
 ·exact⟨by rw[hs]; exact (h.2 r (List.mem_cons_of_mem _ hr)).1,(h.2 r (List.mem_cons_of_mem _ hr)).2.set4_other (fun e=>hne r hr e.symm) _ _ _ _⟩
theorem vY {x c:Nat} (hx:x<18446744073709551616) (hc:c≤1):∃d b:Nat,(∀w,(callFunc 123 #[.int .u64 (x:Int),.int .u64 0,.int .u64 (c:Int)]).run prog w =
   .ok (.value (.tuple #[.int .u64 (d:Int),.int .u64 (b:Int)])) w)∧d<18446744073709551616∧b≤1∧Hid (d+18446744073709551616*b=x+c) :=
 ⟨_,_,pQ x 0 c hc,yP _ _ _,yQ hx (by omega) hc,Lib.hid (by have:=VV x 0 c; omega)⟩
set_option maxHeartbeats 1000000 in
theorem rC {a b c d:Nat} (ha:a<18446744073709551616) (hb:b<18446744073709551616) (hc:c<18446744073709551616) (hd:d<18446744073709551616):∃h l:Nat,
  (∀w,Calls prog 134 #[.int .u64 a,.int .u64 b,.int .u64 c,.int .u64 d] w fun e w'=>e=.returned (.tuple #[.int .u64 (h:Nat),.int .u64 (l:Nat)])∧w'=w) ∧
  h<18446744073709551616∧l<18446744073709551616∧Hid (l+18446744073709551616*h=a*b+c+d):=by
 obtain⟨h,l,r,hh,hl,e⟩:=TZ ha hb;obtain⟨l1,c1,r1,hl1,hc1,e1⟩:=qH hl hc;obtain⟨h1,z1,r2,hh1,hz1,e2⟩:=vY (show h<18446744073709551616 by omega) hc1;obtain⟨l2,c2,r3,hl2,hc2,e3⟩:=qH hl1 hd;obtain⟨h2,z2,r4,hh2,hz2,e4⟩:=vY hh1 hc2;have hab:=xP (show a≤18446744073709551615 by omega) (show b≤18446744073709551615 by omega);refine⟨h2,l2,fun w => ?_,hh2,hl2,Lib.hid (by have:=e.out; have:=e1.out; have:=e2.out; have:=e3.out; have:=e4.out; omega)⟩;clear e e1 e2 e3 e4 hab
 go_enter func134,ntmps134
 go_wp2_with fail;refine (r _).mono ?_
 rintro e w' ⟨rfl,rfl⟩
 go_wp2_with fail
 go_ret2
 exact⟨rfl,rfl⟩
structure KIs (w:World) (b:Nat) (F:FC):Prop where
 k0:w.cell? ⟨b,0,none⟩=some (.int .u64 F.m0)
 k1:w.cell? ⟨b,1,none⟩=some (.int .u64 F.m1)
 k2:w.cell? ⟨b,2,none⟩=some (.int .u64 F.m2)
 k3:w.cell? ⟨b,3,none⟩=some (.int .u64 F.m3)
 k4:w.cell? ⟨b,4,none⟩=some (.int .u64 F.inv)
 k5:w.cell? ⟨b,5,none⟩=some (.int .u64 F.s0)
 k6:w.cell? ⟨b,6,none⟩=some (.int .u64 F.s1)
 k7:w.cell? ⟨b,7,none⟩=some (.int .u64 F.s2)
 k8:w.cell? ⟨b,8,none⟩=some (.int .u64 F.s3)
 lt:b<w.heap.size
theorem KIs.below {w w':World} {b:Nat} {F:FC} (h:KIs w b F) {B:Nat} (hb:Below B w w') (hB:b<B):KIs w' b F :=
 ⟨by rw[hb.cell (p:=⟨b,0,none⟩) hB]; exact h.k0,by rw[hb.cell (p:=⟨b,1,none⟩) hB]; exact h.k1,by rw[hb.cell (p:=⟨b,2,none⟩) hB]; exact h.k2,by rw[hb.cell (p:=⟨b,3,none⟩) hB]; exact h.k3,
  by rw[hb.cell (p:=⟨b,4,none⟩) hB]; exact h.k4,by rw[hb.cell (p:=⟨b,5,none⟩) hB]; exact h.k5,by rw[hb.cell (p:=⟨b,6,none⟩) hB]; exact h.k6,by rw[hb.cell (p:=⟨b,7,none⟩) hB]; exact h.k7,by rw[hb.cell (p:=⟨b,8,none⟩) hB]; exact h.k8,Nat.lt_of_lt_of_le h.lt hb.size⟩
theorem KIs.same {w w':World} {b:Nat} {F:FC} (h:KIs w b F) (hb:Below w.heap.size w w'):KIs w' b F:=h.below hb h.lt
theorem KIs.drewN {w:World} {b:Nat} {F:FC} (h:KIs w b F) (n:Nat):KIs (w.drewN n) b F:=⟨h.k0,h.k1,h.k2,h.k3,h.k4,h.k5,h.k6,h.k7,h.k8,h.lt⟩
theorem KIs.other {w:World} {b d i:Nat} {F:FC} (h:KIs w b F) (hd:d≠b) (v:Value):KIs (w.setCell ⟨d,i,none⟩ v) b F :=
 ⟨by rw[World.cell?_setCell_other (h:=fun he=>hd (by simpa using congrArg Addr.block he)) ..]; exact h.k0,by rw[World.cell?_setCell_other (h:=fun he=>hd (by simpa using congrArg Addr.block he)) ..]; exact h.k1,
  by rw[World.cell?_setCell_other (h:=fun he=>hd (by simpa using congrArg Addr.block he)) ..]; exact h.k2,by rw[World.cell?_setCell_other (h:=fun he=>hd (by simpa using congrArg Addr.block he)) ..]; exact h.k3,
  by rw[World.cell?_setCell_other (h:=fun he=>hd (by simpa using congrArg Addr.block he)) ..]; exact h.k4,by rw[World.cell?_setCell_other (h:=fun he=>hd (by simpa using congrArg Addr.block he)) ..]; exact h.k5,
  by rw[World.cell?_setCell_other (h:=fun he=>hd (by simpa using congrArg Addr.block he)) ..]; exact h.k6,by rw[World.cell?_setCell_other (h:=fun he=>hd (by simpa using congrArg Addr.block he)) ..]; exact h.k7,
  by rw[World.cell?_setCell_other (h:=fun he=>hd (by simpa using congrArg Addr.block he)) ..]; exact h.k8,by rw[World.size_setCell]; exact h.lt⟩
theorem yA {a0 a1 a2 a3 b0 b1 b2 b3:Nat} (ha:aZ a0 a1 a2 a3) (hb:aZ b0 b1 b2 b3):∃d0 c0 d1 c1 d2 c2 d3 c3:Nat,
  (∀w,(callFunc 89 #[.int .u64 (a0:Int),.int .u64 (b0:Int),.int .u64 0]).run prog w=.ok (.value (.tuple #[.int .u64 (d0:Int),.int .u64 (c0:Int)])) w) ∧
  (∀w,(callFunc 89 #[.int .u64 (a1:Int),.int .u64 (b1:Int),.int .u64 (c0:Int)]).run prog w=.ok (.value (.tuple #[.int .u64 (d1:Int),.int .u64 (c1:Int)])) w) ∧
  (∀w,(callFunc 89 #[.int .u64 (a2:Int),.int .u64 (b2:Int),.int .u64 (c1:Int)]).run prog w=.ok (.value (.tuple #[.int .u64 (d2:Int),.int .u64 (c2:Int)])) w) ∧
  (∀w,(callFunc 89 #[.int .u64 (a3:Int),.int .u64 (b3:Int),.int .u64 (c2:Int)]).run prog w=.ok (.value (.tuple #[.int .u64 (d3:Int),.int .u64 (c3:Int)])) w) ∧
  aZ d0 d1 d2 d3∧c3≤1∧Hid (aA d0 d1 d2 d3+aA b0 b1 b2 b3=aA a0 a1 a2 a3+115792089237316195423570985008687907853269984665640564039457584007913129639936*c3):=by
 obtain⟨d0,c0,r0,h0,k0,e0⟩:=vX ha.1 hb.1;obtain⟨d1,c1,r1,h1,k1,e1⟩:=jN ha.2.1 hb.2.1 k0;obtain⟨d2,c2,r2,h2,k2,e2⟩:=jN ha.2.2.1 hb.2.2.1 k1;obtain⟨d3,c3,r3,h3,k3,e3⟩:=jN ha.2.2.2 hb.2.2.2 k2;exact⟨d0,c0,d1,c1,d2,c2,d3,c3,r0,r1,r2,r3,⟨h0,h1,h2,h3⟩,k3,Lib.hid (by have:=e0.out; have:=e1.out; have:=e2.out; have:=e3.out; unfold aA; omega)⟩
theorem JV {a0 a1 a2 a3 b0 b1 b2 b3:Nat} (ha:aZ a0 a1 a2 a3) (hb:aZ b0 b1 b2 b3):∃d0 c0 d1 c1 d2 c2 d3 c3:Nat,
  (∀w,(callFunc 123 #[.int .u64 (a0:Int),.int .u64 (b0:Int),.int .u64 0]).run prog w=.ok (.value (.tuple #[.int .u64 (d0:Int),.int .u64 (c0:Int)])) w) ∧
  (∀w,(callFunc 123 #[.int .u64 (a1:Int),.int .u64 (b1:Int),.int .u64 (c0:Int)]).run prog w=.ok (.value (.tuple #[.int .u64 (d1:Int),.int .u64 (c1:Int)])) w) ∧
  (∀w,(callFunc 123 #[.int .u64 (a2:Int),.int .u64 (b2:Int),.int .u64 (c1:Int)]).run prog w=.ok (.value (.tuple #[.int .u64 (d2:Int),.int .u64 (c2:Int)])) w) ∧
  (∀w,(callFunc 123 #[.int .u64 (a3:Int),.int .u64 (b3:Int),.int .u64 (c2:Int)]).run prog w=.ok (.value (.tuple #[.int .u64 (d3:Int),.int .u64 (c3:Int)])) w) ∧
  aZ d0 d1 d2 d3∧c3≤1∧Hid (aA d0 d1 d2 d3+115792089237316195423570985008687907853269984665640564039457584007913129639936*c3=aA a0 a1 a2 a3+aA b0 b1 b2 b3):=by
 obtain⟨d0,c0,r0,h0,k0,e0⟩:=qH ha.1 hb.1;obtain⟨d1,c1,r1,h1,k1,e1⟩:=tU ha.2.1 hb.2.1 k0;obtain⟨d2,c2,r2,h2,k2,e2⟩:=tU ha.2.2.1 hb.2.2.1 k1;obtain⟨d3,c3,r3,h3,k3,e3⟩:=tU ha.2.2.2 hb.2.2.2 k2;exact⟨d0,c0,d1,c1,d2,c2,d3,c3,r0,r1,r2,r3,⟨h0,h1,h2,h3⟩,k3,Lib.hid (by have:=e0.out; have:=e1.out; have:=e2.out; have:=e3.out; unfold aA; omega)⟩
def eK (V:Nat) (w:World) (e:Ending) (w':World):Prop :=
 ∃s0 s1 s2 s3:Nat,e=.returned (.agg #[.int .u64 s0,.int .u64 s1,.int .u64 s2,.int .u64 s3])∧aZ s0 s1 s2 s3∧aA s0 s1 s2 s3=V∧Below w.heap.size w w'
set_option maxHeartbeats 1000000 in
theorem tA (F:FC) (hF:F.Ok) (b t0 t1 t2 t3:Nat) (ht:aZ t0 t1 t2 t3) (hlt:aA t0 t1 t2 t3<2*F.M) (w:World) (hk:KIs w b F) :
  Calls prog 135 #[.pointer (some ⟨b,0,none⟩),.int .u64 t0,.int .u64 t1,.int .u64 t2,.int .u64 t3] w (eK (aA t0 t1 t2 t3%F.M) w):=by
 obtain⟨d0,c0,d1,c1,d2,c2,d3,c3,r0,r1,r2,r3,hd,hc,e⟩:=yA ht hF.okm;have vd:=cE hd;have vt:=cE ht;have HV:=Lib.hid (SA hlt);have HM:=Lib.hid (show F.M=aA F.m0 F.m1 F.m2 F.m3 from rfl);have hL:=hk.lt;have k0:=hk.k0; have k1:=hk.k1; have k2:=hk.k2; have k3:=hk.k3;clear hk hF hlt;have hc':c3=0∨c3=1:=by omega
 rcases hc' with rfl|rfl
 ·go_enter func135,ntmps135
  go_wp2_with fail;refine bodyPost_ret (v:=.agg #[.int .u64 d0,.int .u64 d1,.int .u64 d2,.int .u64 d3]) (by simp[results,results135,go_sem]) rfl ?_;refine⟨_,_,_,_,rfl,hd,?_,?_⟩
  ·rw[HV.out,if_neg (by have:=e.out; have:=HM.out; omega)]; have:=e.out; have:=HM.out; omega
  ·repeat (first|exact Below.refl _ _|refine Below.drew ?_|refine Below.alloc ?_ (by first|(simp; done)|(simp; omega)) _|refine Below.setCell ?_ (by simp) _)
 ·go_enter func135,ntmps135
  go_wp2_with fail;refine bodyPost_ret (v:=.agg #[.int .u64 t0,.int .u64 t1,.int .u64 t2,.int .u64 t3]) (by simp[results,results135,go_sem]) rfl ?_;refine⟨_,_,_,_,rfl,ht,?_,?_⟩
  ·rw[HV.out,if_pos (by have:=e.out; have:=HM.out; omega)]
  ·repeat (first|exact Below.refl _ _|refine Below.drew ?_|refine Below.alloc ?_ (by first|(simp; done)|(simp; omega)) _|refine Below.setCell ?_ (by simp) _)
theorem TU (F:FC) (hF:F.Ok) {x y0 y1 y2 y3 t0 t1 t2 t3:Nat} {X:Nat→Nat} {k:Nat} (hk:k<4) (hx:x<18446744073709551616) (hX:X k=x) (hy:aZ y0 y1 y2 y3) (hY:aA y0 y1 y2 y3<F.M) (ht:aZ t0 t1 t2 t3) (g:GV F.M X (aA y0 y1 y2 y3) k (aA t0 t1 t2 t3)) :
  ∃o0 l0 cl c0 z o1 l1 c1 n0 o2 l2 c2 n1 o3 l3 c3 n2 n3:Nat,
  (∀w,Calls prog 134 #[.int .u64 x,.int .u64 y0,.int .u64 t0,.int .u64 0] w fun e w'=>e=.returned (.tuple #[.int .u64 (o0:Nat),.int .u64 (l0:Nat)])∧w'=w) ∧
  IntKind.u64.wrap ((l0:Int)*(F.inv:Int))=(cl:Int) ∧
  (∀w,Calls prog 134 #[.int .u64 cl,.int .u64 F.m0,.int .u64 l0,.int .u64 0] w fun e w'=>e=.returned (.tuple #[.int .u64 (c0:Nat),.int .u64 (z:Nat)])∧w'=w) ∧
  (∀w,Calls prog 134 #[.int .u64 x,.int .u64 y1,.int .u64 t1,.int .u64 o0] w fun e w'=>e=.returned (.tuple #[.int .u64 (o1:Nat),.int .u64 (l1:Nat)])∧w'=w) ∧
  (∀w,Calls prog 134 #[.int .u64 cl,.int .u64 F.m1,.int .u64 l1,.int .u64 c0] w fun e w'=>e=.returned (.tuple #[.int .u64 (c1:Nat),.int .u64 (n0:Nat)])∧w'=w) ∧
  (∀w,Calls prog 134 #[.int .u64 x,.int .u64 y2,.int .u64 t2,.int .u64 o1] w fun e w'=>e=.returned (.tuple #[.int .u64 (o2:Nat),.int .u64 (l2:Nat)])∧w'=w) ∧
  (∀w,Calls prog 134 #[.int .u64 cl,.int .u64 F.m2,.int .u64 l2,.int .u64 c1] w fun e w'=>e=.returned (.tuple #[.int .u64 (c2:Nat),.int .u64 (n1:Nat)])∧w'=w) ∧
  (∀w,Calls prog 134 #[.int .u64 x,.int .u64 y3,.int .u64 t3,.int .u64 o2] w fun e w'=>e=.returned (.tuple #[.int .u64 (o3:Nat),.int .u64 (l3:Nat)])∧w'=w) ∧
  (∀w,Calls prog 134 #[.int .u64 cl,.int .u64 F.m3,.int .u64 l3,.int .u64 c2] w fun e w'=>e=.returned (.tuple #[.int .u64 (c3:Nat),.int .u64 (n2:Nat)])∧w'=w) ∧
  (o3:Int)+(c3:Int)=(n3:Int)∧o3+c3<18446744073709551616∧aZ n0 n1 n2 n3∧Hid (GV F.M X (aA y0 y1 y2 y3) (k+1) (aA n0 n1 n2 n3)):=by
 obtain⟨o0,l0,r0,bo0,bl0,e0⟩:=rC hx hy.1 ht.1 (show 0<18446744073709551616 by omega);obtain⟨cl,hcl⟩:∃cl,cl=l0*F.inv%18446744073709551616:=⟨_,rfl⟩
 have bcl:cl<18446744073709551616:=by omega
 obtain⟨c0,z,s0,bc0,bz,f0⟩:=rC bcl hF.okm.1 bl0 (show 0<18446744073709551616 by omega);obtain⟨o1,l1,r1,bo1,bl1,e1⟩:=rC hx hy.2.1 ht.2.1 bo0;obtain⟨c1,n0,s1,bc1,bn0,f1⟩:=rC bcl hF.okm.2.1 bl1 bc0;obtain⟨o2,l2,r2,bo2,bl2,e2⟩:=rC hx hy.2.2.1 ht.2.2.1 bo1;obtain⟨c2,n1,s2,bc2,bn1,f2⟩:=rC bcl hF.okm.2.2.1 bl2 bc1;obtain⟨o3,l3,r3,bo3,bl3,e3⟩:=rC hx hy.2.2.2 ht.2.2.2 bo2;obtain⟨c3,n2,s3,bc3,bn2,f3⟩:=rC bcl hF.okm.2.2.2 bl3 bc2;have hz:z=0:=by
  have h:=GF (l:=l0) hF.turn;rw[←hcl]at h;have:=f0.out;omega
 subst hz;have ha:=zN (e0.out) (f0.out) e1.out f1.out e2.out f2.out e3.out f3.out;have hg:=NB (X:=X) hk g (by rw[hX]; exact hx) hY bcl (N:=aA n0 n1 n2 (o3+c3)) (by rw[hX]; exact ha);have hn3:o3+c3<18446744073709551616:=PF (B:=0) (Nat.lt_trans hg.1 hF.two);refine⟨o0,l0,cl,c0,0,o1,l1,c1,n0,o2,l2,c2,n1,o3,l3,c3,n2,o3+c3,r0,?_,s0,r1,s1,r2,s2,r3,s3,?_,hn3,⟨bn0,bn1,bn2,hn3⟩,Lib.hid hg⟩
 ·rw[hcl,←Int.natCast_mul]; exact jR _
 ·exact (Int.natCast_add _ _).symm
theorem FE (x0 x1 x2 x3 k:Nat) (hk:k<4) (w:World):(Instr.index 85 (.agg #[.int .u64 x0,.int .u64 x1,.int .u64 x2,.int .u64 x3]) (.int .i64 k)).run prog w=.ok (.int .u64 (cQ [x0,x1,x2,x3] k:Nat)) w:=by
 have h0:∀w,(Instr.index 85 (.agg #[.int .u64 x0,.int .u64 x1,.int .u64 x2,.int .u64 x3]) (.int .i64 0)).run prog w=.ok (.int .u64 x0) w:=fun _=>by kernel_rfl
 have h1:∀w,(Instr.index 85 (.agg #[.int .u64 x0,.int .u64 x1,.int .u64 x2,.int .u64 x3]) (.int .i64 1)).run prog w=.ok (.int .u64 x1) w:=fun _=>by kernel_rfl
 have h2:∀w,(Instr.index 85 (.agg #[.int .u64 x0,.int .u64 x1,.int .u64 x2,.int .u64 x3]) (.int .i64 2)).run prog w=.ok (.int .u64 x2) w:=fun _=>by kernel_rfl
 have h3:∀w,(Instr.index 85 (.agg #[.int .u64 x0,.int .u64 x1,.int .u64 x2,.int .u64 x3]) (.int .i64 3)).run prog w=.ok (.int .u64 x3) w:=fun _=>by kernel_rfl
 have:k=0∨k=1∨k=2∨k=3:=by omega
 rcases this with rfl|rfl|rfl|rfl
 ·exact h0 w
 ·exact h1 w
 ·exact h2 w
 ·exact h3 w
set_option maxHeartbeats 4000000 in
theorem cC (F:FC) (hF:F.Ok) (b x0 x1 x2 x3 y0 y1 y2 y3:Nat) (hx:aZ x0 x1 x2 x3) (hy:aZ y0 y1 y2 y3) (hY:aA y0 y1 y2 y3<F.M) (w:World) (hk:KIs w b F) :
  Calls prog 121 #[.pointer (some ⟨b,0,none⟩),.agg #[.int .u64 x0,.int .u64 x1,.int .u64 x2,.int .u64 x3],.agg #[.int .u64 y0,.int .u64 y1,.int .u64 y2,.int .u64 y3]] w (eK (aA x0 x1 x2 x3*aA y0 y1 y2 y3*F.Ri%F.M) w):=by
 obtain⟨X,eX⟩:∃X,X=cQ [x0,x1,x2,x3]:=⟨_,rfl⟩
 have HX:=Lib.hid eX;have hXlt:=lX hx;have HXlt:=Lib.hid hXlt;have HY:=Lib.hid hY;have HF:=Lib.hid hF;have HK:=Lib.hid hk;have HI:=Lib.hid (FE x0 x1 x2 x3);have hL:=hk.lt;have hL1:b<w.heap.size+1:=by omega
 have hL2:b<w.heap.size+1+1:=by omega
 have k0:=hk.k0; have k1:=hk.k1; have k2:=hk.k2; have k3:=hk.k3; have k4:=hk.k4;have bi:=hF.inv;have HG:=Lib.hid (NA (Y:=aA y0 y1 y2 y3) X (show 0<F.M by have:=hF.gt; omega));clear eX hXlt hY hF hk
 go_enter func121,ntmps121
 go_wp2_with fail
 go_loop [8,9,10,11,23] (fun v0 v1 v2 v3 i=>∃k t0 t1 t2 t3:Nat,k≤4∧i=.int .i64 k∧v0=.int .u64 t0∧v1=.int .u64 t1∧v2=.int .u64 t2∧v3=.int .u64 t3∧aZ t0 t1 t2 t3∧Hid (GV F.M X (aA y0 y1 y2 y3) k (aA t0 t1 t2 t3))) (fun _ _ _ _ i=>4-(intOf i).toNat)
 case atStart=>exact⟨0,0,0,0,0,by omega,rfl,rfl,rfl,rfl,rfl,⟨by omega,by omega,by omega,by omega⟩,HG⟩
 case round =>
  obtain⟨k,t0,t1,t2,t3,hk,rfl,rfl,rfl,rfl,rfl,ht,g⟩:=hrel
  by_cases hlt:k<4
  ·obtain⟨x,ex⟩:∃x,x=cQ [x0,x1,x2,x3] k:=⟨_,rfl⟩
   have hi:=HI.out k hlt;rw[←ex]at hi;have bx:x<18446744073709551616:=by rw[ex]; exact HXlt.out k
   obtain⟨o0,l0,cl,c0,z,o1,l1,c1,n0,o2,l2,c2,n1,o3,l3,c3,n2,n3,r0,q,s0,r1,s1,r2,s2,r3,s3,p,hp,hn,hg⟩:=TU F HF.out hlt bx (by rw[ex,HX.out]) hy HY.out ht g.out;clear ex g;go_wp2_with (first|(with_reducible refine (r0 _).mono ?_; rintro e w' ⟨rfl,rfl⟩)|(with_reducible refine (s0 _).mono ?_; rintro e w' ⟨rfl,rfl⟩)|(with_reducible refine (r1 _).mono ?_; rintro e w' ⟨rfl,rfl⟩)|(with_reducible refine (s1 _).mono ?_; rintro e w' ⟨rfl,rfl⟩)|(with_reducible refine (r2 _).mono ?_; rintro e w' ⟨rfl,rfl⟩)|(with_reducible refine (s2 _).mono ?_; rintro e w' ⟨rfl,rfl⟩)|(with_reducible refine (r3 _).mono ?_; rintro e w' ⟨rfl,rfl⟩)|(with_reducible refine (s3 _).mono ?_; rintro e w' ⟨rfl,rfl⟩))
   go_round
   case rel=>exact⟨k+1,n0,n1,n2,n3,by omega,by go_num,rfl,rfl,rfl,rfl,hn,hg⟩
   case measure=>simp[intOf]; omega
  ·obtain rfl:k=4:=by omega
   obtain⟨ge,gv⟩:=TH HF.out (x0:=x0) (x1:=x1) (x2:=x2) (x3:=x3) (by rw[HX.out]; rfl) (by rw[HX.out]; rfl) (by rw[HX.out]; rfl) (by rw[HX.out]; rfl) g.out;have HGV:=Lib.hid gv;clear gv g;go_wp2_with fail;refine (tA F HF.out b t0 t1 t2 t3 ht ge _ (HK.out.same ?_)).mono ?_
   ·repeat (first|exact Below.refl _ _|refine Below.drew ?_|refine Below.alloc ?_ (by first|(simp; done)|(simp; omega)) _)
   rintro e w1 ⟨s0,s1,s2,s3,rfl,hs,hv,hbl⟩
   have HV:=Lib.hid hv;obtain⟨hc,hf⟩:=rI hbl;have hz:w.heap.size+1+1<w1.heap.size:=by have:=hbl.size; simp at this; omega
   have HBL:=Lib.hid hbl;clear hv hbl;go_wp2_with fail;refine bodyPost_ret (v:=.agg #[.int .u64 s0,.int .u64 s1,.int .u64 s2,.int .u64 s3]) (by simp[results,results121,go_sem, *]) rfl ?_;refine⟨_,_,_,_,rfl,hs,HV.out.trans HGV.out,?_⟩;refine aM (Below.trans ?_ (HBL.out.mono (by simp; omega))) (by omega) _ _ _ _
   repeat (first|exact Below.refl _ _|refine Below.drew ?_|refine Below.alloc ?_ (by first|(simp; done)|(simp; omega)) _)
def tN (V M:Nat):Bool:=decide (V<M)
theorem Iw {V M c D:Nat} (hD:D<115792089237316195423570985008687907853269984665640564039457584007913129639936) (hc:c≤1) (e:D+M=V+115792089237316195423570985008687907853269984665640564039457584007913129639936*c) (hM:M<115792089237316195423570985008687907853269984665640564039457584007913129639936) (hV:V<115792089237316195423570985008687907853269984665640564039457584007913129639936):((c:Int)==1)=tN V M:=by
 have:c=0∨c=1:=by omega
 unfold tN
 rcases this with rfl|rfl
 ·rw[decide_eq_false (by omega)]; rfl
 ·rw[decide_eq_true (by omega)]; rfl
theorem sS {a b:Bool} (h:a=b):Ending.returned (.bool a)=.returned (.bool b):=by rw[h]
set_option maxHeartbeats 1000000 in
theorem cO (F:FC) (hF:F.Ok) (b a0 a1 a2 a3:Nat) (ha:aZ a0 a1 a2 a3) (w:World) (hk:KIs w b F) :
  Calls prog 50 #[.pointer (some ⟨b,0,none⟩),.agg #[.int .u64 a0,.int .u64 a1,.int .u64 a2,.int .u64 a3]] w fun e w'=>e=.returned (.bool (tN (aA a0 a1 a2 a3) F.M))∧Below w.heap.size w w':=by
 obtain⟨d0,c0,d1,c1,d2,c2,d3,c3,r0,r1,r2,r3,hd,hc,e⟩:=yA ha hF.okm;have HB:=Lib.hid (Iw (cE hd) hc e.out (cE hF.okm) (cE ha));have hL:=hk.lt;have hL':b≠w.heap.size:=by omega
 have k0:=hk.k0; have k1:=hk.k1; have k2:=hk.k2; have k3:=hk.k3;clear hk hF e
 go_enter func50,ntmps50
 go_wp2_with fail
 go_quiet (fail)
 go_wp2_with fail
 go_quiet (fail)
 go_wp2_with fail
 go_quiet (fail)
 go_wp2_with fail
 go_quiet (fail)
 go_wp2_with fail;go_ret;exact⟨sS HB.out,by repeat (first|exact Below.refl _ _|refine Below.drew ?_|exact aN _ _ _|refine Below.alloc ?_ (by first|(simp; done)|(simp; omega)) _|refine Below.trans ?_ (aN _ _ _))⟩
set_option maxHeartbeats 1000000 in
theorem EE (F:FC) (hF:F.Ok) (b a0 a1 a2 a3 b0 b1 b2 b3:Nat) (ha:aZ a0 a1 a2 a3) (hb:aZ b0 b1 b2 b3) (la:aA a0 a1 a2 a3<F.M) (lb:aA b0 b1 b2 b3<F.M) (w:World) (hk:KIs w b F) :
  Calls prog 136 #[.pointer (some ⟨b,0,none⟩),.agg #[.int .u64 a0,.int .u64 a1,.int .u64 a2,.int .u64 a3],.agg #[.int .u64 b0,.int .u64 b1,.int .u64 b2,.int .u64 b3]] w (eK ((aA a0 a1 a2 a3+aA b0 b1 b2 b3)%F.M) w):=by
 obtain⟨d0,c0,d1,c1,d2,c2,d3,c3,r0,r1,r2,r3,hd,hc,e⟩:=JV ha hb;have e':aA d0 d1 d2 d3=aA a0 a1 a2 a3+aA b0 b1 b2 b3:=by have:=e.out; have:=hF.two; omega
 rw[←e'];have hlt:aA d0 d1 d2 d3<2*F.M:=by omega
 have HK:=Lib.hid hk;have hL:=hk.lt;clear e e' hk
 go_enter func136,ntmps136
 go_wp2_with fail;refine (tA F hF b d0 d1 d2 d3 hd hlt _ (HK.out.same ?_)).mono ?_
 ·repeat (first|exact Below.refl _ _|refine Below.drew ?_|refine Below.alloc ?_ (by first|(simp; done)|(simp; omega)) _)
 rintro e w1 ⟨s0,s1,s2,s3,rfl,hs,hv,hbl⟩
 have HV:=Lib.hid hv;obtain⟨hc,hf⟩:=rI hbl;have hz:w.heap.size+1+1<w1.heap.size:=by have:=hbl.size; simp at this; omega
 have HBL:=Lib.hid hbl;clear hv hbl;go_wp2_with fail;refine bodyPost_ret (v:=.agg #[.int .u64 s0,.int .u64 s1,.int .u64 s2,.int .u64 s3]) (by simp[results,results136,go_sem, *]) rfl ?_;refine⟨_,_,_,_,rfl,hs,HV.out,?_⟩;refine aM (Below.trans ?_ (HBL.out.mono (by simp; omega))) (by omega) _ _ _ _
 repeat (first|exact Below.refl _ _|refine Below.drew ?_|refine Below.alloc ?_ (by first|(simp; done)|(simp; omega)) _)
theorem MG {A B D M c:Nat} (ha:A<M) (hb:B<M) (e:D+B=A+115792089237316195423570985008687907853269984665640564039457584007913129639936*c) (hc:c≤1) (hD:D<115792089237316195423570985008687907853269984665640564039457584007913129639936) (hM:2*M<115792089237316195423570985008687907853269984665640564039457584007913129639936) :
  (c=0→D=(A+M-B)%M)∧(c=1→∀E c',E+115792089237316195423570985008687907853269984665640564039457584007913129639936*c'=D+M→c'≤1→E<115792089237316195423570985008687907853269984665640564039457584007913129639936→E=(A+M-B)%M):=by
 refine⟨fun h => ?_,fun h E c' e' hc' hE => ?_⟩
 ·subst h;rw[show A+M-B=(A-B)+M by omega,Nat.add_mod_right,Nat.mod_eq_of_lt (by omega)]; omega
 ·subst h;have:c'=0∨c'=1:=by omega
  rw[Nat.mod_eq_of_lt (by omega)]; omega
set_option maxHeartbeats 1000000 in
theorem lM (F:FC) (hF:F.Ok) (b a0 a1 a2 a3 b0 b1 b2 b3:Nat) (ha:aZ a0 a1 a2 a3) (hb:aZ b0 b1 b2 b3) (la:aA a0 a1 a2 a3<F.M) (lb:aA b0 b1 b2 b3<F.M) (w:World) (hk:KIs w b F) :
  Calls prog 103 #[.pointer (some ⟨b,0,none⟩),.agg #[.int .u64 a0,.int .u64 a1,.int .u64 a2,.int .u64 a3],.agg #[.int .u64 b0,.int .u64 b1,.int .u64 b2,.int .u64 b3]] w (eK ((aA a0 a1 a2 a3+F.M-aA b0 b1 b2 b3)%F.M) w):=by
 obtain⟨d0,c0,d1,c1,d2,c2,d3,c3,r0,r1,r2,r3,hd,hc,e⟩:=yA ha hb;have hv:=MG la lb e.out hc (cE hd) hF.two;have hL:=hk.lt;have hL1:b<w.heap.size+1:=by omega
 have hL2:b<w.heap.size+1+1:=by omega
 have k0:=hk.k0; have k1:=hk.k1; have k2:=hk.k2; have k3:=hk.k3;have HM:=Lib.hid (show F.M=aA F.m0 F.m1 F.m2 F.m3 from rfl);clear la lb e hk;have hc':c3=0∨c3=1:=by omega
 rcases hc' with rfl|rfl
 ·have HV:=Lib.hid (hv.1 rfl);clear hv hF
  go_enter func103,ntmps103
  go_wp2_with fail;refine bodyPost_ret (v:=.agg #[.int .u64 d0,.int .u64 d1,.int .u64 d2,.int .u64 d3]) (by simp[results,results103,go_sem]) rfl ?_;refine⟨_,_,_,_,rfl,hd,HV.out,?_⟩
  repeat (first|exact Below.refl _ _|refine Below.drew ?_|refine Below.alloc ?_ (by first|(simp; done)|(simp; omega)) _|refine Below.setCell ?_ (by simp) _)
 ·obtain⟨n0,g0,n1,g1,n2,g2,n3,g3,q0,q1,q2,q3,hn,hg,f⟩:=JV hd hF.okm;have HV:=Lib.hid (hv.2 rfl _ _ (by rw[HM.out]; exact f.out) hg (cE hn));clear hv f hF
  go_enter func103,ntmps103
  go_wp2_with fail;refine bodyPost_ret (v:=.agg #[.int .u64 n0,.int .u64 n1,.int .u64 n2,.int .u64 n3]) (by simp[results,results103,go_sem]) rfl ?_;refine⟨_,_,_,_,rfl,hn,HV.out,?_⟩
  repeat (first|exact Below.refl _ _|refine Below.drew ?_|refine Below.alloc ?_ (by first|(simp; done)|(simp; omega)) _|refine Below.setCell ?_ (by simp) _)
end Go.Proofs.YtpjlhhpjpnacmaaGreat
