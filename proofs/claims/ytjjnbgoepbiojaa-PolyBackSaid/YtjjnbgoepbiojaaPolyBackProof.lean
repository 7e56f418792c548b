/-
  THE STATEMENT PolyBack, lifted: for any arguments the law answers true and its arguments read as they did. Conditions: the row's own.
-/
import Derived.Test.YtjjnbgoepbiojaaPt15
import Derived.Test.YtjjnbgoepbiojaaPt11
import Derived.Test.YtjjnbgoepbiojaaProg
set_option maxRecDepth 100000
set_option linter.unusedVariables false
set_option linter.unusedSimpArgs false
set_option linter.unnecessarySimpa false
namespace Go.Proofs.Ytjjnbgoepbiojaa
open Go.Proofs.Try
open Go.ChangeShapes Go.WideShapes Go.ChangeAt Go.RowKit
theorem DK {H:Type} {enc:TypeId×Value→H} {P:Program} {w:World} {base:Nat} {spare:Nat→Bool} {held:Bool} {t0 t1 t2 t3 t4:TypeId} {args:Array Value} {ds:List (DataW H)} {ps:List MemPlace} (h:DataW.TrodAll enc P w base spare held [t0,t1,t2,t3,t4] args.toList ds ps) :
  ∃v0 v1 v2 v3 v4 d0 d1 d2 d3 d4 p0 p1 p2 p3 p4,args = #[v0,v1,v2,v3,v4]∧ds=[d0,d1,d2,d3,d4]∧ps=p0++p1++p2++p3++p4∧DataW.Trod enc P w base spare held t0 v0 d0 p0∧DataW.Trod enc P w base spare held t1 v1 d1 p1∧DataW.Trod enc P w base spare held t2 v2 d2 p2∧DataW.Trod enc P w base spare held t3 v3 d3 p3∧DataW.Trod enc P w base spare held t4 v4 d4 p4:=by
 obtain⟨w0,vs0,e0,ds0,q0,r0,hargs,rfl,rfl,g0,k0⟩:=trodAll_cons h;obtain⟨w1,vs1,e1,ds1,q1,r1,rfl,rfl,rfl,g1,k1⟩:=trodAll_cons k0;obtain⟨w2,vs2,e2,ds2,q2,r2,rfl,rfl,rfl,g2,k2⟩:=trodAll_cons k1;obtain⟨w3,vs3,e3,ds3,q3,r3,rfl,rfl,rfl,g3,k3⟩:=trodAll_cons k2;obtain⟨w4,vs4,e4,ds4,q4,r4,rfl,rfl,rfl,g4,k4⟩:=trodAll_cons k3;obtain⟨rfl,rfl,rfl⟩:=trodAll_nil k4;exact⟨w0,w1,w2,w3,w4,e0,e1,e2,e3,e4,q0,q1,q2,q3,q4,by cases args; simp_all,rfl,by simp,g0,g1,g2,g3,g4⟩
theorem wP {H:Type} {enc:TypeId×Value→H} {P:Program} {w:World} {base:Nat} {spare:Nat→Bool} {held:Bool} {t0 t1 t2 t3 t4:TypeId} {v0 v1 v2 v3 v4:Value} {d0 d1 d2 d3 d4:DataW H} {p0 p1 p2 p3 p4:List MemPlace} (h0:DataW.Trod enc P w base spare held t0 v0 d0 p0) (h1:DataW.Trod enc P w base spare held t1 v1 d1 p1) (h2:DataW.Trod enc P w base spare held t2 v2 d2 p2) (h3:DataW.Trod enc P w base spare held t3 v3 d3 p3) (h4:DataW.Trod enc P w base spare held t4 v4 d4 p4):DataW.TrodAll enc P w base spare held [t0,t1,t2,t3,t4] [v0,v1,v2,v3,v4] [d0,d1,d2,d3,d4] (p0++(p1++(p2++(p3++p4)))):=⟨p0,(p1++(p2++(p3++p4))),h0,trodAll_mk4 h1 h2 h3 h4,rfl⟩
theorem qZ (os:Os) (started:os.Started) (H:Type) (enc:TypeId×Value→H) :
  ReturnsInHanded {} checked os 6 .any (Rows.polyBackSpec.pre6 enc prog f6 Rows.polyBackRow.domain false) (Rows.polyBackSpec.post enc prog f6 false true false false):=by
 refine returnsInHanded_of_change_sized (C:=checked) dH started (by kernel_rfl) func6
  (ChangeSpec.witness6 (enc:=enc) (C:=checked) false ⟨#[],#[.slice none 0 0,.int .i64 0,.agg #[.int .u64 0,.int .u64 0,.int .u64 0,.int .u64 0],.agg #[.int .u64 0,.int .u64 0,.int .u64 0,.int .u64 0],.agg #[.int .u64 0,.int .u64 0,.int .u64 0,.int .u64 0]],[]⟩ 8 (by kernel_rfl) (by kernel_rfl) (by kernel_rfl) (by kernel_rfl)) ?_
 intro W base args ds gs before hval0 hW hcnd hsz0 _;have hval:∀(j:Nat) t v,f6.params[j]?=some t→args[j]?=some v→Value.okWide prog W .any base t v:=hval0
 have hW':=hW;obtain⟨p,q,hA0,hV,rfl,hfz,hnd⟩:=hW;have hA:DataW.TrodAll enc prog W 0 (fun _=>true) true f6.params.toList args.toList ds p:=hA0;have hsz:(DataW.weightsEach prog (f6.params.toList++Rows.polyBackSpec.plain.varTypes prog) (ds++gs)).all (· ≤ reachBytes)=true:=hsz0;rw[params6]at hA hval hsz;obtain⟨v0,v1,v2,v3,v4,d0,d1,d2,d3,d4,p0,p1,p2,p3,p4,rfl,rfl,rfl,h0,h1,h2,h3,h4⟩:=DK hA;obtain⟨rfl,rfl⟩:=trodVars_none hV;obtain⟨bo0,bn0,bc0,rfl⟩:=okWide_slice underlying22 (hval 0 _ _ rfl rfl);obtain⟨z1,rfl,rfl,rfl,g1⟩:=open_int underlying3 (hval 1 _ _ rfl rfl) h1;obtain⟨y2,g2,rfl⟩:=Ex.tA hval 2 rfl rfl h2;obtain⟨y3,g3,rfl⟩:=Ex.tA hval 3 rfl rfl h3;obtain⟨y4,g4,rfl⟩:=Ex.tA hval 4 rfl rfl h4;clear hA0 hval0;simp only[List.append_nil]at hW';have l0:∀x∈p0,x.block<W.heap.size:=fun x hx=>hW'.lt x (by simp[hx])
 have l1:∀x∈([]:List MemPlace),x.block<W.heap.size:=fun x hx=>by cases hx
 have l2:∀x∈p2,x.block<W.heap.size:=fun x hx=>hW'.lt x (by simp[hx])
 have l3:∀x∈p3,x.block<W.heap.size:=fun x hx=>hW'.lt x (by simp[hx])
 have l4:∀x∈p4,x.block<W.heap.size:=fun x hx=>hW'.lt x (by simp[hx])
 obtain⟨f0,lv0,nz0,sz0⟩:=Ex.tB h0 l0 (fun elems spare e=>sized_slice hsz (j:=0) (t:=22) (e:=25) rfl (by rw[e]; rfl) underlying22);refine (Ex.GL z1 lv0 (by omega) g2 g3 g4).mono fun e W' ⟨he,hbl⟩ => ?_
 subst he;have kP:∀{v d ps},DataW.Trod enc prog W 0 (fun _=>true) true 25 v d ps→(∀x∈ps,x.block<W.heap.size)→DataW.Trod enc prog W' 0 (fun b=>decide (b<W.heap.size)) true 25 v d ps :=
  fun h l=>Below.trod iA (by kernel_rfl) (of_decide_eq_true (by kernel_rfl)) h hbl l
 have kV:∀{v d ps},DataW.Trod enc prog W 0 (fun _=>true) true 22 v d ps→(∀x∈ps,x.block<W.heap.size)→DataW.Trod enc prog W' 0 (fun b=>decide (b<W.heap.size)) true 22 v d ps :=
  fun h l=>Below.trod iA (by kernel_rfl) (of_decide_eq_true (by kernel_rfl)) h hbl l
 have ki:∀{v d ps},DataW.Trod enc prog W 0 (fun _=>true) true 3 v d ps→(∀x∈ps,x.block<W.heap.size)→DataW.Trod enc prog W' 0 (fun b=>decide (b<W.heap.size)) true 3 v d ps :=
  fun h l=>Below.trod iA (by kernel_rfl) (of_decide_eq_true (by kernel_rfl)) h hbl l
 exact⟨_,rfl,⟨_,_,_,[],_,[],hW',trodAll_mk1 (shut_bool underlying4 _),wP (kV h0 l0) (ki h1 l1) (kP h2 l2) (kP h3 l3) (kP h4 l4),rfl,hbl.frame _,fun h=>by cases h⟩⟩
theorem polyback_holds:Rows.PolyBackSaid :=
 OpenClaim.holds_of_wide 6 f6 rfl rfl rfl rfl rfl rfl rfl ⟨rfl,rfl,rfl,rfl,rfl⟩ rfl rfl rfl rfl rfl (by kernel_rfl) func6 (by kernel_rfl)
  (of_decide_eq_true (by kernel_rfl)) (by unfold Func.isWrapper; first|(rw[if_pos (by decide +kernel)]; kernel_rfl)|(rw[if_neg (by decide +kernel)]; exact⟨rfl,rfl⟩))
  (fun os started H enc _=>qZ os started H enc)
end Go.Proofs.Ytjjnbgoepbiojaa
