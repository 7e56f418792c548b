/-
  THE STATEMENT PairingChecks, lifted: for any arguments the law answers true and its arguments read as they did. Conditions: the row's own.
-/
import Derived.SizedLaws
import Derived.Test.YtglgakbkdjhojaaGreatPc14
import Derived.Test.YtglgakbkdjhojaaGreatProg
set_option maxRecDepth 100000
set_option linter.unusedVariables false
set_option linter.unusedSimpArgs false
namespace Go.Proofs.YtglgakbkdjhojaaGreat
open Go.Proofs.Tryz
open Go.ChangeShapes Go.WideShapes Go.ChangeAt Go.RowKit
theorem Vi:prog.bytesOf 25=32:=by kernel_rfl
theorem MI {H:Type} {enc:TypeId×Value→H} {W:World} {o:Option Addr} {len cap:Nat} {d:DataW H} {ps:List MemPlace} (h:DataW.Trod enc prog W 0 (fun _=>true) true 60 (.slice o len cap) d ps) (hl:∀x∈ps,x.block<W.heap.size)
  (hsz:∀elems spare,d=.slice elems spare→(elems.length+spare.length)*prog.bytesOf 25≤reachBytes) :
  ∃A,FIs W o len A∧len≤cap:=by
 have hop:=(aBp h hl).2;obtain⟨fuel,hf⟩:=h;have hlen:len*32≤140737488351232∧len≤cap:=by
  rcases DataW.trod_slice underlying60 hf with⟨hcs,_⟩|⟨a,len',cap',elems,rest,n,_,hcs,hx,hb,hlc,hm,hlen,hel,_⟩
  ·simp[Value.cells]at hcs;obtain⟨rfl,rfl,rfl⟩:=hcs;exact⟨by omega,Nat.le_refl _⟩
  ·simp[Value.cells]at hcs;obtain⟨rfl,rfl,rfl⟩:=hcs;have hs:=hsz _ _ (congrArg Prod.fst hx);rw[Vi]at hs;simp only[List.length_map,reachBytes]at hs;exact⟨by omega,hlc⟩
 rcases hop with h0|⟨h0,g,off,A,rfl,hg,hA,hc⟩
 ·subst h0;exact⟨fun _ _=>0,⟨by omega,fun k hk=>absurd hk (by omega),fun h=>absurd h (by omega)⟩,hlen.2⟩
 ·exact⟨A,⟨hlen.1,hA,fun _=>⟨g,off,rfl,hg,hc⟩⟩,hlen.2⟩
theorem sU (os:Os) (started:os.Started) (H:Type) (enc:TypeId×Value→H) :
  ReturnsInHanded {} checked os 5 .any (Rows.pairingChecksSpec.pre6 enc prog f5 Rows.pairingChecksRow.domain false) (Rows.pairingChecksSpec.post enc prog f5 false true false false):=by
 refine returnsInHanded_of_change_sized (C:=checked) DT started (by kernel_rfl) func5
  (ChangeSpec.witness6 (enc:=enc) (C:=checked) false ⟨#[],#[.slice none 0 0,.slice none 0 0],[]⟩ 8 (by kernel_rfl) (by kernel_rfl) (by kernel_rfl) (by kernel_rfl)) ?_
 intro W base args ds gs before hval0 hW hcnd hsz0 _;have hval:∀(j:Nat) t v,f5.params[j]?=some t→args[j]?=some v→Value.okWide prog W .any base t v:=hval0
 have hW':=hW;obtain⟨p,q,hA0,hV,rfl,hfz,hnd⟩:=hW;have hA:DataW.TrodAll enc prog W 0 (fun _=>true) true f5.params.toList args.toList ds p:=hA0;have hsz:(DataW.weightsEach prog (f5.params.toList++Rows.pairingChecksSpec.plain.varTypes prog) (ds++gs)).all (· ≤ reachBytes)=true:=hsz0;rw[params5]at hA hval hsz;obtain⟨v0,v1,d0,d1,p0,p1,rfl,rfl,rfl,h0,h1⟩:=trodAll_two hA;obtain⟨rfl,rfl⟩:=trodVars_none hV;obtain⟨bo,bn,bc,rfl⟩:=okWide_slice underlying60 (hval 0 _ _ rfl rfl);obtain⟨co,cn,cc,rfl⟩:=okWide_slice underlying60 (hval 1 _ _ rfl rfl);clear hA0 hval0;simp only[List.append_nil]at hW';have l0:∀x∈p0,x.block<W.heap.size:=fun x hx=>hW'.lt x (by simp[hx])
 have l1:∀x∈p1,x.block<W.heap.size:=fun x hx=>hW'.lt x (by simp[hx])
 obtain⟨A,hA1,hA2⟩:=MI h0 l0 (fun elems spare e=>sized_slice hsz (j:=0) (t:=60) (e:=25) rfl (by rw[e]; rfl) underlying60);obtain⟨B,hB1,hB2⟩:=MI h1 l1 (fun elems spare e=>sized_slice hsz (j:=1) (t:=60) (e:=25) rfl (by rw[e]; rfl) underlying60);refine (Ex.SZ bo bn bc co cn cc A B W hA1 hB1 hA2 hB2).mono fun e W' ⟨he,hbl⟩ => ?_
 subst he;have kl:∀{v d ps},DataW.Trod enc prog W 0 (fun _=>true) true 60 v d ps→(∀x∈ps,x.block<W.heap.size)→DataW.Trod enc prog W' 0 (fun b=>decide (b<W.heap.size)) true 60 v d ps :=
  fun h l=>Below.trod aIX (by kernel_rfl) (of_decide_eq_true (by kernel_rfl)) h hbl l
 exact⟨_,rfl,⟨_,_,_,[],_,[],hW',trodAll_mk1 (shut_bool underlying4 _),trodAll_mk2 (kl h0 l0) (kl h1 l1),rfl,hbl.frame _,fun h=>by cases h⟩⟩
theorem pairingchecks_holds:Rows.PairingChecksSaid :=
 OpenClaim.holds_of_wide 5 f5 rfl rfl rfl rfl rfl rfl rfl ⟨rfl,rfl,rfl,rfl,rfl⟩ rfl rfl rfl rfl rfl (by kernel_rfl) func5 (by kernel_rfl)
  (of_decide_eq_true (by kernel_rfl)) (by unfold Func.isWrapper; first|(rw[if_pos (by decide +kernel)]; kernel_rfl)|(rw[if_neg (by decide +kernel)]; exact⟨rfl,rfl⟩))
  (fun os started H enc _=>sU os started H enc)
end Go.Proofs.YtglgakbkdjhojaaGreat
