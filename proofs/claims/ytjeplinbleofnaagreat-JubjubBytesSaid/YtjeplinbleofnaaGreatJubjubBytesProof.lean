/-
  THE STATEMENT JubjubBytes, lifted: for any arguments the law answers true and its arguments read as they did. Conditions: the row's own.
-/
import Derived.SizedLaws
import Derived.ChangeSlices
import Derived.Test.YtjeplinbleofnaaGreatJz14
import Derived.Test.YtjeplinbleofnaaGreatProg
set_option maxRecDepth 100000
set_option linter.unusedVariables false
set_option linter.unusedSimpArgs false
set_option linter.unnecessarySimpa false
namespace Go.Proofs.YtjeplinbleofnaaGreat
open Go.Proofs.Tryz
open Go.ChangeShapes Go.WideShapes Go.ChangeAt Go.RowKit
theorem IN:prog.cellsOf 5=1:=by kernel_rfl
theorem IP:prog.bytesOf 5=1:=by kernel_rfl
theorem JQ {H:Type} {enc:TypeId×Value→H} {W:World} {o:Option Addr} {len cap:Nat} {d:DataW H} {ps:List MemPlace} (h:DataW.Trod enc prog W 0 (fun _=>true) true 27 (.slice o len cap) d ps) (hl:∀x∈ps,x.block<W.heap.size)
  (hsz:∀elems spare,d=.slice elems spare→(elems.length+spare.length)*prog.bytesOf 5≤reachBytes) :
  (len=0∧(o=none→cap=0))∨∃(b off:Nat) (B:Nat→Nat),o=some ⟨b,off,none⟩∧(∀k,B k<256)∧len≤140737488355328∧b<W.heap.size∧∀k,k<len→W.cell? ⟨b,off+k,none⟩=some (.int .u8 (Int.ofNat (B k))):=by
 obtain⟨fuel,hf⟩:=h
 rcases open_ints underlying27 underlying5 IN hf with⟨hcs,hx⟩|⟨a,len',cap',zs,hcs,_,hl',hm,hz,hx,hcell,hwz⟩
 ·simp[Value.cells]at hcs;obtain⟨rfl,rfl,rfl⟩:=hcs;exact Or.inl ⟨rfl,fun _=>rfl⟩
 ·simp[Value.cells]at hcs;obtain⟨rfl,rfl,rfl⟩:=hcs;simp only[Prod.mk.injEq]at hx;obtain⟨rfl,rfl⟩:=hx;simp only[if_true]at hz
  by_cases h0:len=0
  ·exact Or.inl ⟨h0,fun h=>by cases h⟩
  right;have hs:=hsz _ _ rfl;rw[IP]at hs;have hlen:len≤140737488355328:=by
   have e1:(lits (H:=H) .u8 (zs.take len)).length=len:=by simp[lits]; omega
   rw[e1]at hs;simp only[reachBytes]at hs;omega
  obtain⟨b,off,spot⟩:=a;have hspot:spot=none:=by simpa[Addr.add]using World.cell?_spot (hcell 0 (by omega))
  subst hspot;have hb:b<W.heap.size:=hl (.cell b off) (MemPlace.mem_row.2 ⟨0,by omega,by simp⟩);have hB:∀k,∃n:Nat,n<256∧zs.getD k 0=(n:Int):=fun k=>by
   by_cases hk:k<zs.length
   ·have h1:=bounds_u8 (hwz (zs[k]) (List.getElem_mem hk));refine⟨(zs[k]).toNat,by omega,?_⟩;rw[List.getD_eq_getElem?_getD,List.getElem?_eq_getElem hk];show zs[k]=_;omega
   ·exact⟨0,by omega,by rw[List.getD_eq_getElem?_getD,List.getElem?_eq_none (by omega)]; rfl⟩
  refine⟨b,off,fun k=>Classical.choose (hB k),rfl,fun k=>(Classical.choose_spec (hB k)).1,hlen,hb,fun k hk => ?_⟩;have e2:=(Classical.choose_spec (hB k)).2;have e3:=hcell k (by omega);rw[e2]at e3;have e4:(⟨b,off,none⟩:Addr).add k=⟨b,off+k,none⟩:=by simp[Addr.add]
  rw[e4]at e3;exact e3
theorem mK (os:Os) (started:os.Started) (H:Type) (enc:TypeId×Value→H) :
  ReturnsInHanded {} checked os 3 .any (Rows.jubjubBytesSpec.pre6 enc prog f3 Rows.jubjubBytesRow.domain false) (Rows.jubjubBytesSpec.post enc prog f3 false true false false):=by
 refine returnsInHanded_of_change_sized (C:=checked) qO started (by kernel_rfl) func3
  (ChangeSpec.witness6 (enc:=enc) (C:=checked) false ⟨#[],#[.agg #[.int .u64 0,.int .u64 0,.int .u64 0,.int .u64 0,.int .u64 0,.int .u64 0,.int .u64 0,.int .u64 0],.slice none 0 0],[]⟩ 8 (by kernel_rfl) (by kernel_rfl) (by kernel_rfl) (by kernel_rfl)) ?_
 intro W base args ds gs before hval0 hW hcnd hsz0 _;have hval:∀(j:Nat) t v,f3.params[j]?=some t→args[j]?=some v→Value.okWide prog W .any base t v:=hval0
 have hW':=hW;obtain⟨p,q,hA0,hV,rfl,hfz,hnd⟩:=hW;have hA:DataW.TrodAll enc prog W 0 (fun _=>true) true f3.params.toList args.toList ds p:=hA0;have hsz:(DataW.weightsEach prog (f3.params.toList++Rows.jubjubBytesSpec.plain.varTypes prog) (ds++gs)).all (· ≤ reachBytes)=true:=hsz0;rw[params3]at hA hval hsz;obtain⟨v0,v1,d0,d1,p0,p1,rfl,rfl,rfl,h0,h1⟩:=trodAll_two hA;obtain⟨rfl,rfl⟩:=trodVars_none hV;obtain⟨x,gx,rfl⟩:=Ex.VA hval 0 rfl rfl h0;obtain⟨bo,bn,bc,rfl⟩:=okWide_slice underlying27 (hval 1 _ _ rfl rfl);clear hA0 hval0;simp only[List.append_nil]at hW';have l0:∀x∈p0,x.block<W.heap.size:=fun x hx=>hW'.lt x (by simp[hx])
 have l1:∀x∈p1,x.block<W.heap.size:=fun x hx=>hW'.lt x (by simp[hx])
 have hop:=JQ h1 l1 (fun elems spare e=>sized_slice hsz (j:=1) (t:=27) (e:=5) rfl (by rw[e]; rfl) underlying27);have hcall:Calls prog 3 #[.agg (Ex.aD (Ex.q2 x)).toArray,.slice bo bn bc] W (fun e w'=>e=.returned (.bool true)∧Below W.heap.size W w'):=by
  rcases hop with⟨rfl,hc⟩|⟨b,off,B,rfl,hB,hn,hb,hcell⟩
  ·exact Ex.zF x gx bo bc hc W
  ·exact Ex.Cv x gx b off bn bc B hB hn W hb hcell
 refine hcall.mono fun e W' ⟨he,hbl⟩ => ?_
 subst he;have kE:∀{v d ps},DataW.Trod enc prog W 0 (fun _=>true) true 26 v d ps→(∀x∈ps,x.block<W.heap.size)→DataW.Trod enc prog W' 0 (fun b=>decide (b<W.heap.size)) true 26 v d ps :=
  fun h l=>Below.trod GE (by kernel_rfl) (of_decide_eq_true (by kernel_rfl)) h hbl l
 have kb:∀{v d ps},DataW.Trod enc prog W 0 (fun _=>true) true 27 v d ps→(∀x∈ps,x.block<W.heap.size)→DataW.Trod enc prog W' 0 (fun b=>decide (b<W.heap.size)) true 27 v d ps :=
  fun h l=>Below.trod GE (by kernel_rfl) (of_decide_eq_true (by kernel_rfl)) h hbl l
 exact⟨_,rfl,⟨_,_,_,[],_,[],hW',trodAll_mk1 (shut_bool underlying4 _),trodAll_mk2 (kE h0 l0) (kb h1 l1),rfl,hbl.frame _,fun h=>by cases h⟩⟩
theorem jubjubbytes_holds:Rows.JubjubBytesSaid :=
 OpenClaim.holds_of_wide 3 f3 rfl rfl rfl rfl rfl rfl rfl ⟨rfl,rfl,rfl,rfl,rfl⟩ rfl rfl rfl rfl rfl (by kernel_rfl) func3 (by kernel_rfl)
  (of_decide_eq_true (by kernel_rfl)) (by unfold Func.isWrapper; first|(rw[if_pos (by decide +kernel)]; kernel_rfl)|(rw[if_neg (by decide +kernel)]; exact⟨rfl,rfl⟩))
  (fun os started H enc _=>mK os started H enc)
end Go.Proofs.YtjeplinbleofnaaGreat
