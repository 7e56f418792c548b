/-
  A product with a number that is not below the modulus is refused. Conditions: none.
  CurveProducts answers true. Conditions: none.
  An argument that is an element of a field is opened. Conditions: none of its own.
-/
import Derived.Test.YthlcjdcjnioeoaaGreatCj19
import Derived.Test.YthlcjdcjnioeoaaGreatCj17
namespace Go.Proofs.YthlcjdcjnioeoaaGreat
set_option linter.unusedVariables false
set_option linter.unusedSimpArgs false
open Go.RowKit
set_option maxRecDepth 100000 in
set_option maxHeartbeats 2000000 in
theorem fmul_err (f c : Int) (a0 a1 a2 a3 b0 b1 b2 b3 : Nat) (ha : ok4 a0 a1 a2 a3) (hb : ok4 b0 b1 b2 b3) (h : Bad2 f (val4 a0 a1 a2 a3) (val4 b0 b1 b2 b3) c) (w : World) :
    Calls Tryz.prog 42 #[.int .i64 f, .agg #[.int .u64 a0, .int .u64 a1, .int .u64 a2, .int .u64 a3], .agg #[.int .u64 b0, .int .u64 b1, .int .u64 b2, .int .u64 b3]] w fun e w' => e = .returned (.tuple #[.agg #[.int .u64 0, .int .u64 0, .int .u64 0, .int .u64 0], .int .i64 c]) ∧ Below w.heap.size w w' := by
  rcases h with (⟨h1, h2, rfl⟩ | ⟨F, hf, la, rfl⟩) | ⟨F, hf, la, lb, rfl⟩
  · go_enter Tryz.func42, Tryz.ntmps42
    go_wp2_with fail
    refine (cons_none f h1 h2 _).mono ?_
    rintro e w1 ⟨rfl, hbl⟩
    have M1 := ((((Mem.nil w).new (w.heap.size) a0 a1 a2 a3 24 (by simp)).new (w.heap.size + 1) b0 b1 b2 b3 24 (by simp)).new (w.heap.size + 1 + 1) 0 0 0 0 24 (by simp)).on hbl
    clear hbl
    have z0 : w.heap.size < w1.heap.size := M1.lt (c0 := a0) (c1 := a1) (c2 := a2) (c3 := a3) (by simp)
    have z1 : w.heap.size + 1 < w1.heap.size := M1.lt (c0 := b0) (c1 := b1) (c2 := b2) (c3 := b3) (by simp)
    have z2 : w.heap.size + 1 + 1 < w1.heap.size := M1.lt (c0 := 0) (c1 := 0) (c2 := 0) (c3 := 0) (by simp)
    have HM := Lib.hid (M1.on ((Below.refl _ _).alloc (Nat.le_refl _) (.cells #[.int .u64 0, .int .u64 0, .int .u64 0, .int .u64 0, .int .u64 0, .int .u64 0, .int .u64 0, .int .u64 0, .int .u64 0] 129)))
    have kr := M1.row (b := w.heap.size + 1 + 1) (c0 := 0) (c1 := 0) (c2 := 0) (c3 := 0) (by simp)
    have y0 := kr.c0; have y1 := kr.c1; have y2 := kr.c2; have y3 := kr.c3; have yf := kr.fr
    clear kr
    have yl := M1.lt (b := w.heap.size + 1 + 1) (c0 := 0) (c1 := 0) (c2 := 0) (c3 := 0) (by simp)
    go_wp2_with fail
    refine (refusal_one _).mono ?_
    rintro e w2 ⟨rfl, rfl⟩
    go_wp2_with fail
    refine bodyPost_ret (v := .tuple #[.agg #[.int .u64 0, .int .u64 0, .int .u64 0, .int .u64 0], .int .i64 1]) (by simp [results, Tryz.results42, go_sem, *]) rfl ?_
    refine ⟨rfl, ?_⟩
    repeat (first | exact M1.1 | exact HM.out.1 | refine Below.alloc ?_ (by first | (simp; done) | (simp; omega)) _ | refine Below.setCell ?_ (by first | (simp; done) | (simp; omega)) _)
  · go_enter Tryz.func42, Tryz.ntmps42
    go_wp2_with fail
    refine (cons_some f F hf _).mono ?_
    rintro e w1 ⟨rfl, hbl⟩
    have M1 := ((((Mem.nil w).new (w.heap.size) a0 a1 a2 a3 24 (by simp)).new (w.heap.size + 1) b0 b1 b2 b3 24 (by simp)).new (w.heap.size + 1 + 1) 0 0 0 0 24 (by simp)).on hbl
    clear hbl
    have z0 : w.heap.size < w1.heap.size := M1.lt (c0 := a0) (c1 := a1) (c2 := a2) (c3 := a3) (by simp)
    have z1 : w.heap.size + 1 < w1.heap.size := M1.lt (c0 := b0) (c1 := b1) (c2 := b2) (c3 := b3) (by simp)
    have z2 : w.heap.size + 1 + 1 < w1.heap.size := M1.lt (c0 := 0) (c1 := 0) (c2 := 0) (c3 := 0) (by simp)
    have HM := Lib.hid (M1.on ((Below.refl _ _).alloc (Nat.le_refl _) (.cells #[.int .u64 F.m0, .int .u64 F.m1, .int .u64 F.m2, .int .u64 F.m3, .int .u64 F.inv, .int .u64 F.s0, .int .u64 F.s1, .int .u64 F.s2, .int .u64 F.s3] 129)))
    have KK := Lib.hid (KIs.new w1 F 129)
    have kr := M1.row (b := w.heap.size) (c0 := a0) (c1 := a1) (c2 := a2) (c3 := a3) (by simp)
    have x0 := kr.c0; have x1 := kr.c1; have x2 := kr.c2; have x3 := kr.c3
    clear kr
    have xl := M1.lt (b := w.heap.size) (c0 := a0) (c1 := a1) (c2 := a2) (c3 := a3) (by simp)
    go_wp2_with fail
    refine (has_calls F hf.ok w1.heap.size a0 a1 a2 a3 ha _ KK.out).mono ?_
    rintro e w2 ⟨he, hbl⟩
    rw [show isB (val4 a0 a1 a2 a3) F.M = false from decide_eq_false la] at he
    subst he
    have HM' := Lib.hid (HM.out.on hbl)
    have KK' := Lib.hid (KK.out.same hbl)
    have zk := KK'.out.lt
    clear HM KK hbl M1
    have HM := HM'
    have KK := KK'
    clear HM' KK'
    clear x0 x1 x2 x3 xl zk
    have kr := HM.out.row (b := w.heap.size + 1 + 1) (c0 := 0) (c1 := 0) (c2 := 0) (c3 := 0) (by simp)
    have y0 := kr.c0; have y1 := kr.c1; have y2 := kr.c2; have y3 := kr.c3; have yf := kr.fr
    clear kr
    have yl := HM.out.lt (b := w.heap.size + 1 + 1) (c0 := 0) (c1 := 0) (c2 := 0) (c3 := 0) (by simp)
    go_wp2_with fail
    refine (refusal_two _).mono ?_
    rintro e w3 ⟨rfl, rfl⟩
    go_wp2_with fail
    refine bodyPost_ret (v := .tuple #[.agg #[.int .u64 0, .int .u64 0, .int .u64 0, .int .u64 0], .int .i64 21]) (by simp [results, Tryz.results42, go_sem, *]) rfl ?_
    refine ⟨rfl, ?_⟩
    exact below_set4 HM.out.1 (by omega) 0 0 0 0
  · go_enter Tryz.func42, Tryz.ntmps42
    go_wp2_with fail
    refine (cons_some f F hf _).mono ?_
    rintro e w1 ⟨rfl, hbl⟩
    have M1 := ((((Mem.nil w).new (w.heap.size) a0 a1 a2 a3 24 (by simp)).new (w.heap.size + 1) b0 b1 b2 b3 24 (by simp)).new (w.heap.size + 1 + 1) 0 0 0 0 24 (by simp)).on hbl
    clear hbl
    have z0 : w.heap.size < w1.heap.size := M1.lt (c0 := a0) (c1 := a1) (c2 := a2) (c3 := a3) (by simp)
    have z1 : w.heap.size + 1 < w1.heap.size := M1.lt (c0 := b0) (c1 := b1) (c2 := b2) (c3 := b3) (by simp)
    have z2 : w.heap.size + 1 + 1 < w1.heap.size := M1.lt (c0 := 0) (c1 := 0) (c2 := 0) (c3 := 0) (by simp)
    have HM := Lib.hid (M1.on ((Below.refl _ _).alloc (Nat.le_refl _) (.cells #[.int .u64 F.m0, .int .u64 F.m1, .int .u64 F.m2, .int .u64 F.m3, .int .u64 F.inv, .int .u64 F.s0, .int .u64 F.s1, .int .u64 F.s2, .int .u64 F.s3] 129)))
    have KK := Lib.hid (KIs.new w1 F 129)
    have kr := M1.row (b := w.heap.size) (c0 := a0) (c1 := a1) (c2 := a2) (c3 := a3) (by simp)
    have x0 := kr.c0; have x1 := kr.c1; have x2 := kr.c2; have x3 := kr.c3
    clear kr
    have xl := M1.lt (b := w.heap.size) (c0 := a0) (c1 := a1) (c2 := a2) (c3 := a3) (by simp)
    go_wp2_with fail
    refine (has_calls F hf.ok w1.heap.size a0 a1 a2 a3 ha _ KK.out).mono ?_
    rintro e w2 ⟨he, hbl⟩
    rw [show isB (val4 a0 a1 a2 a3) F.M = true from decide_eq_true la] at he
    subst he
    have HM' := Lib.hid (HM.out.on hbl)
    have KK' := Lib.hid (KK.out.same hbl)
    have zk := KK'.out.lt
    clear HM KK hbl M1
    have HM := HM'
    have KK := KK'
    clear HM' KK'
    clear x0 x1 x2 x3 xl zk
    have kr := HM.out.row (b := w.heap.size + 1) (c0 := b0) (c1 := b1) (c2 := b2) (c3 := b3) (by simp)
    have x0 := kr.c0; have x1 := kr.c1; have x2 := kr.c2; have x3 := kr.c3
    clear kr
    have xl := HM.out.lt (b := w.heap.size + 1) (c0 := b0) (c1 := b1) (c2 := b2) (c3 := b3) (by simp)
    go_wp2_with fail
    refine (has_calls F hf.ok w1.heap.size b0 b1 b2 b3 hb _ KK.out).mono ?_
    rintro e w3 ⟨he, hbl⟩
    rw [show isB (val4 b0 b1 b2 b3) F.M = false from decide_eq_false lb] at he
    subst he
    have HM' := Lib.hid (HM.out.on hbl)
    have KK' := Lib.hid (KK.out.same hbl)
    have zk := KK'.out.lt
    clear HM KK hbl
    have HM := HM'
    have KK := KK'
    clear HM' KK'
    clear x0 x1 x2 x3 xl zk
    have kr := HM.out.row (b := w.heap.size + 1 + 1) (c0 := 0) (c1 := 0) (c2 := 0) (c3 := 0) (by simp)
    have y0 := kr.c0; have y1 := kr.c1; have y2 := kr.c2; have y3 := kr.c3; have yf := kr.fr
    clear kr
    have yl := HM.out.lt (b := w.heap.size + 1 + 1) (c0 := 0) (c1 := 0) (c2 := 0) (c3 := 0) (by simp)
    go_wp2_with fail
    refine (refusal_two _).mono ?_
    rintro e w4 ⟨rfl, rfl⟩
    go_wp2_with fail
    refine bodyPost_ret (v := .tuple #[.agg #[.int .u64 0, .int .u64 0, .int .u64 0, .int .u64 0], .int .i64 21]) (by simp [results, Tryz.results42, go_sem, *]) rfl ?_
    refine ⟨rfl, ?_⟩
    exact below_set4 HM.out.1 (by omega) 0 0 0 0
end Go.Proofs.YthlcjdcjnioeoaaGreat
namespace Go.Proofs.YthlcjdcjnioeoaaGreat.Ex
set_option linter.unusedVariables false
set_option linter.unusedSimpArgs false
open Go.RowKit
/-- a product modulo the order: of numbers below it (d), or of others -/
def gFMul (d : Bool) : Ent
  | [.v (.im (.int .i64 (.ofNat 2))), .v (.fl l), .v (.fl m)] => match rq1 l, rq1 m with
    | some a, some b => bif d then some ([wv a < Go.Proofs.YthlcjdcjnioeoaaGreat.FR.M ∧ wv b < Go.Proofs.YthlcjdcjnioeoaaGreat.FR.M], .many [.fl (q1 (wv a * wv b % Go.Proofs.YthlcjdcjnioeoaaGreat.FR.M)), .im (.int .i64 0)]) else some ([¬ (wv a < Go.Proofs.YthlcjdcjnioeoaaGreat.FR.M ∧ wv b < Go.Proofs.YthlcjdcjnioeoaaGreat.FR.M)], .many [.fl (q1 0), .im (.int .i64 21)])
    | _, _ => none
  | _ => none
theorem fr_pos : 0 < Go.Proofs.YthlcjdcjnioeoaaGreat.FR.M := by rw [Go.Proofs.YthlcjdcjnioeoaaGreat.FR_M]; decide
theorem fr_lt : Go.Proofs.YthlcjdcjnioeoaaGreat.FR.M < 115792089237316195423570985008687907853269984665640564039457584007913129639936 := by rw [Go.Proofs.YthlcjdcjnioeoaaGreat.FR_M]; decide
theorem gFMul_ok (d : Bool) : ∀ cs pre r, gFMul d cs = some (pre, r) → allP pre → ∀ (args : List Value) (w : World), CAs w cs args → Good Tryz.prog 42 r args w := by
  intro cs pre r hg hp args w ha
  unfold gFMul at hg
  split at hg
  · rename_i l m
    split at hg
    · rename_i a b hl hm
      match args, ha with
      | [v, u, s], ha =>
        have h1 : v = .int .i64 2 := ha.1
        have h2 : u = .agg (flat l).toArray := ha.2.1
        have h3 : s = .agg (flat m).toArray := ha.2.2.1
        rw [rq1_ok l _ hl] at h2
        rw [rq1_ok m _ hm] at h3
        subst h1; subst h2; subst h3
        cases d with
        | true =>
          cases hg
          obtain ⟨la, lb⟩ := hp.1
          refine (fmul_ok 2 Go.Proofs.YthlcjdcjnioeoaaGreat.FR (Or.inr ⟨rfl, rfl⟩) _ _ _ _ _ _ _ _ (fw_ok a) (fw_ok b) la lb w).mono ?_
          rintro e w' ⟨s0, s1, s2, s3, rfl, hs, hv, hb⟩
          obtain ⟨rfl, rfl, rfl, rfl⟩ := fw_of hs (Nat.lt_trans (Nat.mod_lt _ fr_pos) fr_lt) hv
          exact ⟨rfl, hb⟩
        | false =>
          cases hg
          have hn : ¬ (wv a < Go.Proofs.YthlcjdcjnioeoaaGreat.FR.M ∧ wv b < Go.Proofs.YthlcjdcjnioeoaaGreat.FR.M) := hp.1
          refine (fmul_err 2 21 _ _ _ _ _ _ _ _ (fw_ok a) (fw_ok b) ?_ w).mono fun e w' h => h
          by_cases la : wv a < Go.Proofs.YthlcjdcjnioeoaaGreat.FR.M
          · exact Or.inr ⟨Go.Proofs.YthlcjdcjnioeoaaGreat.FR, Or.inr ⟨rfl, rfl⟩, la, fun lb => hn ⟨la, lb⟩, rfl⟩
          · exact Or.inl (Or.inr ⟨Go.Proofs.YthlcjdcjnioeoaaGreat.FR, Or.inr ⟨rfl, rfl⟩, la, rfl⟩)
      | [], ha => exact ha.elim
      | [_], ha => exact ha.2.elim
      | [_, _], ha => exact ha.2.2.elim
      | _ :: _ :: _ :: _ :: _, ha => exact ha.2.2.2.elim
    · cases hg
  · cases hg
set_option maxRecDepth 100000 in
theorem run_prod_t (a b : Nat) : funB Tryz.prog (qG Tryz.prog) (fun _ => ⟨fun s => T_works.add 42 (gFMul true), fun s => true, fun _ => none⟩) Tryz.f8 100 [.v (.fl [.q a]), .v (.fl [.q b])] = some ([wv a < Go.Proofs.YthlcjdcjnioeoaaGreat.FR.M ∧ wv b < Go.Proofs.YthlcjdcjnioeoaaGreat.FR.M, flat (gf1 (resM1 (fun _ => (tn1 (resM1 (fun _ => g1n) (fun _ => a) 1).1)) (fun _ => b) 1).1) = flat (gf1 (resM1 (fun _ => g1n) (fun _ => (wv a * wv b % Go.Proofs.YthlcjdcjnioeoaaGreat.FR.M)) 1).1), flat (gf2 (resM2 (fun _ => (tn2 (resM2 (fun _ => g2n) (fun _ => a) 1).1)) (fun _ => b) 1).1) = flat (gf2 (resM2 (fun _ => g2n) (fun _ => (wv a * wv b % Go.Proofs.YthlcjdcjnioeoaaGreat.FR.M)) 1).1)], .one (.im (.bool true))) := by kernel_rfl
set_option maxRecDepth 100000 in
theorem run_prod_e (a b : Nat) : funB Tryz.prog (qG Tryz.prog) (fun _ => ⟨fun s => T_works.add 42 (gFMul false), fun s => true, fun _ => none⟩) Tryz.f8 100 [.v (.fl [.q a]), .v (.fl [.q b])] = some ([¬ (wv a < Go.Proofs.YthlcjdcjnioeoaaGreat.FR.M ∧ wv b < Go.Proofs.YthlcjdcjnioeoaaGreat.FR.M)], .one (.im (.bool true))) := by kernel_rfl
theorem AG.ns_mod {G : Type} (A : AG G) {g : G} {n : Nat} (h : A.ns n g = A.zero) (m : Nat) : A.ns (m % n) g = A.ns m g := by
  conv => rhs; rw [← Nat.div_add_mod m n, A.ns_add, A.ns_mul, h, A.ns_zero, A.zadd]
theorem products_calls (a b : Nat) (w : World) : Calls Tryz.prog 8 #[.agg (flat (q1 a)).toArray, .agg (flat (q1 b)).toArray] w (fun e w' => e = .returned (.bool true) ∧ Below w.heap.size w w') := by
  by_cases h : wv a < Go.Proofs.YthlcjdcjnioeoaaGreat.FR.M ∧ wv b < Go.Proofs.YthlcjdcjnioeoaaGreat.FR.M
  · refine funB_sound (r := .one (.im (.bool true))) hmix (fun _ s => ok_works.add Tryz.func42 (by kernel_rfl) (by kernel_rfl) (gFMul_ok true)) (qG_ok Tryz.prog) Tryz.func8 (run_prod_t a b) ?_ (args := [.agg (flat (q1 a)).toArray, .agg (flat (q1 b)).toArray]) ⟨rfl, rfl, trivial⟩
    have hM : ∀ n, resM1 (fun _ => g1n) (fun _ => n) 1 = ((ec1.grp.ns (wv n) (cp1 g1n)).1, 0) := fun n => by
      have := tM1 (cp1 g1n) n
      rwa [g1_tn] at this
    have hM2 : ∀ n, resM2 (fun _ => g2n) (fun _ => n) 1 = ((ec2.grp.ns (wv n) (cp2 g2n)).1, 0) := fun n => by
      have := tM2 (cp2 g2n) n
      rwa [g2_tn] at this
    have hw : wv (wv a * wv b % Go.Proofs.YthlcjdcjnioeoaaGreat.FR.M) = (wv a * wv b % Go.Proofs.YthlcjdcjnioeoaaGreat.FR.M) := fw_val (Nat.lt_trans (Nat.mod_lt _ fr_pos) fr_lt)
    have ho : (Go.Proofs.YthlcjdcjnioeoaaGreat.FR.M : Nat) = ord := Go.Proofs.YthlcjdcjnioeoaaGreat.FR_M
    simp only [hM, hM2, tM1, tM2, hw]
    refine ⟨h, ?_, ?_, trivial⟩
    · rw [ho, AG.ns_mod _ g1_ord, ec1.grp.ns_mul]
    · rw [ho, AG.ns_mod _ g2_ord, ec2.grp.ns_mul]
  · exact funB_sound (r := .one (.im (.bool true))) hmix (fun _ s => ok_works.add Tryz.func42 (by kernel_rfl) (by kernel_rfl) (gFMul_ok false)) (qG_ok Tryz.prog) Tryz.func8 (run_prod_e a b) ⟨h, trivial⟩ (args := [.agg (flat (q1 a)).toArray, .agg (flat (q1 b)).toArray]) ⟨rfl, rfl, trivial⟩
end Go.Proofs.YthlcjdcjnioeoaaGreat.Ex
namespace Go.Proofs.YthlcjdcjnioeoaaGreat.Ex
set_option linter.unusedVariables false
set_option linter.unusedSimpArgs false
open Go.Deep Go.ChangeShapes Go.WideShapes Go.ChangeAt Go.RowKit
section
variable {H : Type} {enc : TypeId × Value → H} {W : World}
set_option maxRecDepth 100000 in
theorem open_f {base : Nat} {v : Value} {d : DataW H} {ps : List MemPlace} {pt : Array TypeId} {args : Array Value} (hval : ∀ (j : Nat) t v, pt[j]? = some t → args[j]? = some v → Value.okWide Tryz.prog W .any base t v) (j : Nat) (hj : pt[j]? = some 24) (ha : args[j]? = some v)
    (h : DataW.Trod enc Tryz.prog W 0 (fun _ => true) true 24 v d ps) : ∃ x : Nat, v = .agg (flat (q1 x)).toArray := by
  have hv := hval j 24 v hj ha
  obtain ⟨cs, rfl⟩ := agg_ofA (t := 24) Tryz.underlying24 hv
  obtain ⟨fuel, hf⟩ := h
  obtain ⟨l⟩ := cs
  have hl : l.length = 4 := by
    obtain ⟨cs', e, hs, _⟩ : ∃ cs, Value.agg ⟨l⟩ = .agg cs ∧ cs.size = Tryz.prog.cellsOf 24 ∧ Row.okWide Tryz.prog W .any base 24 cs := by
      simpa [Value.okWide, Tryz.underlying24] using hv
    cases e
    rw [c24] at hs
    exact hs
  obtain ⟨x, hx⟩ := op_fe hl hf
  subst hx
  exact ⟨x, rfl⟩
end
end Go.Proofs.YthlcjdcjnioeoaaGreat.Ex
