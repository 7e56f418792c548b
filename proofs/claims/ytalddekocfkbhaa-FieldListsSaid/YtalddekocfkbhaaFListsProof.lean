/-
  The reference's List, Invs and Dot, in each of their cases. Conditions: the lists as they lie.
  THE STATEMENT FieldLists: for either field or none and any two lists: many inverses at one time, and sums of products, are those of the page; the lists stay: the law answers true. Conditions: the lists as they lie, each of at most 2^47 bytes.
  THE STATEMENT FieldLists, lifted: for any arguments the law answers true and its arguments read as they did. Conditions: the row's own.
-/
import Derived.Test.YtalddekocfkbhaaInvs3
import Derived.Test.YtalddekocfkbhaaRInv
import Derived.Laws.AppendOwn
import Derived.Laws.OwnMore
import Derived.Test.YtalddekocfkbhaaWorks
import Derived.Laws.AppendOwnNone
import Derived.Test.YtalddekocfkbhaaProofF
import Derived.Test.YtalddekocfkbhaaProofL
import Derived.SizedLaws
namespace Go.Proofs.Ytalddekocfkbhaa
set_option linter.unusedVariables false
set_option linter.unusedSimpArgs false
open Go.RowKit Go.WideShapes

theorem own_below {w w' : World} {base : Nat} {e : TypeId} {size : Nat} {v : Value} {n : Nat} {xs : List Value} (h : w.ownsRow base e size v n xs) (hb : Below w.heap.size w w') : w'.ownsRow base e size v n xs := by
  obtain ⟨h1, h2 | ⟨g, cap, cur, rfl, hg, hh, hr⟩⟩ := h
  · exact ⟨h1, Or.inl h2⟩
  · refine ⟨h1, Or.inr ⟨g, cap, cur, rfl, hg, ?_, hr⟩⟩
    have lg : g < w.heap.size := (Array.getElem?_eq_some_iff.1 hh).1
    rw [hb.block g lg]
    exact hh
theorem own_geL {w : World} {base : Nat} {e : TypeId} {size : Nat} {v : Value} {n : Nat} {xs : List Value} (h : w.ownsRow base e size v n xs) (k : Nat) (hk : v.ownBlock = some k) : base ≤ k := (World.ownsRow.lt h k hk).1
theorem own_anyL {w : World} {base : Nat} {e : TypeId} {size : Nat} {v : Value} {n : Nat} {xs : List Value} (h : w.ownsRow base e size v n xs) :
    ∃ ao cap, v = .slice ao n cap ∧ (0 < n → ∃ g, ao = some ⟨g, 0, none⟩ ∧ base ≤ g ∧ g < w.heap.size ∧ ∀ k, k < n * size → w.cell? ⟨g, k, none⟩ = xs[k]?) := by
  obtain ⟨h1, h2⟩ := h
  rcases h2 with ⟨rfl, rfl⟩ | ⟨g, cap, cur, rfl, hg, hb, hr⟩
  · exact ⟨none, 0, rfl, fun h => absurd h (by omega)⟩
  · refine ⟨some ⟨g, 0, none⟩, cap, rfl, fun _ => ⟨g, rfl, hg, ?_, fun k hk => ?_⟩⟩
    · exact (World.ownsRow.lt ⟨h1, .inr ⟨g, cap, cur, rfl, hg, hb, hr⟩⟩ g rfl).2
    · exact World.ownsRow.cellAt (base := base) (e := e) (size := size) (cap := cap) ⟨h1, .inr ⟨g, cap, cur, rfl, hg, hb, hr⟩⟩ k hk
/-- words as cells -/
def rcells (R : Nat → Nat) (n : Nat) : List Value := (List.range n).map fun q => Value.int .u64 (R q : Nat)
theorem rcells_succ (R : Nat → Nat) (n : Nat) : rcells R (n + 1) = rcells R n ++ [Value.int .u64 (R n : Nat)] := by
  unfold rcells; rw [List.range_succ, List.map_append]; rfl
theorem rcells_get (R : Nat → Nat) (n k : Nat) (h : k < n) : (rcells R n)[k]? = some (Value.int .u64 (R k : Nat)) := by
  unfold rcells; rw [List.getElem?_map, List.getElem?_range h]; rfl
theorem rcells_put (R : Nat → Nat) (k s0 s1 s2 s3 : Nat) : rcells R (k * 4) ++ [Value.int .u64 (s0 : Nat), .int .u64 (s1 : Nat), .int .u64 (s2 : Nat), .int .u64 (s3 : Nat)] = rcells (putP R k s0 s1 s2 s3) ((k + 1) * 4) := by
  have e0 : putP R k s0 s1 s2 s3 (k * 4) = s0 := by unfold putP upd; rw [if_neg (by omega), if_neg (by omega), if_neg (by omega), if_pos rfl]
  have e1 : putP R k s0 s1 s2 s3 (k * 4 + 1) = s1 := by unfold putP upd; rw [if_neg (by omega), if_neg (by omega), if_pos rfl]
  have e2 : putP R k s0 s1 s2 s3 (k * 4 + 2) = s2 := by unfold putP upd; rw [if_neg (by omega), if_pos rfl]
  have e3 : putP R k s0 s1 s2 s3 (k * 4 + 3) = s3 := by unfold putP upd; rw [if_pos rfl]
  have er : rcells (putP R k s0 s1 s2 s3) (k * 4) = rcells R (k * 4) := by
    unfold rcells
    refine List.map_congr_left fun q hq => ?_
    have := List.mem_range.1 hq
    unfold putP upd
    rw [if_neg (by omega), if_neg (by omega), if_neg (by omega), if_neg (by omega)]
  rw [show (k + 1) * 4 = k * 4 + 1 + 1 + 1 + 1 by omega, rcells_succ, rcells_succ, rcells_succ, rcells_succ, er, e0, e1, e2, e3]
  simp
theorem rinv_any (f : Int) (F : FC) (hf : FieldIs f F) (a0 a1 a2 a3 : Nat) (ha : ok4 a0 a1 a2 a3) (la : val4 a0 a1 a2 a3 < F.M) : ∃ c : Int, ∀ w, Calls Try.prog 18 #[.int .i64 f, .agg #[.int .u64 a0, .int .u64 a1, .int .u64 a2, .int .u64 a3]] w (FeE c (val4 a0 a1 a2 a3 ^ (F.M - 2) % F.M) w) := by
  have hg := hf.ok.gt
  by_cases hz : val4 a0 a1 a2 a3 = 0
  · refine ⟨22, fun w => (rinv0_calls f F hf a0 a1 a2 a3 ha (by rw [hz, Nat.zero_mod]) w).mono ?_⟩
    rintro e w' ⟨s0, s1, s2, s3, he, hs, hv, hb⟩
    exact ⟨s0, s1, s2, s3, he, hs, by rw [hv, hz, Nat.zero_pow (by omega), Nat.zero_mod], hb⟩
  · exact ⟨0, fun w => rinv1_calls f F hf a0 a1 a2 a3 ha (by rw [Nat.mod_eq_of_lt la]; exact hz) w⟩
set_option maxRecDepth 100000 in
set_option maxHeartbeats 4000000 in
theorem rlist_any (f : Int) (F : FC) (hf : FieldIs f F) (o : Option Addr) (len cap : Nat) (A : Nat → Nat → Nat) (w : World) (h : FIs w o len A) :
    Calls Try.prog 81 #[.int .i64 f, .slice o len cap] w fun e w' => (∃ c : Int, e = .returned (.int .i64 c) ∧ (c = 0 ∧ allIn F.M len A ∨ c = 21 ∧ ¬ allIn F.M len A)) ∧ Below w.heap.size w w' := by
  have HA := Lib.hid h
  have hl := h.1
  clear h
  go_enter Try.func81, Try.ntmps81
  go_wp2_with fail
  go_loopw [5] (fun t wr => ∃ k : Nat, k ≤ len ∧ t = .int .i64 k ∧ Hid (∀ j, j < k → elA A j < F.M) ∧ Hid (Below w.heap.size w wr)) (fun t _ => len - (intOf t).toNat)
  case atStart => exact ⟨0, Nat.zero_le _, rfl, Lib.hid (fun j h => absurd h (by omega)), Lib.hid (Below.refl _ _)⟩
  case round =>
    obtain ⟨k, hk, rfl, HL, HB⟩ := hrel
    by_cases hlt : k < len
    · obtain ⟨g, off, rfl, hg, hla⟩ := HA.out.2.2 (by omega)
      have hc := (hla.same (fun _ => hg) HB.out) k hlt
      obtain ⟨a0, a1, a2, a3, e0, e1, e2, e3⟩ : ∃ a0 a1 a2 a3 : Nat, a0 = A k 0 ∧ a1 = A k 1 ∧ a2 = A k 2 ∧ a3 = A k 3 := ⟨_, _, _, _, rfl, rfl, rfl, rfl⟩
      have hoka := HA.out.2.1 k hlt
      have hva : elA A k = val4 a0 a1 a2 a3 := by unfold elA; rw [← e0, ← e1, ← e2, ← e3]
      rw [← e0, ← e1, ← e2, ← e3] at hoka
      rw [← e0, ← e1, ← e2, ← e3] at hc
      have c0 := hc.1; have c1 := hc.2.1; have c2 := hc.2.2.1; have c3 := hc.2.2.2
      have HO := Lib.hid hoka
      have HV := Lib.hid hva
      clear hc e0 e1 e2 e3 hoka hva hla
      go_wp2_with fail
      refine (rbelow_calls f F hf a0 a1 a2 a3 HO.out _).mono ?_
      rintro e w2 ⟨rfl, hbl⟩
      have HB2 := Lib.hid (HB.out.trans (hbl.mono HB.out.size))
      clear hbl c0 c1 c2 c3
      by_cases hv : val4 a0 a1 a2 a3 < F.M
      · rw [show isB (val4 a0 a1 a2 a3) F.M = true from decide_eq_true hv]
        have HN := Lib.hid (show ∀ j, j < k + 1 → elA A j < F.M from fun j h => by
          by_cases e : j = k
          · subst e; rw [HV.out]; exact hv
          · exact HL.out j (by omega))
        clear hv
        go_wp2_with fail
        go_roundw
        case rel => exact ⟨k + 1, by omega, by go_num, HN, HB2⟩
        case measure => simp [intOf]; omega
      · rw [show isB (val4 a0 a1 a2 a3) F.M = false from decide_eq_false hv]
        have HN := Lib.hid (show ¬ allIn F.M len A from fun h => hv (by rw [← HV.out]; exact h k hlt))
        clear hv
        go_wp2_with fail
        go_ret
        exact ⟨⟨21, rfl, Or.inr ⟨rfl, HN.out⟩⟩, HB2.out⟩
    · obtain rfl : len = k := by omega
      go_wp2_with fail
      go_ret
      exact ⟨⟨0, rfl, Or.inl ⟨rfl, HL.out⟩⟩, HB.out⟩
set_option maxRecDepth 100000 in
set_option maxHeartbeats 4000000 in
theorem rinvs_none (f : Int) (h1 : f ≠ 1) (h2 : f ≠ 2) (o : Option Addr) (len cap : Nat) (w : World) :
    Calls Try.prog 35 #[.int .i64 f, .slice o len cap] w (fun e w' => e = .returned (.tuple #[.slice none 0 0, .int .i64 1]) ∧ Below w.heap.size w w') := by
  go_enter Try.func35, Try.ntmps35
  go_wp2_with fail
  refine (rfield_none f h1 h2 _).mono ?_
  rintro e w1 ⟨rfl, rfl⟩
  go_wp2_with fail
  go_ret2
  exact ⟨rfl, Below.refl _ _⟩
set_option maxRecDepth 100000 in
set_option maxHeartbeats 4000000 in
theorem rinvs_count (f : Int) (F : FC) (hf : FieldIs f F) (o : Option Addr) (len cap : Nat) (w : World) (hc : 65536 < len) :
    Calls Try.prog 35 #[.int .i64 f, .slice o len cap] w (fun e w' => e = .returned (.tuple #[.slice none 0 0, .int .i64 3]) ∧ Below w.heap.size w w') := by
  have bc : (65536 : Int) < (len : Int) := by omega
  go_enter Try.func35, Try.ntmps35
  go_wp2_with fail
  refine (rfield_some f F hf _).mono ?_
  rintro e w1 ⟨rfl, rfl⟩
  go_wp2_with fail
  go_ret2
  exact ⟨rfl, Below.refl _ _⟩
set_option maxRecDepth 100000 in
set_option maxHeartbeats 4000000 in
theorem rinvs_elem (f : Int) (F : FC) (hf : FieldIs f F) (A : Nat → Nat → Nat) (o : Option Addr) (len cap : Nat) (w : World) (hA : FIs w o len A) (h1 : len ≤ 65536) (hbad : ¬ allIn F.M len A) :
    Calls Try.prog 35 #[.int .i64 f, .slice o len cap] w (fun e w' => e = .returned (.tuple #[.slice none 0 0, .int .i64 21]) ∧ Below w.heap.size w w') := by
  have HA := Lib.hid hA
  clear hA
  have bc : ¬ (65536 : Int) < (len : Int) := by omega
  go_enter Try.func35, Try.ntmps35
  go_wp2_with fail
  refine (rfield_some f F hf _).mono ?_
  rintro e w1 ⟨rfl, rfl⟩
  go_wp2_with fail
  refine (rlist_any f F hf o len cap A _ HA.out).mono ?_
  rintro e w2 ⟨⟨c, rfl, hc⟩, hbl⟩
  obtain rfl : c = 21 := by rcases hc with ⟨h, k⟩ | ⟨h, k⟩; exact absurd k hbad; exact h
  clear hc
  go_wp2_with fail
  go_ret2
  exact ⟨rfl, hbl⟩
set_option maxRecDepth 100000 in
set_option maxHeartbeats 4000000 in
theorem rinvs_ok (f : Int) (F : FC) (hf : FieldIs f F) (A : Nat → Nat → Nat) (o : Option Addr) (len cap : Nat) (w : World) (hA : FIs w o len A) (h1 : len ≤ 65536) (hi : allIn F.M len A) :
    Calls Try.prog 35 #[.int .i64 f, .slice o len cap] w (fun e w' => ∃ (ao : Option Addr) (cap1 : Nat) (R : Nat → Nat), e = .returned (.tuple #[.slice ao len cap1, .int .i64 0]) ∧ (0 < len → ∃ g, ao = some ⟨g, 0, none⟩ ∧ g < w'.heap.size ∧ ∀ k, k < len * 4 → w'.cell? ⟨g, k, none⟩ = some (.int .u64 (R k : Nat))) ∧ (∀ j, j < len → okP R j ∧ elP R j = elA A j ^ (F.M - 2) % F.M) ∧ Below w.heap.size w w') := by
  have HA := Lib.hid hA
  have HI := Lib.hid hi
  clear hA hi
  obtain ⟨iF, hiF, hF0, hF1, hF2⟩ := fe_info
  have bc : ¬ (65536 : Int) < (len : Int) := by omega
  go_enter Try.func35, Try.ntmps35
  go_wp2_with fail
  refine (rfield_some f F hf _).mono ?_
  rintro e w1 ⟨rfl, rfl⟩
  obtain ⟨w, rfl⟩ : ∃ w, w = w1 := ⟨_, rfl⟩
  go_wp2_with fail
  refine (rlist_any f F hf o len cap A _ HA.out).mono ?_
  rintro e w2 ⟨⟨c, rfl, hc⟩, hbl⟩
  obtain rfl : c = 0 := by rcases hc with ⟨h, k⟩ | ⟨h, k⟩; exact h; exact absurd HI.out k
  have HB := Lib.hid hbl
  clear hc hbl
  go_wp2_with fail
  go_loopw [6, 7] (fun v t wr => ∃ (k : Nat) (R : Nat → Nat), k ≤ len ∧ t = .int .i64 k ∧ Hid (wr.ownsRow w.heap.size 25 4 v k (rcells R (k * 4))) ∧ Hid (∀ j, j < k → okP R j ∧ elP R j = elA A j ^ (F.M - 2) % F.M) ∧ Hid (Below w.heap.size w wr)) (fun _ t _ => len - (intOf t).toNat)
  case atStart => exact ⟨0, fun _ => 0, Nat.zero_le _, rfl, Lib.hid ⟨rfl, Or.inl ⟨rfl, rfl⟩⟩, Lib.hid (fun j h => absurd h (by omega)), HB⟩
  case round =>
    clear HB
    obtain ⟨k, R, hk, rfl, HO, HP, HB⟩ := hrel
    by_cases hlt : k < len
    · obtain ⟨g, off, rfl, hg, hla⟩ := HA.out.2.2 (by omega)
      have hc := (hla.same (fun _ => hg) HB.out) k hlt
      obtain ⟨a0, a1, a2, a3, e0, e1, e2, e3⟩ : ∃ a0 a1 a2 a3 : Nat, a0 = A k 0 ∧ a1 = A k 1 ∧ a2 = A k 2 ∧ a3 = A k 3 := ⟨_, _, _, _, rfl, rfl, rfl, rfl⟩
      have hoka := HA.out.2.1 k hlt
      have hva : elA A k = val4 a0 a1 a2 a3 := by unfold elA; rw [← e0, ← e1, ← e2, ← e3]
      rw [← e0, ← e1, ← e2, ← e3] at hoka
      rw [← e0, ← e1, ← e2, ← e3] at hc
      have c0 := hc.1; have c1 := hc.2.1; have c2 := hc.2.2.1; have c3 := hc.2.2.2
      obtain ⟨ci, hinv⟩ := rinv_any f F hf a0 a1 a2 a3 hoka (by rw [← hva]; exact HI.out k hlt)
      have HInv := Lib.hid hinv
      have HV := Lib.hid hva
      clear hc e0 e1 e2 e3 hoka hva hla hinv
      go_wp2_with fail
      refine (HInv.out _).mono ?_
      rintro e w3 ⟨s0, s1, s2, s3, rfl, hs, hv, hbl⟩
      have HB3 := Lib.hid (HB.out.trans (hbl.mono HB.out.size))
      have HO3 := Lib.hid (own_below HO.out hbl)
      have sz3 : w.heap.size ≤ w3.heap.size := HB3.out.size
      have HN := Lib.hid (show ∀ j, j < k + 1 → okP (putP R k s0 s1 s2 s3) j ∧ elP (putP R k s0 s1 s2 s3) j = elA A j ^ (F.M - 2) % F.M from fun j h => by
        by_cases e : j = k
        · subst e; exact ⟨(putP_same R j s0 s1 s2 s3).2 hs, by rw [(putP_same R j s0 s1 s2 s3).1, hv, HV.out]⟩
        · have q := HP.out j (by omega)
          exact ⟨(putP_other R k s0 s1 s2 s3 j e).2 q.1, by rw [(putP_other R k s0 s1 s2 s3 j e).1, q.2]⟩)
      clear hv hbl c0 c1 c2 c3 HO HB
      go_wp2_with (at_builtin; refine wpList_append_own _ rfl _ _ 57 rfl (w.heap.size) 25 iF (.agg #[.int .u64 0, .int .u64 0, .int .u64 0, .int .u64 0]) 4 32 Try.underlying57 hiF hF0 hF1 hF2 rfl (by decide) _ _ _ rfl ((HO3.out.alloc _).alloc _) ⟨w3.heap.size + 1, 0, none⟩ 1 1 [.int .u64 (s0 : Nat), .int .u64 (s1 : Nat), .int .u64 (s2 : Nat), .int .u64 (s3 : Nat)] rfl rfl ?c1 ?c2 ?c3 ?c4 ?c5 ?_)
      case c1 =>
        intro j u hj
        match j, hj with
        | 0, hj | 1, hj | 2, hj | 3, hj => simp at hj; subst hj; simp [go_sem, Addr.add]
        | j + 4, hj => simp at hj
      case c2 => intro u hu; simp at hu; rcases hu with rfl | rfl | rfl | rfl <;> rfl
      case c3 => unfold maxLen; omega
      case c4 => omega
      case c5 => simp; omega
      intro v' w4 hown hgrow hne
      have HO4 := Lib.hid (show w4.ownsRow w.heap.size 25 4 v' (k + 1) (rcells (putP R k s0 s1 s2 s3) ((k + 1) * 4)) by
        rw [← rcells_put]; exact hown)
      have HB4 := Lib.hid (((HB3.out.alloc sz3 _).alloc (by simp; omega) _).grown hgrow (by simp; omega) (fun k hk => own_geL HO3.out k hk))
      clear hown hgrow hne HO3 HB3
      go_wp2_with fail
      go_roundw
      case rel => exact ⟨k + 1, _, by omega, by go_num, HO4, HN, HB4⟩
      case measure => simp [intOf]; omega
    · obtain rfl : len = k := by omega
      obtain ⟨ao, cap1, rfl, hp⟩ := own_anyL HO.out
      have HPo := Lib.hid hp
      clear hp hlt hk
      go_wp2_with fail
      go_ret2
      refine ⟨ao, cap1, R, rfl, fun h0 => ?_, HP.out, HB.out⟩
      obtain ⟨g, e, _, lg, hc⟩ := HPo.out h0
      exact ⟨g, e, lg, fun q hq => (hc q hq).trans (rcells_get R _ q hq)⟩
set_option maxRecDepth 100000 in
set_option maxHeartbeats 4000000 in
theorem rdot_none (f : Int) (h1 : f ≠ 1) (h2 : f ≠ 2) (p q : Option Addr) (la ca lb cb : Nat)  (w : World) :
    Calls Try.prog 37 #[.int .i64 f, .slice p la ca, .slice q lb cb] w (FeE 1 0 w) := by
  go_enter Try.func37, Try.ntmps37
  go_wp2_with fail
  have HM := Lib.hid ((Mem.nil w).new (w.heap.size) 0 0 0 0 25 (by simp))
  refine (rfield_none f h1 h2 _).mono ?_
  rintro e w1 ⟨rfl, rfl⟩
  go_wp2_with fail
  refine bodyPost_ret (v := .tuple #[.agg #[.int .u64 (0 : Nat), .int .u64 (0 : Nat), .int .u64 (0 : Nat), .int .u64 (0 : Nat)], .int .i64 1]) (by simp [results, Try.results37, go_sem, *]) rfl ?_
  refine ⟨_, _, _, _, rfl, zok, rfl, ?_⟩
  first | exact HM.out.1 | exact below_set4 HM.out.1 (Nat.le_refl _) 0 0 0 0
set_option maxRecDepth 100000 in
set_option maxHeartbeats 4000000 in
theorem rdot_count (f : Int) (F : FC) (hf : FieldIs f F) (p q : Option Addr) (la ca lb cb : Nat) (hne : la ≠ lb ∨ 65536 < la) (hm : la ≤ 9223372036854775807) (hm2 : lb ≤ 9223372036854775807) (w : World) :
    Calls Try.prog 37 #[.int .i64 f, .slice p la ca, .slice q lb cb] w (FeE 3 0 w) := by
  go_enter Try.func37, Try.ntmps37
  go_wp2_with fail
  have HM := Lib.hid ((Mem.nil w).new (w.heap.size) 0 0 0 0 25 (by simp))
  refine (rfield_some f F hf _).mono ?_
  rintro e w1 ⟨rfl, rfl⟩
  by_cases h : la = lb
  · subst h
    have t1 : decide ((65536 : Int) < (la : Int)) = true := decide_eq_true (by omega)
    go_wp2_with fail
    refine bodyPost_ret (v := .tuple #[.agg #[.int .u64 (0 : Nat), .int .u64 (0 : Nat), .int .u64 (0 : Nat), .int .u64 (0 : Nat)], .int .i64 3]) (by simp [results, Try.results37, go_sem, *]) rfl ?_
    refine ⟨_, _, _, _, rfl, zok, rfl, ?_⟩
    first | exact HM.out.1 | exact below_set4 HM.out.1 (Nat.le_refl _) 0 0 0 0
  · have t1 : ((la : Int) != (lb : Int)) = true := by simp; omega
    go_wp2_with fail
    refine bodyPost_ret (v := .tuple #[.agg #[.int .u64 (0 : Nat), .int .u64 (0 : Nat), .int .u64 (0 : Nat), .int .u64 (0 : Nat)], .int .i64 3]) (by simp [results, Try.results37, go_sem, *]) rfl ?_
    refine ⟨_, _, _, _, rfl, zok, rfl, ?_⟩
    first | exact HM.out.1 | exact below_set4 HM.out.1 (Nat.le_refl _) 0 0 0 0
set_option maxRecDepth 100000 in
set_option maxHeartbeats 4000000 in
theorem rdot_elem (f : Int) (F : FC) (hf : FieldIs f F) (p q : Option Addr) (la ca lb cb : Nat) (A B : Nat → Nat → Nat) (h1 : la = lb) (h2 : la ≤ 65536) (hbad : ¬ (allIn F.M la A ∧ allIn F.M lb B)) (w : World) (hA : FIs w p la A) (hB : FIs w q lb B) :
    Calls Try.prog 37 #[.int .i64 f, .slice p la ca, .slice q lb cb] w (FeE 21 0 w) := by
  subst h1
  have HA := Lib.hid hA
  have HB := Lib.hid hB
  clear hA hB
  go_enter Try.func37, Try.ntmps37
  go_wp2_with fail
  have HM := Lib.hid ((Mem.nil w).new (w.heap.size) 0 0 0 0 25 (by simp))
  refine (rfield_some f F hf _).mono ?_
  rintro e w1 ⟨rfl, rfl⟩
  have t1 : decide ((65536 : Int) < (la : Int)) = false := decide_eq_false (by omega)
  go_wp2_with fail
  refine (rlist_any f F hf p la ca A _ (HA.out.on HM.out.1)).mono ?_
  rintro e w2 ⟨⟨c, rfl, hc⟩, hbl⟩
  by_cases ha : allIn F.M la A
  · obtain rfl : c = 0 := by rcases hc with ⟨h, k⟩ | ⟨h, k⟩; exact h; exact absurd ha k
    have HM' := Lib.hid (HM.out.on hbl)
    clear hbl hc
    clear HM
    have HM := HM'
    clear HM'
    go_wp2_with fail
    refine (rlist_any f F hf q la cb B _ (HB.out.on HM.out.1)).mono ?_
    rintro e w3 ⟨⟨c, rfl, hc⟩, hbl⟩
    obtain rfl : c = 21 := by rcases hc with ⟨h, k⟩ | ⟨h, k⟩; exact absurd ⟨ha, k⟩ hbad; exact h
    have HM' := Lib.hid (HM.out.on hbl)
    clear hbl hc
    clear HM
    have HM := HM'
    clear HM'
    have kr := HM.out.row (b := w.heap.size) (c0 := 0) (c1 := 0) (c2 := 0) (c3 := 0) (by simp)
    have y0 := kr.c0; have y1 := kr.c1; have y2 := kr.c2; have y3 := kr.c3; have yf := kr.fr
    clear kr
    have yl := HM.out.lt (b := w.heap.size) (c0 := 0) (c1 := 0) (c2 := 0) (c3 := 0) (by simp)
    go_wp2_with fail
    refine bodyPost_ret (v := .tuple #[.agg #[.int .u64 (0 : Nat), .int .u64 (0 : Nat), .int .u64 (0 : Nat), .int .u64 (0 : Nat)], .int .i64 21]) (by simp [results, Try.results37, go_sem, *]) rfl ?_
    refine ⟨_, _, _, _, rfl, zok, rfl, ?_⟩
    first | exact HM.out.1 | exact below_set4 HM.out.1 (Nat.le_refl _) 0 0 0 0
  · obtain rfl : c = 21 := by rcases hc with ⟨h, k⟩ | ⟨h, k⟩; exact absurd k ha; exact h
    have HM' := Lib.hid (HM.out.on hbl)
    clear hbl hc
    clear HM
    have HM := HM'
    clear HM'
    have kr := HM.out.row (b := w.heap.size) (c0 := 0) (c1 := 0) (c2 := 0) (c3 := 0) (by simp)
    have y0 := kr.c0; have y1 := kr.c1; have y2 := kr.c2; have y3 := kr.c3; have yf := kr.fr
    clear kr
    have yl := HM.out.lt (b := w.heap.size) (c0 := 0) (c1 := 0) (c2 := 0) (c3 := 0) (by simp)
    go_wp2_with fail
    refine bodyPost_ret (v := .tuple #[.agg #[.int .u64 (0 : Nat), .int .u64 (0 : Nat), .int .u64 (0 : Nat), .int .u64 (0 : Nat)], .int .i64 21]) (by simp [results, Try.results37, go_sem, *]) rfl ?_
    refine ⟨_, _, _, _, rfl, zok, rfl, ?_⟩
    first | exact HM.out.1 | exact below_set4 HM.out.1 (Nat.le_refl _) 0 0 0 0
set_option maxRecDepth 100000 in
set_option maxHeartbeats 4000000 in
theorem rdot_ok (f : Int) (F : FC) (hf : FieldIs f F) (p q : Option Addr) (la ca lb cb : Nat) (A B : Nat → Nat → Nat) (h1 : la = lb) (h2 : la ≤ 65536) (ia : allIn F.M la A) (ib : allIn F.M lb B) (w : World) (hA : FIs w p la A) (hB : FIs w q lb B) :
    Calls Try.prog 37 #[.int .i64 f, .slice p la ca, .slice q lb cb] w (FeE 0 (dotN F.M (elA A) (elA B) la) w) := by
  subst h1
  have IA := Lib.hid ia
  have IB := Lib.hid ib
  clear ia ib
  have HA := Lib.hid hA
  have HB := Lib.hid hB
  clear hA hB
  go_enter Try.func37, Try.ntmps37
  go_wp2_with fail
  have HM := Lib.hid ((Mem.nil w).new (w.heap.size) 0 0 0 0 25 (by simp))
  refine (rfield_some f F hf _).mono ?_
  rintro e w1 ⟨rfl, rfl⟩
  have t1 : decide ((65536 : Int) < (la : Int)) = false := decide_eq_false (by omega)
  go_wp2_with fail
  refine (rlist_any f F hf p la ca A _ (HA.out.on HM.out.1)).mono ?_
  rintro e w2 ⟨⟨c, rfl, hc⟩, hbl⟩
  obtain rfl : c = 0 := by rcases hc with ⟨h, k⟩ | ⟨h, k⟩; exact h; exact absurd IA.out k
  have HM' := Lib.hid (HM.out.on hbl)
  clear hbl hc
  clear HM
  have HM := HM'
  clear HM'
  go_wp2_with fail
  refine (rlist_any f F hf q la cb B _ (HB.out.on HM.out.1)).mono ?_
  rintro e w3 ⟨⟨c, rfl, hc⟩, hbl⟩
  obtain rfl : c = 0 := by rcases hc with ⟨h, k⟩ | ⟨h, k⟩; exact h; exact absurd IB.out k
  have HM' := Lib.hid (HM.out.on hbl)
  clear hbl hc
  clear HM
  have HM := HM'
  clear HM'
  go_wp2_with fail
  have ls : w.heap.size < w3.heap.size := HM.out.lt (b := w.heap.size) (c0 := 0) (c1 := 0) (c2 := 0) (c3 := 0) (by simp)
  have HM' := Lib.hid (HM.out.new w3.heap.size 0 0 0 0 25 rfl)
  clear HM
  have HM := HM'
  clear HM'
  obtain ⟨gs, hgs⟩ : ∃ gs, gs = w3.heap.size := ⟨_, rfl⟩
  rw [← hgs] at HM ls ⊢
  clear hgs
  go_loopw [9] (fun t wr => ∃ (k s0 s1 s2 s3 : Nat), k ≤ la ∧ t = .int .i64 k ∧ ok4 s0 s1 s2 s3 ∧ Hid (val4 s0 s1 s2 s3 = dotN F.M (elA A) (elA B) k) ∧ Hid (Mem w wr [(gs, s0, s1, s2, s3), (w.heap.size, 0, 0, 0, 0)])) (fun t _ => la - (intOf t).toNat)
  case atStart => exact ⟨0, 0, 0, 0, 0, Nat.zero_le _, rfl, zok, Lib.hid rfl, HM⟩
  case round =>
    clear HM
    obtain ⟨k, s0, s1, s2, s3, hk, rfl, hs, HV, HM⟩ := hrel
    by_cases hlt : k < la
    · obtain ⟨g, off, rfl, hg, hla⟩ := HA.out.2.2 (by omega)
      obtain ⟨g2, off2, rfl, hg2, hlb⟩ := HB.out.2.2 (by omega)
      obtain ⟨a0, a1, a2, a3, e0, e1, e2, e3⟩ : ∃ a0 a1 a2 a3 : Nat, a0 = A k 0 ∧ a1 = A k 1 ∧ a2 = A k 2 ∧ a3 = A k 3 := ⟨_, _, _, _, rfl, rfl, rfl, rfl⟩
      have hoka := HA.out.2.1 k hlt
      have hva : elA A k = val4 a0 a1 a2 a3 := by unfold elA; rw [← e0, ← e1, ← e2, ← e3]
      rw [← e0, ← e1, ← e2, ← e3] at hoka
      obtain ⟨b0, b1, b2, b3, d0, d1, d2, d3⟩ : ∃ b0 b1 b2 b3 : Nat, b0 = B k 0 ∧ b1 = B k 1 ∧ b2 = B k 2 ∧ b3 = B k 3 := ⟨_, _, _, _, rfl, rfl, rfl, rfl⟩
      have hokb := HB.out.2.1 k hlt
      have hvb : elA B k = val4 b0 b1 b2 b3 := by unfold elA; rw [← d0, ← d1, ← d2, ← d3]
      rw [← d0, ← d1, ← d2, ← d3] at hokb
      have HCA := Lib.hid (show ∀ wx, Below w.heap.size w wx → wx.cell? ⟨g, off + k * 4, none⟩ = some (.int .u64 (a0 : Nat)) ∧ wx.cell? ⟨g, off + k * 4 + 1, none⟩ = some (.int .u64 (a1 : Nat)) ∧ wx.cell? ⟨g, off + k * 4 + 2, none⟩ = some (.int .u64 (a2 : Nat)) ∧ wx.cell? ⟨g, off + k * 4 + 3, none⟩ = some (.int .u64 (a3 : Nat)) from fun wx hx => by
        have q := (hla.same (fun _ => hg) hx) k hlt
        rw [← e0, ← e1, ← e2, ← e3] at q
        exact q)
      have HCB := Lib.hid (show ∀ wx, Below w.heap.size w wx → wx.cell? ⟨g2, off2 + k * 4, none⟩ = some (.int .u64 (b0 : Nat)) ∧ wx.cell? ⟨g2, off2 + k * 4 + 1, none⟩ = some (.int .u64 (b1 : Nat)) ∧ wx.cell? ⟨g2, off2 + k * 4 + 2, none⟩ = some (.int .u64 (b2 : Nat)) ∧ wx.cell? ⟨g2, off2 + k * 4 + 3, none⟩ = some (.int .u64 (b3 : Nat)) from fun wx hx => by
        have q := (hlb.same (fun _ => hg2) hx) k hlt
        rw [← d0, ← d1, ← d2, ← d3] at q
        exact q)
      have HO := Lib.hid (And.intro hoka hokb)
      have HE := Lib.hid (And.intro hva hvb)
      clear e0 e1 e2 e3 d0 d1 d2 d3 hla hlb hoka hokb hva hvb
      go_wp2_with fail
      refine region_till (fun wx => Below wr.heap.size wr wx) 13 (by kernel_rfl) ?_
      have HS := below_drewN' wr.heap.size wr 1
      have H8 := Lib.hid HS
      refine till_take (i := 0) (v := .int .i64 f) rfl (by kernel_rfl) (by kernel_rfl) (by kernel_rfl) (by kernel_rfl) (fun _ _ _ h => h) HS (Or.inl ⟨by kernel_rfl, fun wx hx => ?_⟩) ?_
      · clear HS hx
        go_simp
      simp only [Act.put, List.setIfInBounds_toArray, List.set_cons_zero, List.set_cons_succ]
      refine till_take (i := 1) (v := .agg #[.int .u64 s0, .int .u64 s1, .int .u64 s2, .int .u64 s3]) rfl (by kernel_rfl) (by kernel_rfl) (by kernel_rfl) (by kernel_rfl) (fun _ _ _ h => h) HS (Or.inl ⟨by kernel_rfl, fun wx hx => ?_⟩) ?_
      · have kr := (HM.out.on hx).row (b := gs) (c0 := s0) (c1 := s1) (c2 := s2) (c3 := s3) (by simp)
        have x0 := kr.c0; have x1 := kr.c1; have x2 := kr.c2; have x3 := kr.c3
        clear kr
        clear HS hx
        go_simp
      simp only [Act.put, List.setIfInBounds_toArray, List.set_cons_zero, List.set_cons_succ]
      refine till_take (i := 2) (v := .int .i64 f) rfl (by kernel_rfl) (by kernel_rfl) (by kernel_rfl) (by kernel_rfl) (fun _ _ _ h => h) HS (Or.inl ⟨by kernel_rfl, fun wx hx => ?_⟩) ?_
      · clear HS hx
        go_simp
      simp only [Act.put, List.setIfInBounds_toArray, List.set_cons_zero, List.set_cons_succ]
      refine till_take (i := 3) (v := .slice (some ⟨g, off, none⟩) la ca) rfl (by kernel_rfl) (by kernel_rfl) (by kernel_rfl) (by kernel_rfl) (fun _ _ _ h => h) HS (Or.inl ⟨by kernel_rfl, fun wx hx => ?_⟩) ?_
      · clear HS hx
        go_simp
      simp only [Act.put, List.setIfInBounds_toArray, List.set_cons_zero, List.set_cons_succ]
      refine till_take (i := 4) (v := .int .i64 k) rfl (by kernel_rfl) (by kernel_rfl) (by kernel_rfl) (by kernel_rfl) (fun _ _ _ h => h) HS (Or.inl ⟨by kernel_rfl, fun wx hx => ?_⟩) ?_
      · clear HS hx
        go_simp
      simp only [Act.put, List.setIfInBounds_toArray, List.set_cons_zero, List.set_cons_succ]
      refine till_take (i := 5) (v := .pointer (some ⟨g, off + k * 4, none⟩)) rfl (by kernel_rfl) (by kernel_rfl) (by kernel_rfl) (by kernel_rfl) (fun _ _ _ h => h) HS (Or.inl ⟨by kernel_rfl, fun wx hx => ?_⟩) ?_
      · clear HS hx
        go_simp
      simp only [Act.put, List.setIfInBounds_toArray, List.set_cons_zero, List.set_cons_succ]
      refine till_take (i := 6) (v := .agg #[.int .u64 a0, .int .u64 a1, .int .u64 a2, .int .u64 a3]) rfl (by kernel_rfl) (by kernel_rfl) (by kernel_rfl) (by kernel_rfl) (fun _ _ _ h => h) HS (Or.inl ⟨by kernel_rfl, fun wx hx => ?_⟩) ?_
      · have q := HCA.out wx (HM.out.on hx).1
        have x0 := q.1; have x1 := q.2.1; have x2 := q.2.2.1; have x3 := q.2.2.2
        clear q
        clear HS hx
        go_simp
      simp only [Act.put, List.setIfInBounds_toArray, List.set_cons_zero, List.set_cons_succ]
      refine till_take (i := 7) (v := .slice (some ⟨g2, off2, none⟩) la cb) rfl (by kernel_rfl) (by kernel_rfl) (by kernel_rfl) (by kernel_rfl) (fun _ _ _ h => h) HS (Or.inl ⟨by kernel_rfl, fun wx hx => ?_⟩) ?_
      · clear HS hx
        go_simp
      simp only [Act.put, List.setIfInBounds_toArray, List.set_cons_zero, List.set_cons_succ]
      refine till_take (i := 8) (v := .int .i64 k) rfl (by kernel_rfl) (by kernel_rfl) (by kernel_rfl) (by kernel_rfl) (fun _ _ _ h => h) HS (Or.inl ⟨by kernel_rfl, fun wx hx => ?_⟩) ?_
      · clear HS hx
        go_simp
      simp only [Act.put, List.setIfInBounds_toArray, List.set_cons_zero, List.set_cons_succ]
      refine till_take (i := 9) (v := .pointer (some ⟨g2, off2 + k * 4, none⟩)) rfl (by kernel_rfl) (by kernel_rfl) (by kernel_rfl) (by kernel_rfl) (fun _ _ _ h => h) HS (Or.inl ⟨by kernel_rfl, fun wx hx => ?_⟩) ?_
      · clear HS hx
        go_simp
      simp only [Act.put, List.setIfInBounds_toArray, List.set_cons_zero, List.set_cons_succ]
      refine till_take (i := 10) (v := .agg #[.int .u64 b0, .int .u64 b1, .int .u64 b2, .int .u64 b3]) rfl (by kernel_rfl) (by kernel_rfl) (by kernel_rfl) (by kernel_rfl) (fun _ _ _ h => h) HS (Or.inl ⟨by kernel_rfl, fun wx hx => ?_⟩) ?_
      · have q := HCB.out wx (HM.out.on hx).1
        have x0 := q.1; have x1 := q.2.1; have x2 := q.2.2.1; have x3 := q.2.2.2
        clear q
        clear HS hx
        go_simp
      simp only [Act.put, List.setIfInBounds_toArray, List.set_cons_zero, List.set_cons_succ]
      clear HS
      refine till_step (i := 11) (by kernel_rfl) rfl (fun K hK => ?_)
      go_simp
      refine (rmul_calls f F hf a0 a1 a2 a3 b0 b1 b2 b3 HO.out.1 HO.out.2 _).mono ?_
      rintro e v1 ⟨p0, p1, p2, p3, rfl, hp, hv, hbl⟩
      have HVp := Lib.hid hv
      clear hv
      have HS := H8.out.trans (hbl.mono H8.out.size)
      clear H8 hbl
      have H8 := Lib.hid HS
      refine hK.out _ _ (Or.inr HS) (fun _ => ?_)
      clear hK K
      clear HS
      refine till_step (i := 12) (by kernel_rfl) rfl (fun K hK => ?_)
      go_simp
      refine (radd_calls f F hf s0 s1 s2 s3 p0 p1 p2 p3 hs hp _).mono ?_
      rintro e v2 ⟨u0, u1, u2, u3, rfl, hu, hv, hbl⟩
      have HVu := Lib.hid (show val4 u0 u1 u2 u3 = dotN F.M (elA A) (elA B) (k + 1) by
        rw [hv, HVp.out, HV.out, Nat.add_mod_mod, ← HE.out.1, ← HE.out.2]
        rfl)
      clear hv
      have HS := H8.out.trans (hbl.mono H8.out.size)
      clear H8 hbl
      have H8 := Lib.hid HS
      refine hK.out _ _ (Or.inr HS) (fun _ => ?_)
      clear hK K
      clear HS
      have HM' := Lib.hid (HM.out.on H8.out)
      clear HM H8
      have HM := HM'
      clear HM'
      have kr := HM.out.row (b := gs) (c0 := s0) (c1 := s1) (c2 := s2) (c3 := s3) (by simp)
      have y0 := kr.c0; have y1 := kr.c1; have y2 := kr.c2; have y3 := kr.c3; have yf := kr.fr
      clear kr
      have yl := HM.out.lt (b := gs) (c0 := s0) (c1 := s1) (c2 := s2) (c3 := s3) (by simp)
      refine till_step (i := 13) (by kernel_rfl) rfl (fun K hK => ?_)
      go_simp
      have HM' := Lib.hid (HM.out.put u0 u1 u2 u3 (by omega) (by intro r hr; simp at hr; subst hr; show w.heap.size ≠ gs; omega))
      clear HM
      have HM := HM'
      clear HM'
      refine hK.out _ _ (Or.inl rfl) (fun _ => ?_)
      clear hK K
      refine till_done (by kernel_rfl) ?_
      go_wp2_with fail
      go_roundw
      case rel => exact ⟨k + 1, u0, u1, u2, u3, by omega, by go_num, hu, HVu, HM⟩
      case measure => simp [intOf]; omega
    · obtain rfl : la = k := by omega
      have kr := HM.out.row (b := gs) (c0 := s0) (c1 := s1) (c2 := s2) (c3 := s3) (by simp)
      have x0 := kr.c0; have x1 := kr.c1; have x2 := kr.c2; have x3 := kr.c3
      clear kr
      have xl := HM.out.lt (b := gs) (c0 := s0) (c1 := s1) (c2 := s2) (c3 := s3) (by simp)
      clear hk hlt
      have kr := HM.out.row (b := w.heap.size) (c0 := 0) (c1 := 0) (c2 := 0) (c3 := 0) (by simp)
      have y0 := kr.c0; have y1 := kr.c1; have y2 := kr.c2; have y3 := kr.c3; have yf := kr.fr
      clear kr
      have yl := HM.out.lt (b := w.heap.size) (c0 := 0) (c1 := 0) (c2 := 0) (c3 := 0) (by simp)
      go_wp2_with fail
      refine bodyPost_ret (v := .tuple #[.agg #[.int .u64 s0, .int .u64 s1, .int .u64 s2, .int .u64 s3], .int .i64 0]) (by simp [results, Try.results37, go_sem, *]) rfl ?_
      refine ⟨_, _, _, _, rfl, hs, HV.out, ?_⟩
      exact below_set4 HM.out.1 (Nat.le_refl _) _ _ _ _
end Go.Proofs.Ytalddekocfkbhaa
namespace Go.Proofs.Ytalddekocfkbhaa
set_option linter.unusedVariables false
set_option linter.unusedSimpArgs false
open Go.RowKit Go.WideShapes

theorem LAt.all {w : World} {g off len : Nat} {A : Nat → Nat → Nat} (h : LAt w g off len A) (j : Nat) (hj : j < len * 4) : w.cell? ⟨g, off + j, none⟩ = some (.int .u64 (A (j / 4) (j % 4) : Nat)) := by
  have q := h (j / 4) (by omega)
  have h4 : j % 4 = 0 ∨ j % 4 = 1 ∨ j % 4 = 2 ∨ j % 4 = 3 := by omega
  rcases h4 with e | e | e | e
  · rw [e, show off + j = off + j / 4 * 4 by omega]; exact q.1
  · rw [e, show off + j = off + j / 4 * 4 + 1 by omega]; exact q.2.1
  · rw [e, show off + j = off + j / 4 * 4 + 2 by omega]; exact q.2.2.1
  · rw [e, show off + j = off + j / 4 * 4 + 3 by omega]; exact q.2.2.2
theorem LAt.of {w : World} {g off len : Nat} {A : Nat → Nat → Nat} (h : ∀ j, j < len * 4 → w.cell? ⟨g, off + j, none⟩ = some (.int .u64 (A (j / 4) (j % 4) : Nat))) : LAt w g off len A := by
  intro k hk
  have h0 := h (k * 4) (by omega)
  have h1 := h (k * 4 + 1) (by omega)
  have h2 := h (k * 4 + 2) (by omega)
  have h3 := h (k * 4 + 3) (by omega)
  rw [show k * 4 / 4 = k by omega, show k * 4 % 4 = 0 by omega] at h0
  rw [show (k * 4 + 1) / 4 = k by omega, show (k * 4 + 1) % 4 = 1 by omega] at h1
  rw [show (k * 4 + 2) / 4 = k by omega, show (k * 4 + 2) % 4 = 2 by omega] at h2
  rw [show (k * 4 + 3) / 4 = k by omega, show (k * 4 + 3) % 4 = 3 by omega] at h3
  exact ⟨h0, by rw [Nat.add_assoc]; exact h1, by rw [Nat.add_assoc]; exact h2, by rw [Nat.add_assoc]; exact h3⟩
/-- 'append([]Fe{}, x...)': a copy of the list -/
theorem wpList_copy {ops : Array Oper} {rest : List Oper} {o : Oper} {a : Act} {Q : Exit → Act → World → Prop} (w0 : World) (hgd : o.guard = none) (s x : Operand)
    (ho : o.op = .call { callee := .builtin .append, args := #[s, x], argTypes := #[57, 57] })
    (hs : a.eval s = .slice (some ⟨w0.heap.size, 0, none⟩) 0 0) (ox : Option Addr) (len cap : Nat) (A : Nat → Nat → Nat) (hx : a.eval x = .slice ox len cap) (hnil : ox = none → len = 0 ∧ cap = 0) (hF : FIs w0 ox len A)
    (h : ∀ ao c w', FIs w' ao len A → Below w0.heap.size w0 w' → wpList Try.prog ops Q rest (a.put o.dst (.slice ao len c)) w') :
    wpList Try.prog ops Q (o :: rest) a (w0.alloc (.cells #[] 25)) := by
  obtain ⟨iF, hiF, hF0, hF1, hF2⟩ := fe_info
  have hlit := World.ownsRow_lit (base := w0.heap.size) (e := 25) (size := 4) w0 #[] 0 (Nat.le_refl _) (by decide) rfl
  have hba := (Below.refl w0.heap.size w0).alloc (Nat.le_refl _) (.cells #[] 25)
  cases ox with
  | none =>
    obtain ⟨rfl, rfl⟩ := hnil rfl
    exact wpList_append_own_none hgd s x 57 ho w0.heap.size 25 iF 4 Try.underlying57 hiF _ 0 [] hs hlit hx (h _ _ _ ⟨by omega, hF.2.1, fun h => absurd h (by omega)⟩ hba)
  | some ad =>
    refine wpList_append_own _ hgd s x 57 ho w0.heap.size 25 iF (.agg #[.int .u64 0, .int .u64 0, .int .u64 0, .int .u64 0]) 4 32 Try.underlying57 hiF hF0 hF1 hF2 rfl (by decide) _ 0 [] hs hlit ad len cap (rcells (fun q => A (q / 4) (q % 4)) (len * 4)) hx (by unfold rcells; simp) ?_ ?_ (by have := hF.1; unfold maxLen; omega) (by have := hF.1; omega) (by simp) ?_
    · intro j u hj
      have hj2 : j < len * 4 := by have h := (List.getElem?_eq_some_iff.1 hj).1; unfold rcells at h; simpa using h
      rw [rcells_get _ _ _ hj2] at hj
      obtain rfl := Option.some.inj hj
      obtain ⟨g, off, e, hg, hc⟩ := hF.2.2 (by omega)
      obtain rfl := Option.some.inj e
      rw [add_plain, hba.cell (p := ⟨g, off + j, none⟩) hg]
      exact hc.all j hj2
    · intro u hu
      unfold rcells at hu
      obtain ⟨_, _, rfl⟩ := List.mem_map.1 hu
      rfl
    · intro v' w' hown hgrow _
      rw [Nat.zero_add, List.nil_append] at hown
      obtain ⟨ao, c, rfl, hp⟩ := own_anyL hown
      refine h ao c w' ⟨hF.1, hF.2.1, fun h0 => ?_⟩ (hba.grown hgrow (by simp) (fun k hk => own_geL hlit k hk))
      obtain ⟨g, e, _, lg, hc⟩ := hp h0
      refine ⟨g, 0, e, lg, LAt.of (fun j hj => ?_)⟩
      rw [Nat.zero_add, hc j hj, rcells_get _ _ _ hj]
/-- many inverses answered: n elements, or none with an error -/
def InvR (c : Int) (n : Nat) (E : Nat → Nat) (w : World) (e : Ending) (w' : World) : Prop :=
  ∃ (lo : Option Addr) (lc : Nat) (R : Nat → Nat), e = .returned (.tuple #[.slice lo n lc, .int .i64 c]) ∧ (0 < n → ∃ g, lo = some ⟨g, 0, none⟩ ∧ g < w'.heap.size ∧ ∀ k, k < n * 4 → w'.cell? ⟨g, k, none⟩ = some (.int .u64 (R k : Nat))) ∧ (∀ j, j < n → okP R j ∧ elP R j = E j) ∧ Below w.heap.size w w'
theorem InvR.nothing {c : Int} {E : Nat → Nat} {w : World} {e : Ending} {w' : World} (h : e = .returned (.tuple #[.slice none 0 0, .int .i64 c]) ∧ Below w.heap.size w w') : InvR c 0 E w e w' :=
  ⟨none, 0, fun _ => 0, h.1, fun h => absurd h (by omega), fun j hj => absurd hj (by omega), h.2⟩
theorem invs_both (f : Int) (W : World) (o ao : Option Addr) (len cap ca : Nat) (A : Nat → Nat → Nat) (h : FIs W o len A) (ha : FIs W ao len A) :
    ∃ (c : Int) (n : Nat) (E : Nat → Nat), n ≤ 65536 ∧ (∀ w, Below W.heap.size W w → Calls Try.prog 34 #[.int .i64 f, .slice ao len ca] w (InvR c n E w)) ∧ (∀ w, Below W.heap.size W w → Calls Try.prog 35 #[.int .i64 f, .slice o len cap] w (InvR c n E w)) := by
  by_cases h1 : f = 1 ∨ f = 2
  · obtain ⟨F, hf⟩ : ∃ F, FieldIs f F := by rcases h1 with h1 | h1; exact ⟨FP, Or.inl ⟨h1, rfl⟩⟩; exact ⟨FR, Or.inr ⟨h1, rfl⟩⟩
    by_cases hc : 65536 < len
    · exact ⟨3, 0, fun _ => 0, by omega, fun w _ => (finvs_count f F hf ao len ca hc w).mono fun e w' h => InvR.nothing h, fun w _ => (rinvs_count f F hf o len cap w hc).mono fun e w' h => InvR.nothing h⟩
    by_cases hi : allIn F.M len A
    · refine ⟨0, len, fun j => elA A j ^ (F.M - 2) % F.M, by omega, fun w hb => ?_, fun w hb => ?_⟩
      · by_cases h0 : 0 < len
        · obtain ⟨g, off, rfl, hg, hl⟩ := ha.2.2 h0
          refine (finvs_ok f F hf g off len ca A h.2.1 (by have := h.1; omega) w (fun _ => Nat.lt_of_lt_of_le hg hb.size) (hl.same (fun _ => hg) hb) (by omega) hi).mono ?_
          rintro e w' ⟨bo, O, he, h3, h4, h5, h6, h7⟩
          exact ⟨some ⟨bo, 0, none⟩, len, O, he, fun _ => ⟨bo, rfl, h4, fun k hk => (h5 k hk).1⟩, h6, h7⟩
        · obtain rfl : len = 0 := by omega
          refine (finvs_nil f F hf ao ca w).mono ?_
          rintro e w' ⟨bo, O, he, h3, h4, h5, _, h7⟩
          exact ⟨some ⟨bo, 0, none⟩, 0, O, he, fun h => absurd h (by omega), fun j hj => absurd hj (by omega), h7⟩
      · exact rinvs_ok f F hf A o len cap w (h.on hb) (by omega) hi
    · have h0 : 0 < len := by
        rcases Nat.eq_zero_or_pos len with e | e
        · subst e; exact absurd (fun k hk => absurd hk (by omega)) hi
        · exact e
      refine ⟨21, 0, fun _ => 0, by omega, fun w hb => ?_, fun w hb => (rinvs_elem f F hf A o len cap w (h.on hb) (by omega) hi).mono fun e w' h => InvR.nothing h⟩
      obtain ⟨g, off, rfl, hg, hl⟩ := ha.2.2 h0
      exact (finvs_elem f F hf g off len ca A h.2.1 w (fun _ => Nat.lt_of_lt_of_le hg hb.size) (hl.same (fun _ => hg) hb) (by omega) hi).mono fun e w' h => InvR.nothing h
  · exact ⟨1, 0, fun _ => 0, by omega, fun w _ => (finvs_none f (fun q => h1 (Or.inl q)) (fun q => h1 (Or.inr q)) ao len ca w).mono fun e w' h => InvR.nothing h, fun w _ => (rinvs_none f (fun q => h1 (Or.inl q)) (fun q => h1 (Or.inr q)) o len cap w).mono fun e w' h => InvR.nothing h⟩
theorem dot_both (f : Int) (W : World) (o ao p bo : Option Addr) (la ca ca' lb cb cb' : Nat) (A B : Nat → Nat → Nat) (h : FIs W o la A) (ha : FIs W ao la A) (k : FIs W p lb B) (hb : FIs W bo lb B) :
    ∃ (c : Int) (V : Nat), (∀ w, Below W.heap.size W w → Calls Try.prog 36 #[.int .i64 f, .slice ao la ca', .slice bo lb cb'] w (FeE c V w)) ∧ (∀ w, Below W.heap.size W w → Calls Try.prog 37 #[.int .i64 f, .slice o la ca, .slice p lb cb] w (FeE c V w)) := by
  have hl := h.1
  have kl := k.1
  by_cases h1 : f = 1 ∨ f = 2
  · obtain ⟨F, hf⟩ : ∃ F, FieldIs f F := by rcases h1 with h1 | h1; exact ⟨FP, Or.inl ⟨h1, rfl⟩⟩; exact ⟨FR, Or.inr ⟨h1, rfl⟩⟩
    by_cases hc : la ≠ lb ∨ 65536 < la
    · exact ⟨3, 0, fun w _ => fdot_count f F hf ao bo la ca' lb cb' hc (by omega) (by omega) w, fun w _ => rdot_count f F hf o p la ca lb cb hc (by omega) (by omega) w⟩
    · have e1 : la = lb := by omega
      have e2 : la ≤ 65536 := by omega
      by_cases hi : allIn F.M la A ∧ allIn F.M lb B
      · exact ⟨0, _, fun w q => fdot_ok f F hf ao bo la ca' lb cb' A B e1 e2 hi.1 hi.2 w (ha.on q) (hb.on q), fun w q => rdot_ok f F hf o p la ca lb cb A B e1 e2 hi.1 hi.2 w (h.on q) (k.on q)⟩
      · exact ⟨21, 0, fun w q => fdot_elem f F hf ao bo la ca' lb cb' A B e1 e2 hi w (ha.on q) (hb.on q), fun w q => rdot_elem f F hf o p la ca lb cb A B e1 e2 hi w (h.on q) (k.on q)⟩
  · exact ⟨1, 0, fun w _ => fdot_none f (fun q => h1 (Or.inl q)) (fun q => h1 (Or.inr q)) ao bo la ca' lb cb' w, fun w _ => rdot_none f (fun q => h1 (Or.inl q)) (fun q => h1 (Or.inr q)) o p la ca lb cb w⟩
set_option maxRecDepth 100000 in
set_option maxHeartbeats 16000000 in
theorem lists_calls (f : Int) (o : Option Addr) (la ca : Nat) (p : Option Addr) (lb cb : Nat) (A B : Nat → Nat → Nat) (w : World) (hA : FIs w o la A) (hB : FIs w p lb B) (ho : o = none → la = 0 ∧ ca = 0) (hp : p = none → lb = 0 ∧ cb = 0) :
    Calls Try.prog 5 #[.int .i64 f, .slice o la ca, .slice p lb cb] w fun e w' => e = .returned (.bool true) ∧ Below w.heap.size w w' := by
  have hG := eqGuardF
  have hS := equalSelfF
  have HA := Lib.hid hA
  have HB := Lib.hid hB
  have ba := hA.1
  have bb := hB.1
  clear hA hB
  go_enter Try.func5, Try.ntmps5
  go_wp2_with (at_builtin; refine wpList_copy w rfl _ _ rfl rfl o la ca A rfl ho HA.out ?_)
  intro ao ca' w1 hF1 hb1
  have XA := Lib.hid hF1
  have B1 := Lib.hid hb1
  clear hF1 hb1
  go_wp2_with (at_builtin; refine wpList_copy w1 rfl _ _ rfl rfl p lb cb B rfl hp (HB.out.on B1.out) ?_)
  intro bo cb' w2 hF2 hb2
  have XB := Lib.hid hF2
  have XA' := Lib.hid (XA.out.on hb2)
  have B2 := Lib.hid (B1.out.trans (hb2.mono B1.out.size))
  clear hF2 hb2 XA B1
  obtain ⟨ci, n, E, hn, i1, i2⟩ := invs_both f w2 o ao la ca ca' A (HA.out.on B2.out) XA'.out
  obtain ⟨cd, V, d1, d2⟩ := dot_both f w2 o ao p bo la ca ca' lb cb cb' A B (HA.out.on B2.out) XA'.out (HB.out.on B2.out) XB.out
  have I1 := Lib.hid i1
  have I2 := Lib.hid i2
  have D1 := Lib.hid d1
  have D2 := Lib.hid d2
  clear i1 i2 d1 d2
  have HM := Lib.hid (Mem.nil w2)
  go_wp2_with fail
  refine (I1.out _ HM.out.1).mono ?_
  rintro e w3 ⟨lo, lc, R, rfl, hl1, hl2, hbl⟩
  have L3 := Lib.hid hl1
  have L3v := Lib.hid hl2
  have HM' := Lib.hid (HM.out.on hbl)
  clear hl1 hl2 hbl
  clear HM
  have HM := HM'
  clear HM'
  go_wp2_with fail
  refine (I2.out _ HM.out.1).mono ?_
  rintro e w4 ⟨mo, mc, R', rfl, hl1, hl2, hbl⟩
  have L4 := Lib.hid (show 0 < n → ∃ g, lo = some ⟨g, 0, none⟩ ∧ g < w4.heap.size ∧ ∀ k, k < n * 4 → w4.cell? ⟨g, k, none⟩ = some (.int .u64 (R k : Nat)) from fun h => by
    obtain ⟨g, e, lg, hc⟩ := L3.out h
    exact ⟨g, e, Nat.lt_of_lt_of_le lg hbl.size, fun k hk => (hbl.cell (p := ⟨g, k, none⟩) lg).trans (hc k hk)⟩)
  have M4 := Lib.hid hl1
  have M4v := Lib.hid hl2
  have N4 := Lib.hid (Mem.nil w4)
  have HM' := Lib.hid (HM.out.on hbl)
  clear hl1 hl2 hbl L3
  clear HM
  have HM := HM'
  clear HM'
  go_wp2_with fail
  refine (D1.out _ HM.out.1).mono ?_
  rintro e w5 ⟨s0, s1, s2, s3, rfl, hs, hv, hbl⟩
  have Vs := Lib.hid hv
  have HM' := Lib.hid ((HM.out.on hbl).new w5.heap.size s0 s1 s2 s3 25 rfl)
  have N4' := Lib.hid (((N4.out.on hbl).new w5.heap.size s0 s1 s2 s3 25 rfl).sub (rs' := []) (by simp))
  clear hv hbl N4
  have N4 := N4'
  clear N4'
  clear HM
  have HM := HM'
  clear HM'
  go_wp2_with fail
  refine (D2.out _ HM.out.1).mono ?_
  rintro e w6 ⟨t0, t1, t2, t3, rfl, ht, hv, hbl⟩
  obtain ⟨rfl, rfl, rfl, rfl⟩ := val4_inj hs ht (Vs.out.trans hv.symm)
  have HM' := Lib.hid ((HM.out.on hbl).new w6.heap.size s0 s1 s2 s3 25 rfl)
  have N4' := Lib.hid (((N4.out.on hbl).new w6.heap.size s0 s1 s2 s3 25 rfl).sub (rs' := []) (by simp))
  clear hv hbl N4 ht
  have N4 := N4'
  clear N4'
  clear HM
  have HM := HM'
  clear HM'
  have kr := HM.out.row (b := w5.heap.size) (c0 := s0) (c1 := s1) (c2 := s2) (c3 := s3) (by simp)
  have p0 := kr.c0; have p1 := kr.c1; have p2 := kr.c2; have p3 := kr.c3
  clear kr
  have pl := HM.out.lt (b := w5.heap.size) (c0 := s0) (c1 := s1) (c2 := s2) (c3 := s3) (by simp)
  go_wp2_with fail
  refine (num_calls _ _).mono ?_
  rintro e wn ⟨rfl, rfl⟩
  go_wp2_with fail
  refine (num_calls _ _).mono ?_
  rintro e wn ⟨rfl, rfl⟩
  go_wp2_with fail
  clear p0 p1 p2 p3 pl
  obtain ⟨wL, hwL⟩ : ∃ wL, wL = w6.alloc (.cells #[.int .u64 s0, .int .u64 s1, .int .u64 s2, .int .u64 s3] 25) := ⟨_, rfl⟩
  rw [← hwL] at HM N4 ⊢
  clear hwL
  have LL := Lib.hid (show 0 < n → ∃ g, lo = some ⟨g, 0, none⟩ ∧ g < wL.heap.size ∧ ∀ k, k < n * 4 → wL.cell? ⟨g, k, none⟩ = some (.int .u64 (R k : Nat)) from fun h => by
    obtain ⟨g, e, lg, hc⟩ := L4.out h
    exact ⟨g, e, Nat.lt_of_lt_of_le lg N4.out.1.size, fun k hk => (N4.out.1.cell (p := ⟨g, k, none⟩) lg).trans (hc k hk)⟩)
  have ML := Lib.hid (show 0 < n → ∃ g, mo = some ⟨g, 0, none⟩ ∧ g < wL.heap.size ∧ ∀ k, k < n * 4 → wL.cell? ⟨g, k, none⟩ = some (.int .u64 (R' k : Nat)) from fun h => by
    obtain ⟨g, e, lg, hc⟩ := M4.out h
    exact ⟨g, e, Nat.lt_of_lt_of_le lg N4.out.1.size, fun k hk => (N4.out.1.cell (p := ⟨g, k, none⟩) lg).trans (hc k hk)⟩)
  have AL := Lib.hid ((HA.out.on B2.out).on HM.out.1)
  have BL := Lib.hid ((HB.out.on B2.out).on HM.out.1)
  have XAL := Lib.hid (XA'.out.on HM.out.1)
  have XBL := Lib.hid (XB.out.on HM.out.1)
  have WB := Lib.hid (B2.out.trans (HM.out.1.mono B2.out.size))
  have N0 := Lib.hid (Mem.nil wL)
  clear L4 M4 N4 HM XA' XB B2 HA HB I1 I2 D1 D2
  go_loopw [18] (fun t wr => ∃ (k : Nat), k ≤ n ∧ t = .int .i64 k ∧ Hid (Mem wL wr [])) (fun t _ => n - (intOf t).toNat)
  case atStart => exact ⟨0, Nat.zero_le _, rfl, N0⟩
  case round =>
    clear N0
    obtain ⟨k, hk, rfl, N⟩ := hrel
    by_cases hlt : k < n
    · obtain ⟨gl, rfl, ll, hlc⟩ := LL.out (by omega)
      obtain ⟨gm, rfl, lm, hmc⟩ := ML.out (by omega)
      obtain ⟨q0, q1, q2, q3⟩ := val4_inj (L3v.out k hlt).1 (M4v.out k hlt).1 ((L3v.out k hlt).2.trans (M4v.out k hlt).2.symm)
      obtain ⟨z0, e0⟩ : ∃ z0, z0 = R (k * 4) := ⟨_, rfl⟩
      obtain ⟨z1, e1⟩ : ∃ z1, z1 = R (k * 4 + 1) := ⟨_, rfl⟩
      obtain ⟨z2, e2⟩ : ∃ z2, z2 = R (k * 4 + 2) := ⟨_, rfl⟩
      obtain ⟨z3, e3⟩ : ∃ z3, z3 = R (k * 4 + 3) := ⟨_, rfl⟩
      have c0 := (N.out.1.cell (p := ⟨gl, k * 4, none⟩) ll).trans (hlc (k * 4) (by omega)); have c1 := (N.out.1.cell (p := ⟨gl, k * 4 + 1, none⟩) ll).trans (hlc (k * 4 + 1) (by omega)); have c2 := (N.out.1.cell (p := ⟨gl, k * 4 + 2, none⟩) ll).trans (hlc (k * 4 + 2) (by omega)); have c3 := (N.out.1.cell (p := ⟨gl, k * 4 + 3, none⟩) ll).trans (hlc (k * 4 + 3) (by omega))
      have d0 := (N.out.1.cell (p := ⟨gm, k * 4, none⟩) lm).trans (hmc (k * 4) (by omega)); have d1 := (N.out.1.cell (p := ⟨gm, k * 4 + 1, none⟩) lm).trans (hmc (k * 4 + 1) (by omega)); have d2 := (N.out.1.cell (p := ⟨gm, k * 4 + 2, none⟩) lm).trans (hmc (k * 4 + 2) (by omega)); have d3 := (N.out.1.cell (p := ⟨gm, k * 4 + 3, none⟩) lm).trans (hmc (k * 4 + 3) (by omega))
      rw [← q0, ← e0] at d0
      rw [← q1, ← e1] at d1
      rw [← q2, ← e2] at d2
      rw [← q3, ← e3] at d3
      rw [← e0] at c0
      rw [← e1] at c1
      rw [← e2] at c2
      rw [← e3] at c3
      clear e0 e1 e2 e3 q0 q1 q2 q3 hlc hmc
      go_wp2_with fail
      go_region
      go_wp2_with fail
      go_roundw
      case rel => exact ⟨k + 1, by omega, by go_num, Lib.hid (show Mem wL wr.drew [] from N.out.drewN 1)⟩
      case measure => simp [intOf]; omega
    · obtain rfl : n = k := by omega
      obtain ⟨wq19, rfl⟩ : ∃ wq19, wq19 = wr := ⟨_, rfl⟩
      clear hk hlt
      go_wp2_with fail
      go_loopw [19] (fun t wr => ∃ (k : Nat), k ≤ la ∧ t = .int .i64 k ∧ Hid (Mem wL wr [])) (fun t _ => la - (intOf t).toNat)
      case atStart => exact ⟨0, Nat.zero_le _, rfl, N⟩
      case round =>
        clear N
        obtain ⟨k, hk, rfl, N⟩ := hrel
        by_cases hlt : k < la
        · obtain ⟨g1, of1, rfl, l1, h1⟩ := XAL.out.2.2 (by omega)
          obtain ⟨g2, of2, rfl, l2, h2⟩ := AL.out.2.2 (by omega)
          obtain ⟨z0, z1, z2, z3, e0, e1, e2, e3⟩ : ∃ z0 z1 z2 z3 : Nat, z0 = A k 0 ∧ z1 = A k 1 ∧ z2 = A k 2 ∧ z3 = A k 3 := ⟨_, _, _, _, rfl, rfl, rfl, rfl⟩
          have hc := (h1.same (fun _ => l1) N.out.1) k hlt
          have hd := (h2.same (fun _ => l2) N.out.1) k hlt
          rw [← e0, ← e1, ← e2, ← e3] at hc hd
          have c0 := hc.1; have c1 := hc.2.1; have c2 := hc.2.2.1; have c3 := hc.2.2.2
          have d0 := hd.1; have d1 := hd.2.1; have d2 := hd.2.2.1; have d3 := hd.2.2.2
          clear hc hd e0 e1 e2 e3 h1 h2
          go_wp2_with fail
          go_region
          go_wp2_with fail
          go_roundw
          case rel => exact ⟨k + 1, by omega, by go_num, Lib.hid (show Mem wL wr.drew [] from N.out.drewN 1)⟩
          case measure => simp [intOf]; omega
        · obtain rfl : la = k := by omega
          obtain ⟨wq20, rfl⟩ : ∃ wq20, wq20 = wr := ⟨_, rfl⟩
          clear hk hlt
          go_wp2_with fail
          go_loopw [20] (fun t wr => ∃ (k : Nat), k ≤ lb ∧ t = .int .i64 k ∧ Hid (Mem wL wr [])) (fun t _ => lb - (intOf t).toNat)
          case atStart => exact ⟨0, Nat.zero_le _, rfl, N⟩
          case round =>
            clear N
            obtain ⟨k, hk, rfl, N⟩ := hrel
            by_cases hlt : k < lb
            · obtain ⟨g1, of1, rfl, l1, h1⟩ := XBL.out.2.2 (by omega)
              obtain ⟨g2, of2, rfl, l2, h2⟩ := BL.out.2.2 (by omega)
              obtain ⟨z0, z1, z2, z3, e0, e1, e2, e3⟩ : ∃ z0 z1 z2 z3 : Nat, z0 = B k 0 ∧ z1 = B k 1 ∧ z2 = B k 2 ∧ z3 = B k 3 := ⟨_, _, _, _, rfl, rfl, rfl, rfl⟩
              have hc := (h1.same (fun _ => l1) N.out.1) k hlt
              have hd := (h2.same (fun _ => l2) N.out.1) k hlt
              rw [← e0, ← e1, ← e2, ← e3] at hc hd
              have c0 := hc.1; have c1 := hc.2.1; have c2 := hc.2.2.1; have c3 := hc.2.2.2
              have d0 := hd.1; have d1 := hd.2.1; have d2 := hd.2.2.1; have d3 := hd.2.2.2
              clear hc hd e0 e1 e2 e3 h1 h2
              go_wp2_with fail
              go_region
              go_wp2_with fail
              go_roundw
              case rel => exact ⟨k + 1, by omega, by go_num, Lib.hid (show Mem wL wr.drew [] from N.out.drewN 1)⟩
              case measure => simp [intOf]; omega
            · obtain rfl : lb = k := by omega
              obtain ⟨wv, rfl⟩ : ∃ wv, wv = wr := ⟨_, rfl⟩
              clear hk hlt
              go_wp2_with fail
              refine (works_calls _).mono ?_
              rintro e wz ⟨rfl, hbl⟩
              have NZ := Lib.hid (N.out.on hbl)
              clear hbl
              go_wp2_with fail
              go_ret
              exact ⟨rfl, WB.out.trans (NZ.out.1.mono WB.out.size)⟩
end Go.Proofs.Ytalddekocfkbhaa
namespace Go.Proofs.Ytalddekocfkbhaa
set_option linter.unusedVariables false
open Go.ChangeShapes Go.WideShapes Go.ChangeAt Go.RowKit

theorem fe_bytesN : Try.prog.bytesOf 25 = 32 := by kernel_rfl
theorem open_fesN {H : Type} {enc : TypeId × Value → H} {W : World} {o : Option Addr} {len cap : Nat} {d : DataW H} {ps : List MemPlace} (h : DataW.Trod enc Try.prog W 0 (fun _ => true) true 57 (.slice o len cap) d ps) (hl : ∀ x ∈ ps, x.block < W.heap.size)
    (hsz : ∀ elems spare, d = .slice elems spare → (elems.length + spare.length) * Try.prog.bytesOf 25 ≤ reachBytes) :
    ∃ A, FIs W o len A ∧ (o = none → len = 0 ∧ cap = 0) := by
  have hop := (open_fes h hl).2
  obtain ⟨fuel, hf⟩ := h
  have hlen : len * 32 ≤ 140737488351232 ∧ (o = none → len = 0 ∧ cap = 0) := by
    rcases DataW.trod_slice Try.underlying57 hf with ⟨hcs, _⟩ | ⟨a, len', cap', elems, rest, n, _, hcs, hx, hb, hlc, hm, hlen, hel, _⟩
    · simp [Value.cells] at hcs
      obtain ⟨rfl, rfl, rfl⟩ := hcs
      exact ⟨by omega, fun _ => ⟨rfl, rfl⟩⟩
    · simp [Value.cells] at hcs
      obtain ⟨rfl, rfl, rfl⟩ := hcs
      have hs := hsz _ _ (congrArg Prod.fst hx)
      rw [fe_bytesN] at hs
      simp only [List.length_map, reachBytes] at hs
      exact ⟨by omega, fun h => by cases h⟩
  rcases hop with h0 | ⟨h0, g, off, A, rfl, hg, hA, hc⟩
  · subst h0
    exact ⟨fun _ _ => 0, ⟨by omega, fun k hk => absurd hk (by omega), fun h => absurd h (by omega)⟩, hlen.2⟩
  · exact ⟨A, ⟨hlen.1, hA, fun _ => ⟨g, off, rfl, hg, hc⟩⟩, hlen.2⟩

set_option maxRecDepth 100000 in
theorem lists_lifted (os : Os) (started : os.Started) (H : Type) (enc : TypeId × Value → H) :
    ReturnsInHanded {} Try.checked os 5 .any (Rows.fieldListsSpec.pre6 enc Try.prog Try.f5 Rows.fieldListsRow.domain false) (Rows.fieldListsSpec.post enc Try.prog Try.f5 false true false false) := by
  refine returnsInHanded_of_change_sized (C := Try.checked) own started (by kernel_rfl) Try.func5
    (ChangeSpec.witness6 (enc := enc) (C := Try.checked) false ⟨#[], #[.int .i64 0, .slice none 0 0, .slice none 0 0], []⟩ 8 (by kernel_rfl) (by kernel_rfl) (by kernel_rfl) (by kernel_rfl)) ?_
  intro W base args ds gs before hval0 hW hcnd hsz0 _
  have hval : ∀ (j : Nat) t v, Try.f5.params[j]? = some t → args[j]? = some v → Value.okWide Try.prog W .any base t v := hval0
  have hW' := hW
  obtain ⟨p, q, hA0, hV, rfl, hfz, hnd⟩ := hW
  have hA : DataW.TrodAll enc Try.prog W 0 (fun _ => true) true Try.f5.params.toList args.toList ds p := hA0
  have hsz : (DataW.weightsEach Try.prog (Try.f5.params.toList ++ Rows.fieldListsSpec.plain.varTypes Try.prog) (ds ++ gs)).all (· ≤ reachBytes) = true := hsz0
  rw [Try.params5] at hA hval hsz
  obtain ⟨v0, v1, v2, d0, d1, d2, p0, p1, p2, rfl, rfl, rfl, h0, h1, h2⟩ := trodAll_three hA
  obtain ⟨rfl, rfl⟩ := trodVars_none hV
  obtain ⟨a, rfl, rfl, rfl, ga⟩ := open_int Try.underlying22 (hval 0 _ _ rfl rfl) h0
  obtain ⟨bo, bn, bc, rfl⟩ := okWide_slice Try.underlying57 (hval 1 _ _ rfl rfl)
  obtain ⟨co, cn, cc, rfl⟩ := okWide_slice Try.underlying57 (hval 2 _ _ rfl rfl)
  clear hA0 hval0
  simp only [List.append_nil] at hW'
  have l0 : ∀ x ∈ ([] : List MemPlace), x.block < W.heap.size := fun x hx => by cases hx
  have l1 : ∀ x ∈ p1, x.block < W.heap.size := fun x hx => hW'.lt x (by simp [hx])
  have l2 : ∀ x ∈ p2, x.block < W.heap.size := fun x hx => hW'.lt x (by simp [hx])
  obtain ⟨A, hA1, hA2⟩ := open_fesN h1 l1 (fun elems spare e => sized_slice hsz (j := 1) (t := 57) (e := 25) rfl (by rw [e]; rfl) Try.underlying57)
  obtain ⟨B, hB1, hB2⟩ := open_fesN h2 l2 (fun elems spare e => sized_slice hsz (j := 2) (t := 57) (e := 25) rfl (by rw [e]; rfl) Try.underlying57)
  refine (lists_calls a bo bn bc co cn cc A B W hA1 hB1 hA2 hB2).mono fun e W' ⟨he, hbl⟩ => ?_
  subst he
  have kf : ∀ {v d ps}, DataW.Trod enc Try.prog W 0 (fun _ => true) true 22 v d ps → (∀ x ∈ ps, x.block < W.heap.size) → DataW.Trod enc Try.prog W' 0 (fun b => decide (b < W.heap.size)) true 22 v d ps :=
    fun h l => Below.trod laidOut (by kernel_rfl) (of_decide_eq_true (by kernel_rfl)) h hbl l
  have kl : ∀ {v d ps}, DataW.Trod enc Try.prog W 0 (fun _ => true) true 57 v d ps → (∀ x ∈ ps, x.block < W.heap.size) → DataW.Trod enc Try.prog W' 0 (fun b => decide (b < W.heap.size)) true 57 v d ps :=
    fun h l => Below.trod laidOut (by kernel_rfl) (of_decide_eq_true (by kernel_rfl)) h hbl l
  exact ⟨_, rfl, ⟨_, _, _, [], _, [], hW', trodAll_mk1 (shut_bool Try.underlying4 _), trodAll_mk3 (kf h0 l0) (kl h1 l1) (kl h2 l2), rfl, hbl.frame _, fun h => by cases h⟩⟩

theorem lists_holds : Rows.FieldListsSaid :=
  OpenClaim.holds_of_wide 5 Try.f5 rfl rfl rfl rfl rfl rfl rfl ⟨rfl, rfl, rfl, rfl, rfl⟩ rfl rfl rfl rfl rfl (by kernel_rfl) Try.func5 (by kernel_rfl)
    (of_decide_eq_true (by kernel_rfl)) (by unfold Func.isWrapper; first | (rw [if_pos (by decide +kernel)]; kernel_rfl) | (rw [if_neg (by decide +kernel)]; exact ⟨rfl, rfl⟩))
    (fun os started H enc _ => lists_lifted os started H enc)
#print axioms lists_holds
end Go.Proofs.Ytalddekocfkbhaa
