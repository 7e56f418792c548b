/-
  Elements are kept and told back: the calls into, out, one, product. Conditions: words below 2^64, elements below the modulus, the constants in a block of memory.
-/
import Derived.Test.YtgacpjmggdmgdaaGreatTimes
import Derived.Test.YtgacpjmggdmgdaaGreatFe2
import Derived.Test.YtgacpjmggdmgdaaGreatFldAll
import Derived.Deep.RegionWith
namespace Go.Proofs.YtgacpjmggdmgdaaGreat
set_option linter.unusedVariables false
set_option linter.unusedSimpArgs false
open Go.RowKit

theorem FC.Ok.sqlt {F : FC} (hF : F.Ok) : val4 F.s0 F.s1 F.s2 F.s3 < F.M := by rw [hF.sq]; exact Nat.mod_lt _ (by have := hF.gt; omega)
theorem FC.Ok.pos {F : FC} (hF : F.Ok) : 0 < F.M := by have := hF.gt; omega

set_option maxRecDepth 100000 in
set_option maxHeartbeats 1000000 in
theorem into_calls (F : FC) (hF : F.Ok) (b a0 a1 a2 a3 : Nat) (ha : ok4 a0 a1 a2 a3) (w : World) (hk : KIs w b F) :
    Calls Tryz.prog 142 #[.pointer (some ⟨b, 0, none⟩), .agg #[.int .u64 a0, .int .u64 a1, .int .u64 a2, .int .u64 a3]] w (FePost (kp F (val4 a0 a1 a2 a3)) w) := by
  have HK := Lib.hid hk
  have HF := Lib.hid hF
  have hL := hk.lt
  have hL1 : b < w.heap.size + 1 := by omega
  have hL2 : b < w.heap.size + 1 + 1 := by omega
  have k5 := hk.k5; have k6 := hk.k6; have k7 := hk.k7; have k8 := hk.k8
  clear hk hF
  go_enter Tryz.func142, Tryz.ntmps142
  go_wp2_with fail
  go_region_with (go_at_call 150; refine (times_calls F HF.out b a0 a1 a2 a3 F.s0 F.s1 F.s2 F.s3 ha HF.out.oks HF.out.sqlt _ (HK.out.same (by repeat (first | exact Below.refl _ _ | refine Below.drew ?_ | refine Below.trans ?_ (below_drewN' _ _ _) | refine Below.alloc ?_ (by first | (simp; done) | (simp; omega)) _)))).mono ?_; rintro e ws ⟨s0, s1, s2, s3, rfl, hs, hv, hbl⟩; have HVs := Lib.hid hv; obtain ⟨hcs, hfs⟩ := bcell hbl; have hzs : w.heap.size + 1 < ws.heap.size := by { have := hbl.size; simp at this; omega }; have HBLs := Lib.hid hbl; clear hv hbl)
  all_goals (
    go_wp2_with fail
    refine bodyPost_ret (v := .agg #[.int .u64 s0, .int .u64 s1, .int .u64 s2, .int .u64 s3]) (by simp [results, Tryz.results142, go_sem, *]) rfl ?_
    refine ⟨_, _, _, _, rfl, hs, HVs.out.trans (kp_into HF.out _), ?_⟩
    refine below_set4 (Below.trans ?_ (HBLs.out.mono (by first | (simp; done) | (simp; omega)))) (by omega) _ _ _ _
    repeat (first | exact Below.refl _ _ | refine Below.drew ?_ | refine Below.trans ?_ (below_drewN' _ _ _) | refine Below.alloc ?_ (by first | (simp; done) | (simp; omega)) _)
  )
set_option maxRecDepth 100000 in
set_option maxHeartbeats 1000000 in
theorem out_calls (F : FC) (hF : F.Ok) (b a0 a1 a2 a3 : Nat) (ha : ok4 a0 a1 a2 a3) (w : World) (hk : KIs w b F) :
    Calls Tryz.prog 143 #[.pointer (some ⟨b, 0, none⟩), .agg #[.int .u64 a0, .int .u64 a1, .int .u64 a2, .int .u64 a3]] w (FePost (val4 a0 a1 a2 a3 * 1 * F.Ri % F.M) w) := by
  have HK := Lib.hid hk
  have HF := Lib.hid hF
  have hL := hk.lt
  have hL1 : b < w.heap.size + 1 := by omega
  have hL2 : b < w.heap.size + 1 + 1 := by omega
  clear hk hF
  go_enter Tryz.func143, Tryz.ntmps143
  go_wp2_with fail
  refine (times_calls F HF.out b a0 a1 a2 a3 1 0 0 0 ha ⟨by omega, by omega, by omega, by omega⟩ (by show 1 < _; have := HF.out.gt; omega) _ (HK.out.same (by repeat (first | exact Below.refl _ _ | refine Below.drew ?_ | refine Below.trans ?_ (below_drewN' _ _ _) | refine Below.alloc ?_ (by first | (simp; done) | (simp; omega)) _)))).mono ?_
  rintro e ws ⟨s0, s1, s2, s3, rfl, hs, hv, hbl⟩; have HVs := Lib.hid hv; obtain ⟨hcs, hfs⟩ := bcell hbl; have hzs : w.heap.size + 1 < ws.heap.size := by { have := hbl.size; simp at this; omega }; have HBLs := Lib.hid hbl; clear hv hbl
  go_wp2_with fail
  refine bodyPost_ret (v := .agg #[.int .u64 s0, .int .u64 s1, .int .u64 s2, .int .u64 s3]) (by simp [results, Tryz.results143, go_sem, *]) rfl ?_
  refine ⟨_, _, _, _, rfl, hs, HVs.out, ?_⟩
  refine below_set4 (Below.trans ?_ (HBLs.out.mono (by first | (simp; done) | (simp; omega)))) (by omega) _ _ _ _
  repeat (first | exact Below.refl _ _ | refine Below.drew ?_ | refine Below.trans ?_ (below_drewN' _ _ _) | refine Below.alloc ?_ (by first | (simp; done) | (simp; omega)) _)

theorem of_calls (n : Nat) (hn : n < 18446744073709551616) (w : World) : Calls Tryz.prog 92 #[.int .u64 n] w fun e w' => e = .returned (.agg #[.int .u64 n, .int .u64 0, .int .u64 0, .int .u64 0]) ∧ Below w.heap.size w w' := by
  go_enter Tryz.func92, Tryz.ntmps92
  go_wp2_with fail
  refine bodyPost_ret (v := .agg #[.int .u64 n, .int .u64 0, .int .u64 0, .int .u64 0]) (by simp [results, Tryz.results92, go_sem]) rfl ?_
  exact ⟨rfl, by repeat (first | exact Below.refl _ _ | refine Below.drew ?_ | refine Below.alloc ?_ (by first | (simp; done) | (simp; omega)) _ | refine Below.setCell ?_ (by simp) _)⟩
set_option maxRecDepth 100000 in
set_option maxHeartbeats 1000000 in
theorem one_calls (F : FC) (hF : F.Ok) (b : Nat)  (w : World) (hk : KIs w b F) :
    Calls Tryz.prog 177 #[.pointer (some ⟨b, 0, none⟩)] w (FePost (kp F 1) w) := by
  have HK := Lib.hid hk
  have HF := Lib.hid hF
  have hL := hk.lt
  have hL1 : b < w.heap.size + 1 := by omega
  have hL2 : b < w.heap.size + 1 + 1 := by omega
  clear hk hF
  go_enter Tryz.func177, Tryz.ntmps177
  go_wp2_with fail
  refine (of_calls 1 (by omega) _).mono ?_
  rintro e w1 ⟨rfl, hb1⟩
  have hz1 : w.heap.size < w1.heap.size := by have := hb1.size; simp at this; omega
  obtain ⟨hc1, hf1⟩ := bcell hb1
  have HB1 := Lib.hid hb1
  have HK1 := Lib.hid ((HK.out.same (by repeat (first | exact Below.refl _ _ | refine Below.drew ?_ | refine Below.trans ?_ (below_drewN' _ _ _) | refine Below.alloc ?_ (by first | (simp; done) | (simp; omega)) _)) : KIs (w.alloc _) b F).same hb1)
  clear hb1
  go_wp2_with fail
  refine (into_calls F HF.out b 1 0 0 0 ⟨by omega, by omega, by omega, by omega⟩ _ HK1.out).mono ?_
  rintro e ws ⟨s0, s1, s2, s3, rfl, hs, hv, hbl⟩
  have HVs := Lib.hid hv
  obtain ⟨hcs, hfs⟩ := bcell hbl
  have hzs : w.heap.size < ws.heap.size := by have := hbl.size; omega
  have HBLs := Lib.hid (HB1.out.trans (hbl.mono HB1.out.size))
  clear hv hbl
  go_wp2_with fail
  refine bodyPost_ret (v := .agg #[.int .u64 s0, .int .u64 s1, .int .u64 s2, .int .u64 s3]) (by simp [results, Tryz.results177, go_sem, *]) rfl ?_
  refine ⟨_, _, _, _, rfl, hs, HVs.out, ?_⟩
  refine below_set4 (Below.trans ?_ (HBLs.out.mono (by first | (simp; done) | (simp; omega)))) (by omega) _ _ _ _
  repeat (first | exact Below.refl _ _ | refine Below.drew ?_ | refine Below.trans ?_ (below_drewN' _ _ _) | refine Below.alloc ?_ (by first | (simp; done) | (simp; omega)) _)

set_option maxRecDepth 100000 in
set_option maxHeartbeats 1000000 in
theorem product_calls (F : FC) (hF : F.Ok) (b a0 a1 a2 a3 b0 b1 b2 b3 : Nat) (ha : ok4 a0 a1 a2 a3) (hb : ok4 b0 b1 b2 b3) (lb : val4 b0 b1 b2 b3 < F.M) (w : World) (hk : KIs w b F) :
    Calls Tryz.prog 168 #[.pointer (some ⟨b, 0, none⟩), .agg #[.int .u64 a0, .int .u64 a1, .int .u64 a2, .int .u64 a3], .agg #[.int .u64 b0, .int .u64 b1, .int .u64 b2, .int .u64 b3]] w (FePost (val4 a0 a1 a2 a3 * val4 b0 b1 b2 b3 % F.M) w) := by
  have HK := Lib.hid hk
  have HF := Lib.hid hF
  have hL := hk.lt
  have hL1 : b < w.heap.size + 1 := by omega
  have hL2 : b < w.heap.size + 1 + 1 := by omega
  have HLB := Lib.hid lb
  clear lb
  clear hk hF
  go_enter Tryz.func168, Tryz.ntmps168
  go_wp2_with fail
  go_region_with (first | (go_at_call 142; refine (into_calls F HF.out b a0 a1 a2 a3 ha _ (HK.out.same (by repeat (first | exact Below.refl _ _ | refine Below.drew ?_ | refine Below.trans ?_ (below_drewN' _ _ _) | refine Below.alloc ?_ (by first | (simp; done) | (simp; omega)) _)))).mono ?_; rintro e ws ⟨s0, s1, s2, s3, rfl, hs, hv, hbl⟩; have HVs := Lib.hid hv; obtain ⟨hcs, hfs⟩ := bcell hbl; have hzs : w.heap.size + 1 + 1 < ws.heap.size := by { have := hbl.size; simp at this; omega }; have HBLs := Lib.hid hbl; clear hv hbl; have HKs := Lib.hid (KIs.same (F := F) (b := b) (HK.out.same (by repeat (first | exact Below.refl _ _ | refine Below.drew ?_ | refine Below.trans ?_ (below_drewN' _ _ _) | refine Below.alloc ?_ (by first | (simp; done) | (simp; omega)) _))) HBLs.out)) | (go_at_call 150; refine (times_calls F HF.out b s0 s1 s2 s3 b0 b1 b2 b3 hs hb HLB.out _ HKs.out).mono ?_; rintro e wp ⟨p0, p1, p2, p3, rfl, hp, hv, hbl⟩; have HVp := Lib.hid hv; obtain ⟨hcp, hfp⟩ := bcell hbl; have hzp : w.heap.size + 1 + 1 < wp.heap.size := by { have := hbl.size; omega }; have HBLp := Lib.hid (HBLs.out.trans (hbl.mono HBLs.out.size)); clear hv hbl))
  all_goals (
    go_wp2_with fail
    refine bodyPost_ret (v := .agg #[.int .u64 p0, .int .u64 p1, .int .u64 p2, .int .u64 p3]) (by simp [results, Tryz.results168, go_sem, *]) rfl ?_
    refine ⟨_, _, _, _, rfl, hp, HVp.out.trans (by rw [HVs.out]; exact kp_product HF.out _ _), ?_⟩
    refine below_set4 (Below.trans ?_ (HBLp.out.mono (by first | (simp; done) | (simp; omega)))) (by omega) _ _ _ _
    repeat (first | exact Below.refl _ _ | refine Below.drew ?_ | refine Below.trans ?_ (below_drewN' _ _ _) | refine Below.alloc ?_ (by first | (simp; done) | (simp; omega)) _)
  )
end Go.Proofs.YtgacpjmggdmgdaaGreat
