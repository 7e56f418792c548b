/-
  The two moduli are primes, with a root each: certificates, checked by the kernel. Conditions: none.
-/
import Derived.Test.YtgacpjmggdmgdaaPrime
import Derived.KernelRfl
namespace Go.Proofs.Ytgacpjmggdmgdaa
set_option linter.unusedVariables false
set_option maxRecDepth 100000

theorem prm_2 : Prm 2 := prm_small 2 1 (by decide) (by decide) (by kernel_rfl)
theorem prm_3 : Prm 3 := prm_small 3 1 (by decide) (by decide) (by kernel_rfl)
theorem prm_13 : Prm 13 := prm_small 13 3 (by decide) (by decide) (by kernel_rfl)
theorem prm_29 : Prm 29 := prm_small 29 5 (by decide) (by decide) (by kernel_rfl)
theorem prm_67 : Prm 67 := prm_small 67 8 (by decide) (by decide) (by kernel_rfl)
theorem prm_229 : Prm 229 := prm_small 229 15 (by decide) (by decide) (by kernel_rfl)
theorem prm_311 : Prm 311 := prm_small 311 17 (by decide) (by decide) (by kernel_rfl)
theorem prm_983 : Prm 983 := prm_small 983 31 (by decide) (by decide) (by kernel_rfl)
theorem prm_11003 : Prm 11003 := prm_small 11003 104 (by decide) (by decide) (by kernel_rfl)
theorem prm_11 : Prm 11 := prm_small 11 3 (by decide) (by decide) (by kernel_rfl)
theorem prm_3691 : Prm 3691 := prm_small 3691 60 (by decide) (by decide) (by kernel_rfl)
theorem prm_4999 : Prm 4999 := prm_small 4999 70 (by decide) (by decide) (by kernel_rfl)
theorem root_405928799 : Root 405928799 22 := by
  refine root_cert (l := [2, 11, 3691, 4999]) (by kernel_rfl) fun q hq => ?_
  simp only [List.mem_cons, List.not_mem_nil, or_false] at hq
  rcases hq with rfl | rfl | rfl | rfl
  · exact prm_2
  · exact prm_11
  · exact prm_3691
  · exact prm_4999
theorem prm_405928799 : Prm 405928799 := root_405928799.prm
theorem prm_5 : Prm 5 := prm_small 5 2 (by decide) (by decide) (by kernel_rfl)
theorem prm_7 : Prm 7 := prm_small 7 2 (by decide) (by decide) (by kernel_rfl)
theorem prm_19 : Prm 19 := prm_small 19 4 (by decide) (by decide) (by kernel_rfl)
theorem prm_37 : Prm 37 := prm_small 37 6 (by decide) (by decide) (by kernel_rfl)
theorem prm_233 : Prm 233 := prm_small 233 15 (by decide) (by decide) (by kernel_rfl)
theorem root_327599 : Root 327599 19 := by
  refine root_cert (l := [2, 19, 37, 233]) (by kernel_rfl) fun q hq => ?_
  simp only [List.mem_cons, List.not_mem_nil, or_false] at hq
  rcases hq with rfl | rfl | rfl | rfl
  · exact prm_2
  · exact prm_19
  · exact prm_37
  · exact prm_233
theorem prm_327599 : Prm 327599 := root_327599.prm
theorem root_11465965001 : Root 11465965001 3 := by
  refine root_cert (l := [2, 2, 2, 5, 5, 5, 5, 7, 327599]) (by kernel_rfl) fun q hq => ?_
  simp only [List.mem_cons, List.not_mem_nil, or_false] at hq
  rcases hq with rfl | rfl | rfl | rfl | rfl | rfl | rfl | rfl | rfl
  · exact prm_2
  · exact prm_2
  · exact prm_2
  · exact prm_5
  · exact prm_5
  · exact prm_5
  · exact prm_5
  · exact prm_7
  · exact prm_327599
theorem prm_11465965001 : Prm 11465965001 := root_11465965001.prm
theorem prm_271 : Prm 271 := prm_small 271 16 (by decide) (by decide) (by kernel_rfl)
theorem root_1853641 : Root 1853641 17 := by
  refine root_cert (l := [2, 2, 2, 3, 3, 5, 19, 271]) (by kernel_rfl) fun q hq => ?_
  simp only [List.mem_cons, List.not_mem_nil, or_false] at hq
  rcases hq with rfl | rfl | rfl | rfl | rfl | rfl | rfl | rfl
  · exact prm_2
  · exact prm_2
  · exact prm_2
  · exact prm_3
  · exact prm_3
  · exact prm_5
  · exact prm_19
  · exact prm_271
theorem prm_1853641 : Prm 1853641 := root_1853641.prm
theorem prm_17 : Prm 17 := prm_small 17 4 (by decide) (by decide) (by kernel_rfl)
theorem prm_109 : Prm 109 := prm_small 109 10 (by decide) (by decide) (by kernel_rfl)
theorem prm_1231 : Prm 1231 := prm_small 1231 35 (by decide) (by decide) (by kernel_rfl)
theorem root_4562087 : Root 4562087 5 := by
  refine root_cert (l := [2, 17, 109, 1231]) (by kernel_rfl) fun q hq => ?_
  simp only [List.mem_cons, List.not_mem_nil, or_false] at hq
  rcases hq with rfl | rfl | rfl | rfl
  · exact prm_2
  · exact prm_17
  · exact prm_109
  · exact prm_1231
theorem prm_4562087 : Prm 4562087 := root_4562087.prm
theorem prm_73 : Prm 73 := prm_small 73 8 (by decide) (by decide) (by kernel_rfl)
theorem prm_89 : Prm 89 := prm_small 89 9 (by decide) (by decide) (by kernel_rfl)
theorem prm_13327 : Prm 13327 := prm_small 13327 115 (by decide) (by decide) (by kernel_rfl)
theorem root_173171039 : Root 173171039 13 := by
  refine root_cert (l := [2, 73, 89, 13327]) (by kernel_rfl) fun q hq => ?_
  simp only [List.mem_cons, List.not_mem_nil, or_false] at hq
  rcases hq with rfl | rfl | rfl | rfl
  · exact prm_2
  · exact prm_73
  · exact prm_89
  · exact prm_13327
theorem prm_173171039 : Prm 173171039 := root_173171039.prm
theorem prm_41 : Prm 41 := prm_small 41 6 (by decide) (by decide) (by kernel_rfl)
theorem prm_911 : Prm 911 := prm_small 911 30 (by decide) (by decide) (by kernel_rfl)
theorem prm_3557 : Prm 3557 := prm_small 3557 59 (by decide) (by decide) (by kernel_rfl)
theorem root_1263766531 : Root 1263766531 10 := by
  refine root_cert (l := [2, 3, 5, 13, 911, 3557]) (by kernel_rfl) fun q hq => ?_
  simp only [List.mem_cons, List.not_mem_nil, or_false] at hq
  rcases hq with rfl | rfl | rfl | rfl | rfl | rfl
  · exact prm_2
  · exact prm_3
  · exact prm_5
  · exact prm_13
  · exact prm_911
  · exact prm_3557
theorem prm_1263766531 : Prm 1263766531 := root_1263766531.prm
theorem root_35385462869 : Root 35385462869 2 := by
  refine root_cert (l := [2, 2, 7, 1263766531]) (by kernel_rfl) fun q hq => ?_
  simp only [List.mem_cons, List.not_mem_nil, or_false] at hq
  rcases hq with rfl | rfl | rfl | rfl
  · exact prm_2
  · exact prm_2
  · exact prm_7
  · exact prm_1263766531
theorem prm_35385462869 : Prm 35385462869 := root_35385462869.prm
theorem root_2480874801745591 : Root 2480874801745591 6 := by
  refine root_cert (l := [2, 3, 3, 5, 19, 41, 35385462869]) (by kernel_rfl) fun q hq => ?_
  simp only [List.mem_cons, List.not_mem_nil, or_false] at hq
  rcases hq with rfl | rfl | rfl | rfl | rfl | rfl | rfl
  · exact prm_2
  · exact prm_3
  · exact prm_3
  · exact prm_5
  · exact prm_19
  · exact prm_41
  · exact prm_35385462869
theorem prm_2480874801745591 : Prm 2480874801745591 := root_2480874801745591.prm
theorem root_13427688667394608761327070753331941386769 : Root 13427688667394608761327070753331941386769 17 := by
  refine root_cert (l := [2, 2, 2, 2, 3, 7, 11, 1853641, 4562087, 173171039, 2480874801745591]) (by kernel_rfl) fun q hq => ?_
  simp only [List.mem_cons, List.not_mem_nil, or_false] at hq
  rcases hq with rfl | rfl | rfl | rfl | rfl | rfl | rfl | rfl | rfl | rfl | rfl
  · exact prm_2
  · exact prm_2
  · exact prm_2
  · exact prm_2
  · exact prm_3
  · exact prm_7
  · exact prm_11
  · exact prm_1853641
  · exact prm_4562087
  · exact prm_173171039
  · exact prm_2480874801745591
theorem prm_13427688667394608761327070753331941386769 : Prm 13427688667394608761327070753331941386769 := root_13427688667394608761327070753331941386769.prm
theorem root_P : Root 21888242871839275222246405745257275088696311157297823662689037894645226208583 3 := by
  refine root_cert (l := [2, 3, 3, 13, 29, 67, 229, 311, 983, 11003, 405928799, 11465965001, 13427688667394608761327070753331941386769]) (by kernel_rfl) fun q hq => ?_
  simp only [List.mem_cons, List.not_mem_nil, or_false] at hq
  rcases hq with rfl | rfl | rfl | rfl | rfl | rfl | rfl | rfl | rfl | rfl | rfl | rfl | rfl
  · exact prm_2
  · exact prm_3
  · exact prm_3
  · exact prm_13
  · exact prm_29
  · exact prm_67
  · exact prm_229
  · exact prm_311
  · exact prm_983
  · exact prm_11003
  · exact prm_405928799
  · exact prm_11465965001
  · exact prm_13427688667394608761327070753331941386769
theorem prm_P : Prm 21888242871839275222246405745257275088696311157297823662689037894645226208583 := root_P.prm
theorem prm_449 : Prm 449 := prm_small 449 21 (by decide) (by decide) (by kernel_rfl)
theorem root_237073 : Root 237073 15 := by
  refine root_cert (l := [2, 2, 2, 2, 3, 11, 449]) (by kernel_rfl) fun q hq => ?_
  simp only [List.mem_cons, List.not_mem_nil, or_false] at hq
  rcases hq with rfl | rfl | rfl | rfl | rfl | rfl | rfl
  · exact prm_2
  · exact prm_2
  · exact prm_2
  · exact prm_2
  · exact prm_3
  · exact prm_11
  · exact prm_449
theorem prm_237073 : Prm 237073 := root_237073.prm
theorem prm_107 : Prm 107 := prm_small 107 10 (by decide) (by decide) (by kernel_rfl)
theorem prm_661 : Prm 661 := prm_small 661 25 (by decide) (by decide) (by kernel_rfl)
theorem prm_93001 : Prm 93001 := prm_small 93001 304 (by decide) (by decide) (by kernel_rfl)
theorem root_12048837557 : Root 12048837557 2 := by
  refine root_cert (l := [2, 2, 7, 7, 661, 93001]) (by kernel_rfl) fun q hq => ?_
  simp only [List.mem_cons, List.not_mem_nil, or_false] at hq
  rcases hq with rfl | rfl | rfl | rfl | rfl | rfl
  · exact prm_2
  · exact prm_2
  · exact prm_7
  · exact prm_7
  · exact prm_661
  · exact prm_93001
theorem prm_12048837557 : Prm 12048837557 := root_12048837557.prm
theorem root_5156902474397 : Root 5156902474397 2 := by
  refine root_cert (l := [2, 2, 107, 12048837557]) (by kernel_rfl) fun q hq => ?_
  simp only [List.mem_cons, List.not_mem_nil, or_false] at hq
  rcases hq with rfl | rfl | rfl | rfl
  · exact prm_2
  · exact prm_2
  · exact prm_107
  · exact prm_12048837557
theorem prm_5156902474397 : Prm 5156902474397 := root_5156902474397.prm
theorem root_1670836401704629 : Root 1670836401704629 2 := by
  refine root_cert (l := [2, 2, 3, 3, 3, 3, 5156902474397]) (by kernel_rfl) fun q hq => ?_
  simp only [List.mem_cons, List.not_mem_nil, or_false] at hq
  rcases hq with rfl | rfl | rfl | rfl | rfl | rfl | rfl
  · exact prm_2
  · exact prm_2
  · exact prm_3
  · exact prm_3
  · exact prm_3
  · exact prm_3
  · exact prm_5156902474397
theorem prm_1670836401704629 : Prm 1670836401704629 := root_1670836401704629.prm
theorem prm_823 : Prm 823 := prm_small 823 28 (by decide) (by decide) (by kernel_rfl)
theorem prm_41927 : Prm 41927 := prm_small 41927 204 (by decide) (by decide) (by kernel_rfl)
theorem root_1593227 : Root 1593227 2 := by
  refine root_cert (l := [2, 19, 41927]) (by kernel_rfl) fun q hq => ?_
  simp only [List.mem_cons, List.not_mem_nil, or_false] at hq
  rcases hq with rfl | rfl | rfl
  · exact prm_2
  · exact prm_19
  · exact prm_41927
theorem prm_1593227 : Prm 1593227 := root_1593227.prm
theorem prm_83 : Prm 83 := prm_small 83 9 (by decide) (by decide) (by kernel_rfl)
theorem prm_379 : Prm 379 := prm_small 379 19 (by decide) (by decide) (by kernel_rfl)
theorem prm_1637 : Prm 1637 := prm_small 1637 40 (by decide) (by decide) (by kernel_rfl)
theorem prm_853 : Prm 853 := prm_small 853 29 (by decide) (by decide) (by kernel_rfl)
theorem root_639533339 : Root 639533339 2 := by
  refine root_cert (l := [2, 229, 853, 1637]) (by kernel_rfl) fun q hq => ?_
  simp only [List.mem_cons, List.not_mem_nil, or_false] at hq
  rcases hq with rfl | rfl | rfl | rfl
  · exact prm_2
  · exact prm_229
  · exact prm_853
  · exact prm_1637
theorem prm_639533339 : Prm 639533339 := root_639533339.prm
theorem root_65865678001877903 : Root 65865678001877903 5 := by
  refine root_cert (l := [2, 83, 379, 1637, 639533339]) (by kernel_rfl) fun q hq => ?_
  simp only [List.mem_cons, List.not_mem_nil, or_false] at hq
  rcases hq with rfl | rfl | rfl | rfl | rfl
  · exact prm_2
  · exact prm_83
  · exact prm_379
  · exact prm_1637
  · exact prm_639533339
theorem prm_65865678001877903 : Prm 65865678001877903 := root_65865678001877903.prm
theorem root_13818364434197438864469338081 : Root 13818364434197438864469338081 3 := by
  refine root_cert (l := [2, 2, 2, 2, 2, 5, 823, 1593227, 65865678001877903]) (by kernel_rfl) fun q hq => ?_
  simp only [List.mem_cons, List.not_mem_nil, or_false] at hq
  rcases hq with rfl | rfl | rfl | rfl | rfl | rfl | rfl | rfl | rfl
  · exact prm_2
  · exact prm_2
  · exact prm_2
  · exact prm_2
  · exact prm_2
  · exact prm_5
  · exact prm_823
  · exact prm_1593227
  · exact prm_65865678001877903
theorem prm_13818364434197438864469338081 : Prm 13818364434197438864469338081 := root_13818364434197438864469338081.prm
theorem root_R : Root 21888242871839275222246405745257275088548364400416034343698204186575808495617 5 := by
  refine root_cert (l := [2, 2, 2, 2, 2, 2, 2, 2, 2, 2, 2, 2, 2, 2, 2, 2, 2, 2, 2, 2, 2, 2, 2, 2, 2, 2, 2, 2, 3, 3, 13, 29, 983, 11003, 237073, 405928799, 1670836401704629, 13818364434197438864469338081]) (by kernel_rfl) fun q hq => ?_
  simp only [List.mem_cons, List.not_mem_nil, or_false] at hq
  rcases hq with rfl | rfl | rfl | rfl | rfl | rfl | rfl | rfl | rfl | rfl | rfl | rfl | rfl | rfl | rfl | rfl | rfl | rfl | rfl | rfl | rfl | rfl | rfl | rfl | rfl | rfl | rfl | rfl | rfl | rfl | rfl | rfl | rfl | rfl | rfl | rfl | rfl | rfl
  · exact prm_2
  · exact prm_2
  · exact prm_2
  · exact prm_2
  · exact prm_2
  · exact prm_2
  · exact prm_2
  · exact prm_2
  · exact prm_2
  · exact prm_2
  · exact prm_2
  · exact prm_2
  · exact prm_2
  · exact prm_2
  · exact prm_2
  · exact prm_2
  · exact prm_2
  · exact prm_2
  · exact prm_2
  · exact prm_2
  · exact prm_2
  · exact prm_2
  · exact prm_2
  · exact prm_2
  · exact prm_2
  · exact prm_2
  · exact prm_2
  · exact prm_2
  · exact prm_3
  · exact prm_3
  · exact prm_13
  · exact prm_29
  · exact prm_983
  · exact prm_11003
  · exact prm_237073
  · exact prm_405928799
  · exact prm_1670836401704629
  · exact prm_13818364434197438864469338081
theorem prm_R : Prm 21888242871839275222246405745257275088548364400416034343698204186575808495617 := root_R.prm
end Go.Proofs.Ytgacpjmggdmgdaa
