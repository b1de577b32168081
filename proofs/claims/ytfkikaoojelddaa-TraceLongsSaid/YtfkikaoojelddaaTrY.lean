/- Stage 13: known, its second part. (By gen_trw.py.) -/
import Derived.Test.YtfkikaoojelddaaTrX
namespace Go.Proofs.Ytfkikaoojelddaa
open Go.ChangeShapes Go.WideShapes Go.ChangeAt Go.RowKit
set_option linter.unusedVariables false
set_option linter.unusedSimpArgs false
set_option maxRecDepth 100000 in
set_option maxHeartbeats 6400000 in
/-- What known asks from its second part on. -/
theorem kn8 {w X : World} {gz : Nat} (hK0 : Kn w X (w.heap.size) (w.heap.size + 1) (w.heap.size + 1 + 1) (w.heap.size + 1 + 1 + 1)) (hz : Li .u64 X (some ⟨gz, 0, none⟩) 6 6 gz 0 [0, 0, 0, 0, 0, 0]) (v6 v7 v8 v9 v10 v11 v12 v13 v14 v15 v16 v17 v18 v19 v20 v21 v22 v23 v24 v25 v26 v27 v28 v29 v30 v31 v32 v33 v34 v35 v36 v37 v38 v39 v40 v41 v42 v43 v44 v45 v46 v47 v48 v49 v50 v51 v52 v53 v54 v55 v56 v57 v58 v59 v60 v61 v62 v63 v64 v65 v66 v67 v68 v69 v70 v71 v72 v73 v74 v75 v76 v77 v78 v79 v80 v81 v82 v83 v84 v85 v86 v87 v88 v89 v90 v91 v92 v93 v94 v95 v96 v97 v98 v99 v100 v101 v102 v103 v104 v105 v106 v107 v108 v109 v110 v111 v112 v113 v114 v115 v116 v117 v118 v119 v120 v121 v122 v123 v124 v125 v126 v127 v128 v129 v130 v131 v132 v133 v134 v135 v136 v137 v138 v139 v140 v141 v142 v143 v144 v145 v146 v147 v148 v149 v150 v151 v152 v153 v154 v155 : Value) :
    Code.wp Try.prog (pieceK 8) (bodyPost Try.prog Try.f8 (Ret (.bool true) (fun w' => Frm [] w w'))) ⟨List.toArray (.bool false :: .pointer (some ⟨w.heap.size, 0, none⟩) :: .pointer (some ⟨w.heap.size + 1, 0, none⟩) :: .pointer (some ⟨w.heap.size + 1 + 1, 0, none⟩) :: .pointer (some ⟨w.heap.size + 1 + 1 + 1, 0, none⟩) :: .slice (some ⟨gz, 0, none⟩) 6 6 :: v6 :: v7 :: v8 :: v9 :: v10 :: v11 :: v12 :: v13 :: v14 :: v15 :: v16 :: v17 :: v18 :: v19 :: v20 :: v21 :: v22 :: v23 :: v24 :: v25 :: v26 :: v27 :: v28 :: v29 :: v30 :: v31 :: v32 :: v33 :: v34 :: v35 :: v36 :: v37 :: v38 :: v39 :: v40 :: v41 :: v42 :: v43 :: v44 :: v45 :: v46 :: v47 :: v48 :: v49 :: v50 :: v51 :: v52 :: v53 :: v54 :: v55 :: v56 :: v57 :: v58 :: v59 :: v60 :: v61 :: v62 :: v63 :: v64 :: v65 :: v66 :: v67 :: v68 :: v69 :: v70 :: v71 :: v72 :: v73 :: v74 :: v75 :: v76 :: v77 :: v78 :: v79 :: v80 :: v81 :: v82 :: v83 :: v84 :: v85 :: v86 :: v87 :: v88 :: v89 :: v90 :: v91 :: v92 :: v93 :: v94 :: v95 :: v96 :: v97 :: v98 :: v99 :: v100 :: v101 :: v102 :: v103 :: v104 :: v105 :: v106 :: v107 :: v108 :: v109 :: v110 :: v111 :: v112 :: v113 :: v114 :: v115 :: v116 :: v117 :: v118 :: v119 :: v120 :: v121 :: v122 :: v123 :: v124 :: v125 :: v126 :: v127 :: v128 :: v129 :: v130 :: v131 :: v132 :: v133 :: v134 :: v135 :: v136 :: v137 :: v138 :: v139 :: v140 :: v141 :: v142 :: v143 :: v144 :: v145 :: v146 :: v147 :: v148 :: v149 :: v150 :: v151 :: v152 :: v153 :: v154 :: v155 :: []), []⟩ X := by
  have HK := Lib.hid hK0
  clear hK0
  have HZ := Lib.hid hz
  have HZ5 := Lib.hid (show Li .u64 X (some ⟨gz, 0, none⟩) 5 6 gz 0 [0, 0, 0, 0, 0] from li_take hz (by decide))
  clear hz
  conv => arg 2; whnf
  try dsimp only
  refine wp_seq_k ?_
  intro K8 hK8
  have HK8 := Lib.hid hK8
  clear hK8
  go_wp2_with fail
  refine wp_region_noPanic ?_
  refine wp_region_held_drew (S := fun w' => Frm [] X w') (by kernel_rfl) ((Frm.refl _ _).drew) (fun hHeld => ?_)
  refine wpAnyH_via 25 #[true, true, true, true, true, true, true, true, true, false, false, false, false, false, false, false, false, false, false, false, false, false, false, false, false, false, false, false, false, false, false, false, false, false] (fun a' w' => ∃ (u54 u55 u56 u57 u58 u59 u60 u61 : Value), a' = ⟨List.toArray (.bool false :: .pointer (some ⟨w.heap.size, 0, none⟩) :: .pointer (some ⟨w.heap.size + 1, 0, none⟩) :: .pointer (some ⟨w.heap.size + 1 + 1, 0, none⟩) :: .pointer (some ⟨w.heap.size + 1 + 1 + 1, 0, none⟩) :: .slice (some ⟨gz, 0, none⟩) 6 6 :: v6 :: v7 :: v8 :: v9 :: v10 :: v11 :: v12 :: v13 :: v14 :: v15 :: v16 :: v17 :: v18 :: v19 :: v20 :: v21 :: v22 :: v23 :: v24 :: v25 :: v26 :: v27 :: v28 :: v29 :: v30 :: v31 :: v32 :: v33 :: v34 :: v35 :: v36 :: v37 :: v38 :: v39 :: v40 :: v41 :: v42 :: v43 :: v44 :: v45 :: v46 :: v47 :: v48 :: v49 :: v50 :: v51 :: v52 :: v53 :: u54 :: u55 :: u56 :: u57 :: u58 :: u59 :: u60 :: u61 :: .bool false :: v63 :: v64 :: v65 :: v66 :: v67 :: v68 :: v69 :: v70 :: v71 :: v72 :: v73 :: v74 :: v75 :: v76 :: v77 :: v78 :: v79 :: v80 :: v81 :: v82 :: v83 :: v84 :: v85 :: v86 :: v87 :: v88 :: v89 :: v90 :: v91 :: v92 :: v93 :: v94 :: v95 :: v96 :: v97 :: v98 :: v99 :: v100 :: v101 :: v102 :: v103 :: v104 :: v105 :: v106 :: v107 :: v108 :: v109 :: v110 :: v111 :: v112 :: v113 :: v114 :: v115 :: v116 :: v117 :: v118 :: v119 :: v120 :: v121 :: v122 :: v123 :: v124 :: v125 :: v126 :: v127 :: v128 :: v129 :: v130 :: v131 :: v132 :: v133 :: v134 :: v135 :: v136 :: v137 :: v138 :: v139 :: v140 :: v141 :: v142 :: v143 :: v144 :: v145 :: v146 :: v147 :: v148 :: v149 :: v150 :: v151 :: v152 :: v153 :: v154 :: v155 :: []), []⟩ ∧ Frm [] X w') ?_ (fun hGo => ?_)
  rotate_left
  · refine take_in (i := 0) (d := 54) (v := .slice (some ⟨gz, 0, none⟩) 6 6) rfl rfl (by kernel_rfl) (by kernel_rfl) (by kernel_rfl) (fun _ _ _ h => h) (by kernel_rfl) (fun _ _ => rfl) (by assumption) ?_
    try simp only [Act.put, List.setIfInBounds_toArray, List.set_cons_zero, List.set_cons_succ]
    refine take_in (i := 1) (d := 55) (v := .agg #[.int .i64 1, .int .i64 1, .int .i64 5, .int .u64 0, .int .u64 0, .bool true, .bool false]) rfl rfl (by kernel_rfl) (by kernel_rfl) (by kernel_rfl) (fun _ _ _ h => h) (by kernel_rfl) (fun w' hS => by obtain ⟨x0, x1, x2, x3, x4, x5, x6⟩ := cells7 (HK.out.frm0 hS).b; go_simp) (by assumption) ?_
    try simp only [Act.put, List.setIfInBounds_toArray, List.set_cons_zero, List.set_cons_succ]
    refine take_in (i := 2) (d := 56) (v := .agg #[.int .i64 0, .int .i64 2, .int .i64 5, .int .u64 0, .int .u64 1, .bool false, .bool false]) rfl rfl (by kernel_rfl) (by kernel_rfl) (by kernel_rfl) (fun _ _ _ h => h) (by kernel_rfl) (fun w' hS => by obtain ⟨x0, x1, x2, x3, x4, x5, x6⟩ := cells7 (HK.out.frm0 hS).a; go_simp) (by assumption) ?_
    try simp only [Act.put, List.setIfInBounds_toArray, List.set_cons_zero, List.set_cons_succ]
    refine take_in (i := 3) (d := 57) (v := .agg #[.int .i64 1, .int .i64 1, .int .i64 5, .int .u64 1, .int .u64 1, .bool false, .bool false]) rfl rfl (by kernel_rfl) (by kernel_rfl) (by kernel_rfl) (fun _ _ _ h => h) (by kernel_rfl) (fun w' hS => by obtain ⟨x0, x1, x2, x3, x4, x5, x6⟩ := cells7 (HK.out.frm0 hS).c; go_simp) (by assumption) ?_
    try simp only [Act.put, List.setIfInBounds_toArray, List.set_cons_zero, List.set_cons_succ]
    refine wpAnyH_ready (rs := [4]) (by kernel_rfl) (by simp) ?_
    refine AllReadyH.cons rfl (fun K hK => ?_) AllReadyH.nil
    go_simp
    obtain ⟨U1, hU1⟩ : ∃ U1, U1 = X.drew.alloc (.cells #[.int .i64 1, .int .i64 1, .int .i64 5, .int .u64 0, .int .u64 0, .bool true, .bool false, .int .i64 0, .int .i64 2, .int .i64 5, .int .u64 0, .int .u64 1, .bool false, .bool false, .int .i64 1, .int .i64 1, .int .i64 5, .int .u64 1, .int .u64 1, .bool false, .bool false] 40) := ⟨_, rfl⟩
    have f1 : Frm [] X.drew U1 := by rw [hU1]; exact (Frm.refl [] _).alloc _
    have dl1 : DL U1 (some ⟨X.heap.size, 0, none⟩) 3 3 X.heap.size 0 [kdB, kdA, kdC] := by rw [hU1]; exact dl_new rfl (heap_alloc_new _ _)
    have fr1 : Frm [] X U1 := ((Frm.refl [] X).drew).trans f1
    first | rw [← hU1] | (change K _ (X.drew.alloc (.cells #[.int .i64 1, .int .i64 1, .int .i64 5, .int .u64 0, .int .u64 0, .bool true, .bool false, .int .i64 0, .int .i64 2, .int .i64 5, .int .u64 0, .int .u64 1, .bool false, .bool false, .int .i64 1, .int .i64 1, .int .i64 5, .int .u64 1, .int .u64 1, .bool false, .bool false] 40)); rw [← hU1])
    clear hU1
    refine hK.out _ _ (by exact fr1) (fun hHeld => ?_)
    clear hK K
    try change wpAnyH _ _ _ _ _ _ _ (Act.put _ (some 58) _) _
    try simp only [Act.put, List.setIfInBounds_toArray, List.set_cons_zero, List.set_cons_succ]
    refine wpAnyH_ready (rs := [5]) (by kernel_rfl) (by simp) ?_
    refine AllReadyH.cons rfl (fun K hK => ?_) AllReadyH.nil
    go_simp
    go_at_call 33
    refine (list_any _ _ _ _).mono ?_
    rintro e1 x1 ⟨rfl, rfl⟩
    refine hK.out _ _ (by exact fr1) (fun hHeld => ?_)
    clear hK K
    try change wpAnyH _ _ _ _ _ _ _ (Act.put _ (some 59) _) _
    try simp only [Act.put, List.setIfInBounds_toArray, List.set_cons_zero, List.set_cons_succ]
    refine wpAnyH_ready (rs := [6]) (by kernel_rfl) (by simp) ?_
    refine AllReadyH.cons rfl (fun K hK => ?_) AllReadyH.nil
    go_simp
    go_at_call 14
    refine (lchecks_any (HZ.out.frm0 fr1) dl1 (x := -1) (e0 := 0) (by kernel_rfl) (by kernel_rfl)).mono ?_
    rintro e2 U2 ⟨rfl, f2⟩
    have fr2 : Frm [] X U2 := fr1.trans f2
    refine hK.out _ _ (by exact fr2) (fun hHeld => ?_)
    clear hK K
    try change wpAnyH _ _ _ _ _ _ _ (Act.put _ (some 60) _) _
    try simp only [Act.put, List.setIfInBounds_toArray, List.set_cons_zero, List.set_cons_succ]
    refine take_in (i := 7) (d := 61) (v := .bool false) rfl rfl (by kernel_rfl) (by kernel_rfl) (by kernel_rfl) (fun _ _ _ h => h) (by kernel_rfl) (fun _ _ => rfl) (by assumption) ?_
    try simp only [Act.put, List.setIfInBounds_toArray, List.set_cons_zero, List.set_cons_succ]
    refine take_in (i := 8) (d := 62) (v := .bool false) rfl rfl (by kernel_rfl) (by kernel_rfl) (by kernel_rfl) (fun _ _ _ h => h) (by kernel_rfl) (fun _ _ => rfl) (by assumption) ?_
    try simp only [Act.put, List.setIfInBounds_toArray, List.set_cons_zero, List.set_cons_succ]
    exact wpAnyH_cast #[true, true, true, true, true, true, true, true, true, false, false, false, false, false, false, false, false, false, false, false, false, false, false, false, false, false, false, false, false, false, false, false, false, false] (by kernel_rfl) (hGo.out _ _ ⟨_, _, _, _, _, _, _, _, rfl, fr2⟩)
  rintro _ U0g ⟨u54, u55, u56, u57, u58, u59, u60, u61, rfl, frU0g⟩
  refine wpAnyH_via 17 #[true, true, true, true, true, true, true, true, true, true, true, true, true, true, true, true, true, false, false, false, false, false, false, false, false, false, false, false, false, false, false, false, false, false] (fun a' w' => ∃ (u63 u64 u65 u66 u67 u68 u69 : Value), a' = ⟨List.toArray (.bool false :: .pointer (some ⟨w.heap.size, 0, none⟩) :: .pointer (some ⟨w.heap.size + 1, 0, none⟩) :: .pointer (some ⟨w.heap.size + 1 + 1, 0, none⟩) :: .pointer (some ⟨w.heap.size + 1 + 1 + 1, 0, none⟩) :: .slice (some ⟨gz, 0, none⟩) 6 6 :: v6 :: v7 :: v8 :: v9 :: v10 :: v11 :: v12 :: v13 :: v14 :: v15 :: v16 :: v17 :: v18 :: v19 :: v20 :: v21 :: v22 :: v23 :: v24 :: v25 :: v26 :: v27 :: v28 :: v29 :: v30 :: v31 :: v32 :: v33 :: v34 :: v35 :: v36 :: v37 :: v38 :: v39 :: v40 :: v41 :: v42 :: v43 :: v44 :: v45 :: v46 :: v47 :: v48 :: v49 :: v50 :: v51 :: v52 :: v53 :: u54 :: u55 :: u56 :: u57 :: u58 :: u59 :: u60 :: u61 :: .bool false :: u63 :: u64 :: u65 :: u66 :: u67 :: u68 :: u69 :: .bool false :: v71 :: v72 :: v73 :: v74 :: v75 :: v76 :: v77 :: v78 :: v79 :: v80 :: v81 :: v82 :: v83 :: v84 :: v85 :: v86 :: v87 :: v88 :: v89 :: v90 :: v91 :: v92 :: v93 :: v94 :: v95 :: v96 :: v97 :: v98 :: v99 :: v100 :: v101 :: v102 :: v103 :: v104 :: v105 :: v106 :: v107 :: v108 :: v109 :: v110 :: v111 :: v112 :: v113 :: v114 :: v115 :: v116 :: v117 :: v118 :: v119 :: v120 :: v121 :: v122 :: v123 :: v124 :: v125 :: v126 :: v127 :: v128 :: v129 :: v130 :: v131 :: v132 :: v133 :: v134 :: v135 :: v136 :: v137 :: v138 :: v139 :: v140 :: v141 :: v142 :: v143 :: v144 :: v145 :: v146 :: v147 :: v148 :: v149 :: v150 :: v151 :: v152 :: v153 :: v154 :: v155 :: []), []⟩ ∧ Frm [] X w') ?_ (fun hGo => ?_)
  rotate_left
  · refine take_in (i := 9) (d := 63) (v := .slice (some ⟨gz, 0, none⟩) 6 6) rfl rfl (by kernel_rfl) (by kernel_rfl) (by kernel_rfl) (fun _ _ _ h => h) (by kernel_rfl) (fun _ _ => rfl) (by assumption) ?_
    try simp only [Act.put, List.setIfInBounds_toArray, List.set_cons_zero, List.set_cons_succ]
    refine take_in (i := 10) (d := 64) (v := .agg #[.int .i64 1, .int .i64 1, .int .i64 5, .int .u64 1, .int .u64 1, .bool false, .bool false]) rfl rfl (by kernel_rfl) (by kernel_rfl) (by kernel_rfl) (fun _ _ _ h => h) (by kernel_rfl) (fun w' hS => by obtain ⟨x0, x1, x2, x3, x4, x5, x6⟩ := cells7 (HK.out.frm0 hS).c; go_simp) (by assumption) ?_
    try simp only [Act.put, List.setIfInBounds_toArray, List.set_cons_zero, List.set_cons_succ]
    refine wpAnyH_ready (rs := [11]) (by kernel_rfl) (by simp) ?_
    refine AllReadyH.cons rfl (fun K hK => ?_) AllReadyH.nil
    go_simp
    obtain ⟨U11, hU11⟩ : ∃ U11, U11 = U0g.alloc (.cells #[.int .i64 1, .int .i64 1, .int .i64 5, .int .u64 1, .int .u64 1, .bool false, .bool false] 40) := ⟨_, rfl⟩
    have f11 : Frm [] U0g U11 := by rw [hU11]; exact (Frm.refl [] _).alloc _
    have dl11 : DL U11 (some ⟨U0g.heap.size, 0, none⟩) 1 1 U0g.heap.size 0 [kdC] := by rw [hU11]; exact dl_new rfl (heap_alloc_new _ _)
    have fr11 : Frm [] X U11 := frU0g.trans f11
    first | rw [← hU11] | (change K _ (U0g.alloc (.cells #[.int .i64 1, .int .i64 1, .int .i64 5, .int .u64 1, .int .u64 1, .bool false, .bool false] 40)); rw [← hU11])
    clear hU11
    refine hK.out _ _ (by exact fr11) (fun hHeld => ?_)
    clear hK K
    try change wpAnyH _ _ _ _ _ _ _ (Act.put _ (some 65) _) _
    try simp only [Act.put, List.setIfInBounds_toArray, List.set_cons_zero, List.set_cons_succ]
    refine wpAnyH_ready (rs := [12]) (by kernel_rfl) (by simp) ?_
    refine AllReadyH.cons rfl (fun K hK => ?_) AllReadyH.nil
    go_simp
    go_at_call 33
    refine (list_any _ _ _ _).mono ?_
    rintro e1 x1 ⟨rfl, rfl⟩
    refine hK.out _ _ (by exact fr11) (fun hHeld => ?_)
    clear hK K
    try change wpAnyH _ _ _ _ _ _ _ (Act.put _ (some 66) _) _
    try simp only [Act.put, List.setIfInBounds_toArray, List.set_cons_zero, List.set_cons_succ]
    refine wpAnyH_ready (rs := [13]) (by kernel_rfl) (by simp) ?_
    refine AllReadyH.cons rfl (fun K hK => ?_) AllReadyH.nil
    go_simp
    go_at_call 14
    refine (lchecks_any (HZ.out.frm0 fr11) dl11 (x := 0) (e0 := 0) (by kernel_rfl) (by kernel_rfl)).mono ?_
    rintro e12 U12 ⟨rfl, f12⟩
    have fr12 : Frm [] X U12 := fr11.trans f12
    refine hK.out _ _ (by exact fr12) (fun hHeld => ?_)
    clear hK K
    try change wpAnyH _ _ _ _ _ _ _ (Act.put _ (some 67) _) _
    try simp only [Act.put, List.setIfInBounds_toArray, List.set_cons_zero, List.set_cons_succ]
    refine take_in (i := 14) (d := 68) (v := .bool false) rfl rfl (by kernel_rfl) (by kernel_rfl) (by kernel_rfl) (fun _ _ _ h => h) (by kernel_rfl) (fun _ _ => rfl) (by assumption) ?_
    try simp only [Act.put, List.setIfInBounds_toArray, List.set_cons_zero, List.set_cons_succ]
    refine take_in (i := 15) (d := 69) (v := .bool false) rfl rfl (by kernel_rfl) (by kernel_rfl) (by kernel_rfl) (fun _ _ _ h => h) (by kernel_rfl) (fun _ _ => rfl) (by assumption) ?_
    try simp only [Act.put, List.setIfInBounds_toArray, List.set_cons_zero, List.set_cons_succ]
    refine take_in (i := 16) (d := 70) (v := .bool false) rfl rfl (by kernel_rfl) (by kernel_rfl) (by kernel_rfl) (fun _ _ _ h => h) (by kernel_rfl) (fun _ _ => rfl) (by assumption) ?_
    try simp only [Act.put, List.setIfInBounds_toArray, List.set_cons_zero, List.set_cons_succ]
    exact wpAnyH_cast #[true, true, true, true, true, true, true, true, true, true, true, true, true, true, true, true, true, false, false, false, false, false, false, false, false, false, false, false, false, false, false, false, false, false] (by kernel_rfl) (hGo.out _ _ ⟨_, _, _, _, _, _, _, rfl, fr12⟩)
  rintro _ U1g ⟨u63, u64, u65, u66, u67, u68, u69, rfl, frU1g⟩
  refine wpAnyH_via 8 #[true, true, true, true, true, true, true, true, true, true, true, true, true, true, true, true, true, true, true, true, true, true, true, true, true, true, false, false, false, false, false, false, false, false] (fun a' w' => ∃ (u71 u72 u73 u74 u75 u76 u77 u78 : Value), a' = ⟨List.toArray (.bool false :: .pointer (some ⟨w.heap.size, 0, none⟩) :: .pointer (some ⟨w.heap.size + 1, 0, none⟩) :: .pointer (some ⟨w.heap.size + 1 + 1, 0, none⟩) :: .pointer (some ⟨w.heap.size + 1 + 1 + 1, 0, none⟩) :: .slice (some ⟨gz, 0, none⟩) 6 6 :: v6 :: v7 :: v8 :: v9 :: v10 :: v11 :: v12 :: v13 :: v14 :: v15 :: v16 :: v17 :: v18 :: v19 :: v20 :: v21 :: v22 :: v23 :: v24 :: v25 :: v26 :: v27 :: v28 :: v29 :: v30 :: v31 :: v32 :: v33 :: v34 :: v35 :: v36 :: v37 :: v38 :: v39 :: v40 :: v41 :: v42 :: v43 :: v44 :: v45 :: v46 :: v47 :: v48 :: v49 :: v50 :: v51 :: v52 :: v53 :: u54 :: u55 :: u56 :: u57 :: u58 :: u59 :: u60 :: u61 :: .bool false :: u63 :: u64 :: u65 :: u66 :: u67 :: u68 :: u69 :: .bool false :: u71 :: u72 :: u73 :: u74 :: u75 :: u76 :: u77 :: u78 :: .bool false :: v80 :: v81 :: v82 :: v83 :: v84 :: v85 :: v86 :: v87 :: v88 :: v89 :: v90 :: v91 :: v92 :: v93 :: v94 :: v95 :: v96 :: v97 :: v98 :: v99 :: v100 :: v101 :: v102 :: v103 :: v104 :: v105 :: v106 :: v107 :: v108 :: v109 :: v110 :: v111 :: v112 :: v113 :: v114 :: v115 :: v116 :: v117 :: v118 :: v119 :: v120 :: v121 :: v122 :: v123 :: v124 :: v125 :: v126 :: v127 :: v128 :: v129 :: v130 :: v131 :: v132 :: v133 :: v134 :: v135 :: v136 :: v137 :: v138 :: v139 :: v140 :: v141 :: v142 :: v143 :: v144 :: v145 :: v146 :: v147 :: v148 :: v149 :: v150 :: v151 :: v152 :: v153 :: v154 :: v155 :: []), []⟩ ∧ Frm [] X w') ?_ (fun hGo => ?_)
  rotate_left
  · refine take_in (i := 17) (d := 71) (v := .slice (some ⟨gz, 0, none⟩) 6 6) rfl rfl (by kernel_rfl) (by kernel_rfl) (by kernel_rfl) (fun _ _ _ h => h) (by kernel_rfl) (fun _ _ => rfl) (by assumption) ?_
    try simp only [Act.put, List.setIfInBounds_toArray, List.set_cons_zero, List.set_cons_succ]
    refine take_in (i := 18) (d := 72) (v := .slice (some ⟨gz, 0, none⟩) 5 6) rfl rfl (by kernel_rfl) (by kernel_rfl) (by kernel_rfl) (fun _ _ _ h => h) (by kernel_rfl) (fun w' hS => by go_simp) (by assumption) ?_
    try simp only [Act.put, List.setIfInBounds_toArray, List.set_cons_zero, List.set_cons_succ]
    refine take_in (i := 19) (d := 73) (v := .agg #[.int .i64 0, .int .i64 2, .int .i64 5, .int .u64 0, .int .u64 1, .bool false, .bool false]) rfl rfl (by kernel_rfl) (by kernel_rfl) (by kernel_rfl) (fun _ _ _ h => h) (by kernel_rfl) (fun w' hS => by obtain ⟨x0, x1, x2, x3, x4, x5, x6⟩ := cells7 (HK.out.frm0 hS).a; go_simp) (by assumption) ?_
    try simp only [Act.put, List.setIfInBounds_toArray, List.set_cons_zero, List.set_cons_succ]
    refine wpAnyH_ready (rs := [20]) (by kernel_rfl) (by simp) ?_
    refine AllReadyH.cons rfl (fun K hK => ?_) AllReadyH.nil
    go_simp
    obtain ⟨U21, hU21⟩ : ∃ U21, U21 = U1g.alloc (.cells #[.int .i64 0, .int .i64 2, .int .i64 5, .int .u64 0, .int .u64 1, .bool false, .bool false] 40) := ⟨_, rfl⟩
    have f21 : Frm [] U1g U21 := by rw [hU21]; exact (Frm.refl [] _).alloc _
    have dl21 : DL U21 (some ⟨U1g.heap.size, 0, none⟩) 1 1 U1g.heap.size 0 [kdA] := by rw [hU21]; exact dl_new rfl (heap_alloc_new _ _)
    have fr21 : Frm [] X U21 := frU1g.trans f21
    first | rw [← hU21] | (change K _ (U1g.alloc (.cells #[.int .i64 0, .int .i64 2, .int .i64 5, .int .u64 0, .int .u64 1, .bool false, .bool false] 40)); rw [← hU21])
    clear hU21
    refine hK.out _ _ (by exact fr21) (fun hHeld => ?_)
    clear hK K
    try change wpAnyH _ _ _ _ _ _ _ (Act.put _ (some 74) _) _
    try simp only [Act.put, List.setIfInBounds_toArray, List.set_cons_zero, List.set_cons_succ]
    refine wpAnyH_ready (rs := [21]) (by kernel_rfl) (by simp) ?_
    refine AllReadyH.cons rfl (fun K hK => ?_) AllReadyH.nil
    go_simp
    go_at_call 33
    refine (list_any _ _ _ _).mono ?_
    rintro e1 x1 ⟨rfl, rfl⟩
    refine hK.out _ _ (by exact fr21) (fun hHeld => ?_)
    clear hK K
    try change wpAnyH _ _ _ _ _ _ _ (Act.put _ (some 75) _) _
    try simp only [Act.put, List.setIfInBounds_toArray, List.set_cons_zero, List.set_cons_succ]
    refine wpAnyH_ready (rs := [22]) (by kernel_rfl) (by simp) ?_
    refine AllReadyH.cons rfl (fun K hK => ?_) AllReadyH.nil
    go_simp
    go_at_call 14
    refine (lchecks_any (HZ5.out.frm0 fr21) dl21 (x := 0) (e0 := 0) (by kernel_rfl) (by kernel_rfl)).mono ?_
    rintro e22 U22 ⟨rfl, f22⟩
    have fr22 : Frm [] X U22 := fr21.trans f22
    refine hK.out _ _ (by exact fr22) (fun hHeld => ?_)
    clear hK K
    try change wpAnyH _ _ _ _ _ _ _ (Act.put _ (some 76) _) _
    try simp only [Act.put, List.setIfInBounds_toArray, List.set_cons_zero, List.set_cons_succ]
    refine take_in (i := 23) (d := 77) (v := .bool false) rfl rfl (by kernel_rfl) (by kernel_rfl) (by kernel_rfl) (fun _ _ _ h => h) (by kernel_rfl) (fun _ _ => rfl) (by assumption) ?_
    try simp only [Act.put, List.setIfInBounds_toArray, List.set_cons_zero, List.set_cons_succ]
    refine take_in (i := 24) (d := 78) (v := .bool false) rfl rfl (by kernel_rfl) (by kernel_rfl) (by kernel_rfl) (fun _ _ _ h => h) (by kernel_rfl) (fun _ _ => rfl) (by assumption) ?_
    try simp only [Act.put, List.setIfInBounds_toArray, List.set_cons_zero, List.set_cons_succ]
    refine take_in (i := 25) (d := 79) (v := .bool false) rfl rfl (by kernel_rfl) (by kernel_rfl) (by kernel_rfl) (fun _ _ _ h => h) (by kernel_rfl) (fun _ _ => rfl) (by assumption) ?_
    try simp only [Act.put, List.setIfInBounds_toArray, List.set_cons_zero, List.set_cons_succ]
    exact wpAnyH_cast #[true, true, true, true, true, true, true, true, true, true, true, true, true, true, true, true, true, true, true, true, true, true, true, true, true, true, false, false, false, false, false, false, false, false] (by kernel_rfl) (hGo.out _ _ ⟨_, _, _, _, _, _, _, _, rfl, fr22⟩)
  rintro _ U2g ⟨u71, u72, u73, u74, u75, u76, u77, u78, rfl, frU2g⟩
  refine wpAnyH_via 0 #[true, true, true, true, true, true, true, true, true, true, true, true, true, true, true, true, true, true, true, true, true, true, true, true, true, true, true, true, true, true, true, true, true, true] (fun a' w' => ∃ (u80 u81 u82 u83 u84 u85 u86 : Value), a' = ⟨List.toArray (.bool false :: .pointer (some ⟨w.heap.size, 0, none⟩) :: .pointer (some ⟨w.heap.size + 1, 0, none⟩) :: .pointer (some ⟨w.heap.size + 1 + 1, 0, none⟩) :: .pointer (some ⟨w.heap.size + 1 + 1 + 1, 0, none⟩) :: .slice (some ⟨gz, 0, none⟩) 6 6 :: v6 :: v7 :: v8 :: v9 :: v10 :: v11 :: v12 :: v13 :: v14 :: v15 :: v16 :: v17 :: v18 :: v19 :: v20 :: v21 :: v22 :: v23 :: v24 :: v25 :: v26 :: v27 :: v28 :: v29 :: v30 :: v31 :: v32 :: v33 :: v34 :: v35 :: v36 :: v37 :: v38 :: v39 :: v40 :: v41 :: v42 :: v43 :: v44 :: v45 :: v46 :: v47 :: v48 :: v49 :: v50 :: v51 :: v52 :: v53 :: u54 :: u55 :: u56 :: u57 :: u58 :: u59 :: u60 :: u61 :: .bool false :: u63 :: u64 :: u65 :: u66 :: u67 :: u68 :: u69 :: .bool false :: u71 :: u72 :: u73 :: u74 :: u75 :: u76 :: u77 :: u78 :: .bool false :: u80 :: u81 :: u82 :: u83 :: u84 :: u85 :: u86 :: .bool false :: v88 :: v89 :: v90 :: v91 :: v92 :: v93 :: v94 :: v95 :: v96 :: v97 :: v98 :: v99 :: v100 :: v101 :: v102 :: v103 :: v104 :: v105 :: v106 :: v107 :: v108 :: v109 :: v110 :: v111 :: v112 :: v113 :: v114 :: v115 :: v116 :: v117 :: v118 :: v119 :: v120 :: v121 :: v122 :: v123 :: v124 :: v125 :: v126 :: v127 :: v128 :: v129 :: v130 :: v131 :: v132 :: v133 :: v134 :: v135 :: v136 :: v137 :: v138 :: v139 :: v140 :: v141 :: v142 :: v143 :: v144 :: v145 :: v146 :: v147 :: v148 :: v149 :: v150 :: v151 :: v152 :: v153 :: v154 :: v155 :: []), []⟩ ∧ Frm [] X w') ?_ (fun hGo => ?_)
  rotate_left
  · refine take_in (i := 26) (d := 80) (v := .slice (some ⟨gz, 0, none⟩) 6 6) rfl rfl (by kernel_rfl) (by kernel_rfl) (by kernel_rfl) (fun _ _ _ h => h) (by kernel_rfl) (fun _ _ => rfl) (by assumption) ?_
    try simp only [Act.put, List.setIfInBounds_toArray, List.set_cons_zero, List.set_cons_succ]
    refine take_in (i := 27) (d := 81) (v := .agg #[.int .i64 0, .int .i64 2, .int .i64 5, .int .u64 0, .int .u64 1, .bool false, .bool false]) rfl rfl (by kernel_rfl) (by kernel_rfl) (by kernel_rfl) (fun _ _ _ h => h) (by kernel_rfl) (fun w' hS => by obtain ⟨x0, x1, x2, x3, x4, x5, x6⟩ := cells7 (HK.out.frm0 hS).a; go_simp) (by assumption) ?_
    try simp only [Act.put, List.setIfInBounds_toArray, List.set_cons_zero, List.set_cons_succ]
    refine wpAnyH_ready (rs := [28, 30]) (by kernel_rfl) (by simp) ?_
    refine AllReadyH.cons rfl (fun K hK => ?_) (AllReadyH.cons rfl (fun K hK => ?_) AllReadyH.nil)
    · go_simp
      obtain ⟨U31, hU31⟩ : ∃ U31, U31 = U2g.alloc (.cells #[.int .i64 0, .int .i64 2, .int .i64 5, .int .u64 0, .int .u64 1, .bool false, .bool false] 40) := ⟨_, rfl⟩
      have f31 : Frm [] U2g U31 := by rw [hU31]; exact (Frm.refl [] _).alloc _
      have dl31 : DL U31 (some ⟨U2g.heap.size, 0, none⟩) 1 1 U2g.heap.size 0 [kdA] := by rw [hU31]; exact dl_new rfl (heap_alloc_new _ _)
      have fr31 : Frm [] X U31 := frU2g.trans f31
      first | rw [← hU31] | (change K _ (U2g.alloc (.cells #[.int .i64 0, .int .i64 2, .int .i64 5, .int .u64 0, .int .u64 1, .bool false, .bool false] 40)); rw [← hU31])
      clear hU31
      refine hK.out _ _ (by exact fr31) (fun hHeld => ?_)
      clear hK K
      try change wpAnyH _ _ _ _ _ _ _ (Act.put _ (some 82) _) _
      try simp only [Act.put, List.setIfInBounds_toArray, List.set_cons_zero, List.set_cons_succ]
      refine wpAnyH_ready (rs := [29, 30]) (by kernel_rfl) (by simp) ?_
      refine AllReadyH.cons rfl (fun K hK => ?_) (AllReadyH.cons rfl (fun K hK => ?_) AllReadyH.nil)
      · go_simp
        go_at_call 33
        refine (list_any _ _ _ _).mono ?_
        rintro e1 x1 ⟨rfl, rfl⟩
        refine hK.out _ _ (by exact fr31) (fun hHeld => ?_)
        clear hK K
        try change wpAnyH _ _ _ _ _ _ _ (Act.put _ (some 83) _) _
        try simp only [Act.put, List.setIfInBounds_toArray, List.set_cons_zero, List.set_cons_succ]
        refine wpAnyH_ready (rs := [30]) (by kernel_rfl) (by simp) ?_
        refine AllReadyH.cons rfl (fun K hK => ?_) AllReadyH.nil
        go_simp
        obtain ⟨U32, hU32⟩ : ∃ U32, U32 = U31.alloc (.cells #[.int .u64 0, .int .u64 0, .int .u64 0, .int .u64 0, .int .u64 0, .int .u64 1] 30) := ⟨_, rfl⟩
        have f32 : Frm [] U31 U32 := by rw [hU32]; exact (Frm.refl [] _).alloc _
        have ul32 : Li .u64 U32 (some ⟨U31.heap.size, 0, none⟩) 6 6 U31.heap.size 0 [0, 0, 0, 0, 0, 1] := by rw [hU32]; exact li_new rfl (heap_alloc_new _ _)
        have dl32 := dl31.frm0 f32
        have fr32 : Frm [] X U32 := fr31.trans f32
        first | rw [← hU32] | (change K _ (U31.alloc (.cells #[.int .u64 0, .int .u64 0, .int .u64 0, .int .u64 0, .int .u64 0, .int .u64 1] 30)); rw [← hU32])
        clear hU32
        refine hK.out _ _ (by exact fr32) (fun hHeld => ?_)
        clear hK K
        try change wpAnyH _ _ _ _ _ _ _ (Act.put _ (some 84) _) _
        try simp only [Act.put, List.setIfInBounds_toArray, List.set_cons_zero, List.set_cons_succ]
        refine wpAnyH_ready (rs := [31]) (by kernel_rfl) (by simp) ?_
        refine AllReadyH.cons rfl (fun K hK => ?_) AllReadyH.nil
        go_simp
        go_at_call 18
        refine (lreplays_any (HZ.out.frm0 fr32) dl32 (L := [0, 0, 0, 0, 0, 1]) (e0 := 0) (by kernel_rfl) rfl (by decide) ul32).mono ?_
        rintro e33 U33 ⟨rfl, f33⟩
        have fr33 : Frm [] X U33 := fr32.trans f33
        refine hK.out _ _ (by exact fr33) (fun hHeld => ?_)
        clear hK K
        try change wpAnyH _ _ _ _ _ _ _ (Act.put _ (some 85) _) _
        try simp only [Act.put, List.setIfInBounds_toArray, List.set_cons_zero, List.set_cons_succ]
        refine take_in (i := 32) (d := 86) (v := .bool false) rfl rfl (by kernel_rfl) (by kernel_rfl) (by kernel_rfl) (fun _ _ _ h => h) (by kernel_rfl) (fun _ _ => rfl) (by assumption) ?_
        try simp only [Act.put, List.setIfInBounds_toArray, List.set_cons_zero, List.set_cons_succ]
        refine take_in (i := 33) (d := 87) (v := .bool false) rfl rfl (by kernel_rfl) (by kernel_rfl) (by kernel_rfl) (fun _ _ _ h => h) (by kernel_rfl) (fun _ _ => rfl) (by assumption) ?_
        try simp only [Act.put, List.setIfInBounds_toArray, List.set_cons_zero, List.set_cons_succ]
        exact wpAnyH_cast #[true, true, true, true, true, true, true, true, true, true, true, true, true, true, true, true, true, true, true, true, true, true, true, true, true, true, true, true, true, true, true, true, true, true] (by kernel_rfl) (hGo.out _ _ ⟨_, _, _, _, _, _, _, rfl, fr33⟩)
      · go_simp
        obtain ⟨U32, hU32⟩ : ∃ U32, U32 = U31.alloc (.cells #[.int .u64 0, .int .u64 0, .int .u64 0, .int .u64 0, .int .u64 0, .int .u64 1] 30) := ⟨_, rfl⟩
        have f32 : Frm [] U31 U32 := by rw [hU32]; exact (Frm.refl [] _).alloc _
        have ul32 : Li .u64 U32 (some ⟨U31.heap.size, 0, none⟩) 6 6 U31.heap.size 0 [0, 0, 0, 0, 0, 1] := by rw [hU32]; exact li_new rfl (heap_alloc_new _ _)
        have dl32 := dl31.frm0 f32
        have fr32 : Frm [] X U32 := fr31.trans f32
        first | rw [← hU32] | (change K _ (U31.alloc (.cells #[.int .u64 0, .int .u64 0, .int .u64 0, .int .u64 0, .int .u64 0, .int .u64 1] 30)); rw [← hU32])
        clear hU32
        refine hK.out _ _ (by exact fr32) (fun hHeld => ?_)
        clear hK K
        try change wpAnyH _ _ _ _ _ _ _ (Act.put _ (some 84) _) _
        try simp only [Act.put, List.setIfInBounds_toArray, List.set_cons_zero, List.set_cons_succ]
        refine wpAnyH_ready (rs := [29]) (by kernel_rfl) (by simp) ?_
        refine AllReadyH.cons rfl (fun K hK => ?_) AllReadyH.nil
        go_simp
        go_at_call 33
        refine (list_any _ _ _ _).mono ?_
        rintro e1 x1 ⟨rfl, rfl⟩
        refine hK.out _ _ (by exact fr32) (fun hHeld => ?_)
        clear hK K
        try change wpAnyH _ _ _ _ _ _ _ (Act.put _ (some 83) _) _
        try simp only [Act.put, List.setIfInBounds_toArray, List.set_cons_zero, List.set_cons_succ]
        refine wpAnyH_ready (rs := [31]) (by kernel_rfl) (by simp) ?_
        refine AllReadyH.cons rfl (fun K hK => ?_) AllReadyH.nil
        go_simp
        go_at_call 18
        refine (lreplays_any (HZ.out.frm0 fr32) dl32 (L := [0, 0, 0, 0, 0, 1]) (e0 := 0) (by kernel_rfl) rfl (by decide) ul32).mono ?_
        rintro e33 U33 ⟨rfl, f33⟩
        have fr33 : Frm [] X U33 := fr32.trans f33
        refine hK.out _ _ (by exact fr33) (fun hHeld => ?_)
        clear hK K
        try change wpAnyH _ _ _ _ _ _ _ (Act.put _ (some 85) _) _
        try simp only [Act.put, List.setIfInBounds_toArray, List.set_cons_zero, List.set_cons_succ]
        refine take_in (i := 32) (d := 86) (v := .bool false) rfl rfl (by kernel_rfl) (by kernel_rfl) (by kernel_rfl) (fun _ _ _ h => h) (by kernel_rfl) (fun _ _ => rfl) (by assumption) ?_
        try simp only [Act.put, List.setIfInBounds_toArray, List.set_cons_zero, List.set_cons_succ]
        refine take_in (i := 33) (d := 87) (v := .bool false) rfl rfl (by kernel_rfl) (by kernel_rfl) (by kernel_rfl) (fun _ _ _ h => h) (by kernel_rfl) (fun _ _ => rfl) (by assumption) ?_
        try simp only [Act.put, List.setIfInBounds_toArray, List.set_cons_zero, List.set_cons_succ]
        exact wpAnyH_cast #[true, true, true, true, true, true, true, true, true, true, true, true, true, true, true, true, true, true, true, true, true, true, true, true, true, true, true, true, true, true, true, true, true, true] (by kernel_rfl) (hGo.out _ _ ⟨_, _, _, _, _, _, _, rfl, fr33⟩)
    · go_simp
      obtain ⟨U31, hU31⟩ : ∃ U31, U31 = U2g.alloc (.cells #[.int .u64 0, .int .u64 0, .int .u64 0, .int .u64 0, .int .u64 0, .int .u64 1] 30) := ⟨_, rfl⟩
      have f31 : Frm [] U2g U31 := by rw [hU31]; exact (Frm.refl [] _).alloc _
      have ul31 : Li .u64 U31 (some ⟨U2g.heap.size, 0, none⟩) 6 6 U2g.heap.size 0 [0, 0, 0, 0, 0, 1] := by rw [hU31]; exact li_new rfl (heap_alloc_new _ _)
      have fr31 : Frm [] X U31 := frU2g.trans f31
      first | rw [← hU31] | (change K _ (U2g.alloc (.cells #[.int .u64 0, .int .u64 0, .int .u64 0, .int .u64 0, .int .u64 0, .int .u64 1] 30)); rw [← hU31])
      clear hU31
      refine hK.out _ _ (by exact fr31) (fun hHeld => ?_)
      clear hK K
      try change wpAnyH _ _ _ _ _ _ _ (Act.put _ (some 84) _) _
      try simp only [Act.put, List.setIfInBounds_toArray, List.set_cons_zero, List.set_cons_succ]
      refine wpAnyH_ready (rs := [28]) (by kernel_rfl) (by simp) ?_
      refine AllReadyH.cons rfl (fun K hK => ?_) AllReadyH.nil
      go_simp
      obtain ⟨U32, hU32⟩ : ∃ U32, U32 = U31.alloc (.cells #[.int .i64 0, .int .i64 2, .int .i64 5, .int .u64 0, .int .u64 1, .bool false, .bool false] 40) := ⟨_, rfl⟩
      have f32 : Frm [] U31 U32 := by rw [hU32]; exact (Frm.refl [] _).alloc _
      have dl32 : DL U32 (some ⟨U31.heap.size, 0, none⟩) 1 1 U31.heap.size 0 [kdA] := by rw [hU32]; exact dl_new rfl (heap_alloc_new _ _)
      have ul32 := ul31.frm0 f32
      have fr32 : Frm [] X U32 := fr31.trans f32
      first | rw [← hU32] | (change K _ (U31.alloc (.cells #[.int .i64 0, .int .i64 2, .int .i64 5, .int .u64 0, .int .u64 1, .bool false, .bool false] 40)); rw [← hU32])
      clear hU32
      refine hK.out _ _ (by exact fr32) (fun hHeld => ?_)
      clear hK K
      try change wpAnyH _ _ _ _ _ _ _ (Act.put _ (some 82) _) _
      try simp only [Act.put, List.setIfInBounds_toArray, List.set_cons_zero, List.set_cons_succ]
      refine wpAnyH_ready (rs := [29]) (by kernel_rfl) (by simp) ?_
      refine AllReadyH.cons rfl (fun K hK => ?_) AllReadyH.nil
      go_simp
      go_at_call 33
      refine (list_any _ _ _ _).mono ?_
      rintro e1 x1 ⟨rfl, rfl⟩
      refine hK.out _ _ (by exact fr32) (fun hHeld => ?_)
      clear hK K
      try change wpAnyH _ _ _ _ _ _ _ (Act.put _ (some 83) _) _
      try simp only [Act.put, List.setIfInBounds_toArray, List.set_cons_zero, List.set_cons_succ]
      refine wpAnyH_ready (rs := [31]) (by kernel_rfl) (by simp) ?_
      refine AllReadyH.cons rfl (fun K hK => ?_) AllReadyH.nil
      go_simp
      go_at_call 18
      refine (lreplays_any (HZ.out.frm0 fr32) dl32 (L := [0, 0, 0, 0, 0, 1]) (e0 := 0) (by kernel_rfl) rfl (by decide) ul32).mono ?_
      rintro e33 U33 ⟨rfl, f33⟩
      have fr33 : Frm [] X U33 := fr32.trans f33
      refine hK.out _ _ (by exact fr33) (fun hHeld => ?_)
      clear hK K
      try change wpAnyH _ _ _ _ _ _ _ (Act.put _ (some 85) _) _
      try simp only [Act.put, List.setIfInBounds_toArray, List.set_cons_zero, List.set_cons_succ]
      refine take_in (i := 32) (d := 86) (v := .bool false) rfl rfl (by kernel_rfl) (by kernel_rfl) (by kernel_rfl) (fun _ _ _ h => h) (by kernel_rfl) (fun _ _ => rfl) (by assumption) ?_
      try simp only [Act.put, List.setIfInBounds_toArray, List.set_cons_zero, List.set_cons_succ]
      refine take_in (i := 33) (d := 87) (v := .bool false) rfl rfl (by kernel_rfl) (by kernel_rfl) (by kernel_rfl) (fun _ _ _ h => h) (by kernel_rfl) (fun _ _ => rfl) (by assumption) ?_
      try simp only [Act.put, List.setIfInBounds_toArray, List.set_cons_zero, List.set_cons_succ]
      exact wpAnyH_cast #[true, true, true, true, true, true, true, true, true, true, true, true, true, true, true, true, true, true, true, true, true, true, true, true, true, true, true, true, true, true, true, true, true, true] (by kernel_rfl) (hGo.out _ _ ⟨_, _, _, _, _, _, _, rfl, fr33⟩)
  rintro _ U3g ⟨u80, u81, u82, u83, u84, u85, u86, rfl, frU3g⟩
  refine wpAnyH_done (by kernel_rfl) ?_ _
  refine NoPanic.normal ?_
  have hKU := HK.out.frm0 frU3g
  obtain ⟨x0, x1, x2, x3, x4, x5, x6⟩ := cells7 hKU.c
  have HKU := Lib.hid hKU
  clear hKU
  go_wp2_with fail
  refine HK8.out _ _ ?_
  refine wp_seq_k ?_
  intro K10 hK10
  have HK10 := Lib.hid hK10
  clear hK10
  go_wp2_with fail
  refine HK10.out _ _ ?_
  refine wp_seq_k ?_
  intro K11 hK11
  have HK11 := Lib.hid hK11
  clear hK11
  have hfz := frozen_of_heap (i := 4) (heap_alloc_old (.cells #[.int .i64 1, .int .i64 0, .int .i64 0, .int .u64 0, .int .u64 0, .bool false, .bool true] 40) (heap_alloc_new U3g (.cells #[.int .i64 1, .int .i64 1, .int .i64 5, .int .u64 1, .int .u64 1, .bool false, .bool false] 40)))
  go_wp2_with fail
  have hA : Frm [] U3g ((U3g.alloc (.cells #[.int .i64 1, .int .i64 1, .int .i64 5, .int .u64 1, .int .u64 2, .bool false, .bool false] 40)).alloc (.cells #[.int .i64 1, .int .i64 0, .int .i64 0, .int .u64 0, .int .u64 0, .bool false, .bool true] 40)) := ((Frm.refl [] U3g).alloc _).alloc _
  refine HK11.out _ _ (kn12 (kx := U3g.heap.size) (ky := U3g.heap.size + 1) (HKU.out.frm0 hA) (heap_alloc_old _ (heap_alloc_new U3g _)) (heap_alloc_at _ (by simp)) _ _ _ _ _ _ _ _ _ _ _ _ _ _ _ _ _ _ _ _ _ _ _ _ _ _ _ _ _ _ _ _ _ _ _ _ _ _ _ _ _ _ _ _ _ _ _ _ _ _ _ _ _ _ _ _ _ _ _ _ _ _ _ _ _ _ _ _ _ _ _ _ _ _ _ _ _ _ _ _ _ _ _ _ _ _ _ _ _ _ _ _ _ _ _ _ _ _ _ _ _ _ _ _ _ _ _ _ _ _ _ _ _ _ _ _ _ _ _ _ _ _ _ _ _ _ _ _ _ _ _ _ _ _ _ _ _ _ _ _ _ _ _ _ _ _ _ _ _)

end Go.Proofs.Ytfkikaoojelddaa
