/- Stage 13: known. (By gen_trw.py.) -/
import Derived.Test.YtfkikaoojelddaaTrY
namespace Go.Proofs.Ytfkikaoojelddaa
open Go.ChangeShapes Go.WideShapes Go.ChangeAt Go.RowKit
set_option linter.unusedVariables false
set_option linter.unusedSimpArgs false
set_option maxRecDepth 100000 in
set_option maxHeartbeats 6400000 in
/-- What known asks from its first part on. -/
theorem kn5 {w X : World} (hK0 : Kn w X (w.heap.size) (w.heap.size + 1) (w.heap.size + 1 + 1) (w.heap.size + 1 + 1 + 1)) (v5 v6 v7 v8 v9 v10 v11 v12 v13 v14 v15 v16 v17 v18 v19 v20 v21 v22 v23 v24 v25 v26 v27 v28 v29 v30 v31 v32 v33 v34 v35 v36 v37 v38 v39 v40 v41 v42 v43 v44 v45 v46 v47 v48 v49 v50 v51 v52 v53 v54 v55 v56 v57 v58 v59 v60 v61 v62 v63 v64 v65 v66 v67 v68 v69 v70 v71 v72 v73 v74 v75 v76 v77 v78 v79 v80 v81 v82 v83 v84 v85 v86 v87 v88 v89 v90 v91 v92 v93 v94 v95 v96 v97 v98 v99 v100 v101 v102 v103 v104 v105 v106 v107 v108 v109 v110 v111 v112 v113 v114 v115 v116 v117 v118 v119 v120 v121 v122 v123 v124 v125 v126 v127 v128 v129 v130 v131 v132 v133 v134 v135 v136 v137 v138 v139 v140 v141 v142 v143 v144 v145 v146 v147 v148 v149 v150 v151 v152 v153 v154 v155 : Value) :
    Code.wp Try.prog (pieceK 5) (bodyPost Try.prog Try.f8 (Ret (.bool true) (fun w' => Frm [] w w'))) ⟨List.toArray (.bool false :: .pointer (some ⟨w.heap.size, 0, none⟩) :: .pointer (some ⟨w.heap.size + 1, 0, none⟩) :: .pointer (some ⟨w.heap.size + 1 + 1, 0, none⟩) :: .pointer (some ⟨w.heap.size + 1 + 1 + 1, 0, none⟩) :: v5 :: v6 :: v7 :: v8 :: v9 :: v10 :: v11 :: v12 :: v13 :: v14 :: v15 :: v16 :: v17 :: v18 :: v19 :: v20 :: v21 :: v22 :: v23 :: v24 :: v25 :: v26 :: v27 :: v28 :: v29 :: v30 :: v31 :: v32 :: v33 :: v34 :: v35 :: v36 :: v37 :: v38 :: v39 :: v40 :: v41 :: v42 :: v43 :: v44 :: v45 :: v46 :: v47 :: v48 :: v49 :: v50 :: v51 :: v52 :: v53 :: v54 :: v55 :: v56 :: v57 :: v58 :: v59 :: v60 :: v61 :: v62 :: v63 :: v64 :: v65 :: v66 :: v67 :: v68 :: v69 :: v70 :: v71 :: v72 :: v73 :: v74 :: v75 :: v76 :: v77 :: v78 :: v79 :: v80 :: v81 :: v82 :: v83 :: v84 :: v85 :: v86 :: v87 :: v88 :: v89 :: v90 :: v91 :: v92 :: v93 :: v94 :: v95 :: v96 :: v97 :: v98 :: v99 :: v100 :: v101 :: v102 :: v103 :: v104 :: v105 :: v106 :: v107 :: v108 :: v109 :: v110 :: v111 :: v112 :: v113 :: v114 :: v115 :: v116 :: v117 :: v118 :: v119 :: v120 :: v121 :: v122 :: v123 :: v124 :: v125 :: v126 :: v127 :: v128 :: v129 :: v130 :: v131 :: v132 :: v133 :: v134 :: v135 :: v136 :: v137 :: v138 :: v139 :: v140 :: v141 :: v142 :: v143 :: v144 :: v145 :: v146 :: v147 :: v148 :: v149 :: v150 :: v151 :: v152 :: v153 :: v154 :: v155 :: []), []⟩ X := by
  have HK := Lib.hid hK0
  clear hK0
  conv => arg 2; whnf
  try dsimp only
  refine wp_seq_k ?_
  intro K5 hK5
  have HK5 := Lib.hid hK5
  clear hK5
  go_wp2_with fail
  refine wp_region_noPanic ?_
  refine wp_region_held_drew (S := fun w' => Frm [] X w') (by kernel_rfl) ((Frm.refl _ _).drew) (fun hHeld => ?_)
  refine wpAnyH_via 27 #[true, true, true, true, true, true, true, true, true, true, true, false, false, false, false, false, false, false, false, false, false, false, false, false, false, false, false, false, false, false, false, false, false, false, false, false, false, false] (fun a' w' => ∃ (u15 u16 u17 u18 u19 u20 u21 u22 u23 u24 : Value), a' = ⟨List.toArray (.bool false :: .pointer (some ⟨w.heap.size, 0, none⟩) :: .pointer (some ⟨w.heap.size + 1, 0, none⟩) :: .pointer (some ⟨w.heap.size + 1 + 1, 0, none⟩) :: .pointer (some ⟨w.heap.size + 1 + 1 + 1, 0, none⟩) :: v5 :: v6 :: v7 :: v8 :: v9 :: v10 :: v11 :: v12 :: v13 :: v14 :: u15 :: u16 :: u17 :: u18 :: u19 :: u20 :: u21 :: u22 :: u23 :: u24 :: .bool false :: v26 :: v27 :: v28 :: v29 :: v30 :: v31 :: v32 :: v33 :: v34 :: v35 :: v36 :: v37 :: v38 :: v39 :: v40 :: v41 :: v42 :: v43 :: v44 :: v45 :: v46 :: v47 :: v48 :: v49 :: v50 :: v51 :: v52 :: v53 :: v54 :: v55 :: v56 :: v57 :: v58 :: v59 :: v60 :: v61 :: v62 :: v63 :: v64 :: v65 :: v66 :: v67 :: v68 :: v69 :: v70 :: v71 :: v72 :: v73 :: v74 :: v75 :: v76 :: v77 :: v78 :: v79 :: v80 :: v81 :: v82 :: v83 :: v84 :: v85 :: v86 :: v87 :: v88 :: v89 :: v90 :: v91 :: v92 :: v93 :: v94 :: v95 :: v96 :: v97 :: v98 :: v99 :: v100 :: v101 :: v102 :: v103 :: v104 :: v105 :: v106 :: v107 :: v108 :: v109 :: v110 :: v111 :: v112 :: v113 :: v114 :: v115 :: v116 :: v117 :: v118 :: v119 :: v120 :: v121 :: v122 :: v123 :: v124 :: v125 :: v126 :: v127 :: v128 :: v129 :: v130 :: v131 :: v132 :: v133 :: v134 :: v135 :: v136 :: v137 :: v138 :: v139 :: v140 :: v141 :: v142 :: v143 :: v144 :: v145 :: v146 :: v147 :: v148 :: v149 :: v150 :: v151 :: v152 :: v153 :: v154 :: v155 :: []), []⟩ ∧ Frm [] X w') ?_ (fun hGo => ?_)
  rotate_left
  · refine take_in (i := 0) (d := 15) (v := .agg #[.int .i64 1, .int .i64 1, .int .i64 5, .int .u64 0, .int .u64 0, .bool true, .bool false]) rfl rfl (by kernel_rfl) (by kernel_rfl) (by kernel_rfl) (fun _ _ _ h => h) (by kernel_rfl) (fun w' hS => by obtain ⟨x0, x1, x2, x3, x4, x5, x6⟩ := cells7 (HK.out.frm0 hS).b; go_simp) (by assumption) ?_
    try simp only [Act.put, List.setIfInBounds_toArray, List.set_cons_zero, List.set_cons_succ]
    refine take_in (i := 1) (d := 16) (v := .agg #[.int .i64 1, .int .i64 1, .int .i64 5, .int .u64 0, .int .u64 0, .bool true, .bool false]) rfl rfl (by kernel_rfl) (by kernel_rfl) (by kernel_rfl) (fun _ _ _ h => h) (by kernel_rfl) (fun w' hS => by obtain ⟨x0, x1, x2, x3, x4, x5, x6⟩ := cells7 (HK.out.frm0 hS).b; go_simp) (by assumption) ?_
    try simp only [Act.put, List.setIfInBounds_toArray, List.set_cons_zero, List.set_cons_succ]
    refine take_in (i := 2) (d := 17) (v := .agg #[.int .i64 0, .int .i64 2, .int .i64 5, .int .u64 0, .int .u64 1, .bool false, .bool false]) rfl rfl (by kernel_rfl) (by kernel_rfl) (by kernel_rfl) (fun _ _ _ h => h) (by kernel_rfl) (fun w' hS => by obtain ⟨x0, x1, x2, x3, x4, x5, x6⟩ := cells7 (HK.out.frm0 hS).a; go_simp) (by assumption) ?_
    try simp only [Act.put, List.setIfInBounds_toArray, List.set_cons_zero, List.set_cons_succ]
    refine take_in (i := 3) (d := 18) (v := .agg #[.int .i64 1, .int .i64 1, .int .i64 5, .int .u64 1, .int .u64 1, .bool false, .bool false]) rfl rfl (by kernel_rfl) (by kernel_rfl) (by kernel_rfl) (fun _ _ _ h => h) (by kernel_rfl) (fun w' hS => by obtain ⟨x0, x1, x2, x3, x4, x5, x6⟩ := cells7 (HK.out.frm0 hS).c; go_simp) (by assumption) ?_
    try simp only [Act.put, List.setIfInBounds_toArray, List.set_cons_zero, List.set_cons_succ]
    refine take_in (i := 6) (d := 21) (v := .agg #[.int .i64 1, .int .i64 5, .int .i64 0, .int .i64 2, .int .i64 0]) rfl rfl (by kernel_rfl) (by kernel_rfl) (by kernel_rfl) (fun _ _ _ h => h) (by kernel_rfl) (fun w' hS => by go_simp) (by assumption) ?_
    try simp only [Act.put, List.setIfInBounds_toArray, List.set_cons_zero, List.set_cons_succ]
    refine wpAnyH_ready (rs := [4, 7]) (by kernel_rfl) (by simp) ?_
    refine AllReadyH.cons rfl (fun K hK => ?_) (AllReadyH.cons rfl (fun K hK => ?_) AllReadyH.nil)
    · go_simp
      obtain ⟨U1, hU1⟩ : ∃ U1, U1 = X.drew.alloc (.cells #[.int .i64 1, .int .i64 1, .int .i64 5, .int .u64 0, .int .u64 0, .bool true, .bool false, .int .i64 1, .int .i64 1, .int .i64 5, .int .u64 0, .int .u64 0, .bool true, .bool false, .int .i64 0, .int .i64 2, .int .i64 5, .int .u64 0, .int .u64 1, .bool false, .bool false, .int .i64 1, .int .i64 1, .int .i64 5, .int .u64 1, .int .u64 1, .bool false, .bool false] 40) := ⟨_, rfl⟩
      have f1 : Frm [] X.drew U1 := by rw [hU1]; exact (Frm.refl [] _).alloc _
      have dl1 : DL U1 (some ⟨X.heap.size, 0, none⟩) 4 4 X.heap.size 0 [kdB, kdB, kdA, kdC] := by rw [hU1]; exact dl_new rfl (heap_alloc_new _ _)
      have fr1 : Frm [] X U1 := ((Frm.refl [] X).drew).trans f1
      first | rw [← hU1] | (change K _ (X.drew.alloc (.cells #[.int .i64 1, .int .i64 1, .int .i64 5, .int .u64 0, .int .u64 0, .bool true, .bool false, .int .i64 1, .int .i64 1, .int .i64 5, .int .u64 0, .int .u64 0, .bool true, .bool false, .int .i64 0, .int .i64 2, .int .i64 5, .int .u64 0, .int .u64 1, .bool false, .bool false, .int .i64 1, .int .i64 1, .int .i64 5, .int .u64 1, .int .u64 1, .bool false, .bool false] 40)); rw [← hU1])
      clear hU1
      refine hK.out _ _ (by exact fr1) (fun hHeld => ?_)
      clear hK K
      try change wpAnyH _ _ _ _ _ _ _ (Act.put _ (some 19) _) _
      try simp only [Act.put, List.setIfInBounds_toArray, List.set_cons_zero, List.set_cons_succ]
      refine wpAnyH_ready (rs := [5, 7]) (by kernel_rfl) (by simp) ?_
      refine AllReadyH.cons rfl (fun K hK => ?_) (AllReadyH.cons rfl (fun K hK => ?_) AllReadyH.nil)
      · go_simp
        go_at_call 33
        refine (list_any _ _ _ _).mono ?_
        rintro e1 x1 ⟨rfl, rfl⟩
        refine hK.out _ _ (by exact fr1) (fun hHeld => ?_)
        clear hK K
        try change wpAnyH _ _ _ _ _ _ _ (Act.put _ (some 20) _) _
        try simp only [Act.put, List.setIfInBounds_toArray, List.set_cons_zero, List.set_cons_succ]
        refine wpAnyH_ready (rs := [7]) (by kernel_rfl) (by simp) ?_
        refine AllReadyH.cons rfl (fun K hK => ?_) AllReadyH.nil
        go_simp
        obtain ⟨U2, hU2⟩ : ∃ U2, U2 = U1.alloc (.cells #[.int .i64 1, .int .i64 5, .int .i64 0, .int .i64 2, .int .i64 0] 52) := ⟨_, rfl⟩
        have f2 : Frm [] U1 U2 := by rw [hU2]; exact (Frm.refl [] _).alloc _
        have wd2 : Gr 52 5 0 U2 (some ⟨U1.heap.size, 0, none⟩) 1 1 (wdF [⟨1, 5, 0, 2, 0⟩]) := by rw [hU2]; exact gr_wd1 (heap_alloc_new _ _)
        have dl2 := dl1.frm0 f2
        have fr2 : Frm [] X U2 := fr1.trans f2
        first | rw [← hU2] | (change K _ (U1.alloc (.cells #[.int .i64 1, .int .i64 5, .int .i64 0, .int .i64 2, .int .i64 0] 52)); rw [← hU2])
        clear hU2
        refine hK.out _ _ (by exact fr2) (fun hHeld => ?_)
        clear hK K
        try change wpAnyH _ _ _ _ _ _ _ (Act.put _ (some 22) _) _
        try simp only [Act.put, List.setIfInBounds_toArray, List.set_cons_zero, List.set_cons_succ]
        refine wpAnyH_ready (rs := [8]) (by kernel_rfl) (by simp) ?_
        refine AllReadyH.cons rfl (fun K hK => ?_) AllReadyH.nil
        go_simp
        go_at_call 11
        refine (lwaits_any dl2 (kd_ok _ (by decide)) (L := [⟨1, 5, 0, 2, 0⟩]) (e0 := 0) (by kernel_rfl) rfl (by decide) wd2).mono ?_
        rintro e3 U3 ⟨rfl, f3⟩
        have fr3 : Frm [] X U3 := fr2.trans f3
        refine hK.out _ _ (by exact fr3) (fun hHeld => ?_)
        clear hK K
        try change wpAnyH _ _ _ _ _ _ _ (Act.put _ (some 23) _) _
        try simp only [Act.put, List.setIfInBounds_toArray, List.set_cons_zero, List.set_cons_succ]
        refine take_in (i := 9) (d := 24) (v := .bool false) rfl rfl (by kernel_rfl) (by kernel_rfl) (by kernel_rfl) (fun _ _ _ h => h) (by kernel_rfl) (fun _ _ => rfl) (by assumption) ?_
        try simp only [Act.put, List.setIfInBounds_toArray, List.set_cons_zero, List.set_cons_succ]
        refine take_in (i := 10) (d := 25) (v := .bool false) rfl rfl (by kernel_rfl) (by kernel_rfl) (by kernel_rfl) (fun _ _ _ h => h) (by kernel_rfl) (fun _ _ => rfl) (by assumption) ?_
        try simp only [Act.put, List.setIfInBounds_toArray, List.set_cons_zero, List.set_cons_succ]
        exact wpAnyH_cast #[true, true, true, true, true, true, true, true, true, true, true, false, false, false, false, false, false, false, false, false, false, false, false, false, false, false, false, false, false, false, false, false, false, false, false, false, false, false] (by kernel_rfl) (hGo.out _ _ ⟨_, _, _, _, _, _, _, _, _, _, rfl, fr3⟩)
      · go_simp
        obtain ⟨U2, hU2⟩ : ∃ U2, U2 = U1.alloc (.cells #[.int .i64 1, .int .i64 5, .int .i64 0, .int .i64 2, .int .i64 0] 52) := ⟨_, rfl⟩
        have f2 : Frm [] U1 U2 := by rw [hU2]; exact (Frm.refl [] _).alloc _
        have wd2 : Gr 52 5 0 U2 (some ⟨U1.heap.size, 0, none⟩) 1 1 (wdF [⟨1, 5, 0, 2, 0⟩]) := by rw [hU2]; exact gr_wd1 (heap_alloc_new _ _)
        have dl2 := dl1.frm0 f2
        have fr2 : Frm [] X U2 := fr1.trans f2
        first | rw [← hU2] | (change K _ (U1.alloc (.cells #[.int .i64 1, .int .i64 5, .int .i64 0, .int .i64 2, .int .i64 0] 52)); rw [← hU2])
        clear hU2
        refine hK.out _ _ (by exact fr2) (fun hHeld => ?_)
        clear hK K
        try change wpAnyH _ _ _ _ _ _ _ (Act.put _ (some 22) _) _
        try simp only [Act.put, List.setIfInBounds_toArray, List.set_cons_zero, List.set_cons_succ]
        refine wpAnyH_ready (rs := [5]) (by kernel_rfl) (by simp) ?_
        refine AllReadyH.cons rfl (fun K hK => ?_) AllReadyH.nil
        go_simp
        go_at_call 33
        refine (list_any _ _ _ _).mono ?_
        rintro e1 x1 ⟨rfl, rfl⟩
        refine hK.out _ _ (by exact fr2) (fun hHeld => ?_)
        clear hK K
        try change wpAnyH _ _ _ _ _ _ _ (Act.put _ (some 20) _) _
        try simp only [Act.put, List.setIfInBounds_toArray, List.set_cons_zero, List.set_cons_succ]
        refine wpAnyH_ready (rs := [8]) (by kernel_rfl) (by simp) ?_
        refine AllReadyH.cons rfl (fun K hK => ?_) AllReadyH.nil
        go_simp
        go_at_call 11
        refine (lwaits_any dl2 (kd_ok _ (by decide)) (L := [⟨1, 5, 0, 2, 0⟩]) (e0 := 0) (by kernel_rfl) rfl (by decide) wd2).mono ?_
        rintro e3 U3 ⟨rfl, f3⟩
        have fr3 : Frm [] X U3 := fr2.trans f3
        refine hK.out _ _ (by exact fr3) (fun hHeld => ?_)
        clear hK K
        try change wpAnyH _ _ _ _ _ _ _ (Act.put _ (some 23) _) _
        try simp only [Act.put, List.setIfInBounds_toArray, List.set_cons_zero, List.set_cons_succ]
        refine take_in (i := 9) (d := 24) (v := .bool false) rfl rfl (by kernel_rfl) (by kernel_rfl) (by kernel_rfl) (fun _ _ _ h => h) (by kernel_rfl) (fun _ _ => rfl) (by assumption) ?_
        try simp only [Act.put, List.setIfInBounds_toArray, List.set_cons_zero, List.set_cons_succ]
        refine take_in (i := 10) (d := 25) (v := .bool false) rfl rfl (by kernel_rfl) (by kernel_rfl) (by kernel_rfl) (fun _ _ _ h => h) (by kernel_rfl) (fun _ _ => rfl) (by assumption) ?_
        try simp only [Act.put, List.setIfInBounds_toArray, List.set_cons_zero, List.set_cons_succ]
        exact wpAnyH_cast #[true, true, true, true, true, true, true, true, true, true, true, false, false, false, false, false, false, false, false, false, false, false, false, false, false, false, false, false, false, false, false, false, false, false, false, false, false, false] (by kernel_rfl) (hGo.out _ _ ⟨_, _, _, _, _, _, _, _, _, _, rfl, fr3⟩)
    · go_simp
      obtain ⟨U1, hU1⟩ : ∃ U1, U1 = X.drew.alloc (.cells #[.int .i64 1, .int .i64 5, .int .i64 0, .int .i64 2, .int .i64 0] 52) := ⟨_, rfl⟩
      have f1 : Frm [] X.drew U1 := by rw [hU1]; exact (Frm.refl [] _).alloc _
      have wd1 : Gr 52 5 0 U1 (some ⟨X.heap.size, 0, none⟩) 1 1 (wdF [⟨1, 5, 0, 2, 0⟩]) := by rw [hU1]; exact gr_wd1 (heap_alloc_new _ _)
      have fr1 : Frm [] X U1 := ((Frm.refl [] X).drew).trans f1
      first | rw [← hU1] | (change K _ (X.drew.alloc (.cells #[.int .i64 1, .int .i64 5, .int .i64 0, .int .i64 2, .int .i64 0] 52)); rw [← hU1])
      clear hU1
      refine hK.out _ _ (by exact fr1) (fun hHeld => ?_)
      clear hK K
      try change wpAnyH _ _ _ _ _ _ _ (Act.put _ (some 22) _) _
      try simp only [Act.put, List.setIfInBounds_toArray, List.set_cons_zero, List.set_cons_succ]
      refine wpAnyH_ready (rs := [4]) (by kernel_rfl) (by simp) ?_
      refine AllReadyH.cons rfl (fun K hK => ?_) AllReadyH.nil
      go_simp
      obtain ⟨U2, hU2⟩ : ∃ U2, U2 = U1.alloc (.cells #[.int .i64 1, .int .i64 1, .int .i64 5, .int .u64 0, .int .u64 0, .bool true, .bool false, .int .i64 1, .int .i64 1, .int .i64 5, .int .u64 0, .int .u64 0, .bool true, .bool false, .int .i64 0, .int .i64 2, .int .i64 5, .int .u64 0, .int .u64 1, .bool false, .bool false, .int .i64 1, .int .i64 1, .int .i64 5, .int .u64 1, .int .u64 1, .bool false, .bool false] 40) := ⟨_, rfl⟩
      have f2 : Frm [] U1 U2 := by rw [hU2]; exact (Frm.refl [] _).alloc _
      have dl2 : DL U2 (some ⟨U1.heap.size, 0, none⟩) 4 4 U1.heap.size 0 [kdB, kdB, kdA, kdC] := by rw [hU2]; exact dl_new rfl (heap_alloc_new _ _)
      have wd2 := wd1.frm0 f2
      have fr2 : Frm [] X U2 := fr1.trans f2
      first | rw [← hU2] | (change K _ (U1.alloc (.cells #[.int .i64 1, .int .i64 1, .int .i64 5, .int .u64 0, .int .u64 0, .bool true, .bool false, .int .i64 1, .int .i64 1, .int .i64 5, .int .u64 0, .int .u64 0, .bool true, .bool false, .int .i64 0, .int .i64 2, .int .i64 5, .int .u64 0, .int .u64 1, .bool false, .bool false, .int .i64 1, .int .i64 1, .int .i64 5, .int .u64 1, .int .u64 1, .bool false, .bool false] 40)); rw [← hU2])
      clear hU2
      refine hK.out _ _ (by exact fr2) (fun hHeld => ?_)
      clear hK K
      try change wpAnyH _ _ _ _ _ _ _ (Act.put _ (some 19) _) _
      try simp only [Act.put, List.setIfInBounds_toArray, List.set_cons_zero, List.set_cons_succ]
      refine wpAnyH_ready (rs := [5]) (by kernel_rfl) (by simp) ?_
      refine AllReadyH.cons rfl (fun K hK => ?_) AllReadyH.nil
      go_simp
      go_at_call 33
      refine (list_any _ _ _ _).mono ?_
      rintro e1 x1 ⟨rfl, rfl⟩
      refine hK.out _ _ (by exact fr2) (fun hHeld => ?_)
      clear hK K
      try change wpAnyH _ _ _ _ _ _ _ (Act.put _ (some 20) _) _
      try simp only [Act.put, List.setIfInBounds_toArray, List.set_cons_zero, List.set_cons_succ]
      refine wpAnyH_ready (rs := [8]) (by kernel_rfl) (by simp) ?_
      refine AllReadyH.cons rfl (fun K hK => ?_) AllReadyH.nil
      go_simp
      go_at_call 11
      refine (lwaits_any dl2 (kd_ok _ (by decide)) (L := [⟨1, 5, 0, 2, 0⟩]) (e0 := 0) (by kernel_rfl) rfl (by decide) wd2).mono ?_
      rintro e3 U3 ⟨rfl, f3⟩
      have fr3 : Frm [] X U3 := fr2.trans f3
      refine hK.out _ _ (by exact fr3) (fun hHeld => ?_)
      clear hK K
      try change wpAnyH _ _ _ _ _ _ _ (Act.put _ (some 23) _) _
      try simp only [Act.put, List.setIfInBounds_toArray, List.set_cons_zero, List.set_cons_succ]
      refine take_in (i := 9) (d := 24) (v := .bool false) rfl rfl (by kernel_rfl) (by kernel_rfl) (by kernel_rfl) (fun _ _ _ h => h) (by kernel_rfl) (fun _ _ => rfl) (by assumption) ?_
      try simp only [Act.put, List.setIfInBounds_toArray, List.set_cons_zero, List.set_cons_succ]
      refine take_in (i := 10) (d := 25) (v := .bool false) rfl rfl (by kernel_rfl) (by kernel_rfl) (by kernel_rfl) (fun _ _ _ h => h) (by kernel_rfl) (fun _ _ => rfl) (by assumption) ?_
      try simp only [Act.put, List.setIfInBounds_toArray, List.set_cons_zero, List.set_cons_succ]
      exact wpAnyH_cast #[true, true, true, true, true, true, true, true, true, true, true, false, false, false, false, false, false, false, false, false, false, false, false, false, false, false, false, false, false, false, false, false, false, false, false, false, false, false] (by kernel_rfl) (hGo.out _ _ ⟨_, _, _, _, _, _, _, _, _, _, rfl, fr3⟩)
  rintro _ U0g ⟨u15, u16, u17, u18, u19, u20, u21, u22, u23, u24, rfl, frU0g⟩
  refine wpAnyH_via 17 #[true, true, true, true, true, true, true, true, true, true, true, true, true, true, true, true, true, true, true, true, true, false, false, false, false, false, false, false, false, false, false, false, false, false, false, false, false, false] (fun a' w' => ∃ (u26 u27 u28 u29 u30 u31 u32 u33 u34 : Value), a' = ⟨List.toArray (.bool false :: .pointer (some ⟨w.heap.size, 0, none⟩) :: .pointer (some ⟨w.heap.size + 1, 0, none⟩) :: .pointer (some ⟨w.heap.size + 1 + 1, 0, none⟩) :: .pointer (some ⟨w.heap.size + 1 + 1 + 1, 0, none⟩) :: v5 :: v6 :: v7 :: v8 :: v9 :: v10 :: v11 :: v12 :: v13 :: v14 :: u15 :: u16 :: u17 :: u18 :: u19 :: u20 :: u21 :: u22 :: u23 :: u24 :: .bool false :: u26 :: u27 :: u28 :: u29 :: u30 :: u31 :: u32 :: u33 :: u34 :: .bool false :: v36 :: v37 :: v38 :: v39 :: v40 :: v41 :: v42 :: v43 :: v44 :: v45 :: v46 :: v47 :: v48 :: v49 :: v50 :: v51 :: v52 :: v53 :: v54 :: v55 :: v56 :: v57 :: v58 :: v59 :: v60 :: v61 :: v62 :: v63 :: v64 :: v65 :: v66 :: v67 :: v68 :: v69 :: v70 :: v71 :: v72 :: v73 :: v74 :: v75 :: v76 :: v77 :: v78 :: v79 :: v80 :: v81 :: v82 :: v83 :: v84 :: v85 :: v86 :: v87 :: v88 :: v89 :: v90 :: v91 :: v92 :: v93 :: v94 :: v95 :: v96 :: v97 :: v98 :: v99 :: v100 :: v101 :: v102 :: v103 :: v104 :: v105 :: v106 :: v107 :: v108 :: v109 :: v110 :: v111 :: v112 :: v113 :: v114 :: v115 :: v116 :: v117 :: v118 :: v119 :: v120 :: v121 :: v122 :: v123 :: v124 :: v125 :: v126 :: v127 :: v128 :: v129 :: v130 :: v131 :: v132 :: v133 :: v134 :: v135 :: v136 :: v137 :: v138 :: v139 :: v140 :: v141 :: v142 :: v143 :: v144 :: v145 :: v146 :: v147 :: v148 :: v149 :: v150 :: v151 :: v152 :: v153 :: v154 :: v155 :: []), []⟩ ∧ Frm [] X w') ?_ (fun hGo => ?_)
  rotate_left
  · refine take_in (i := 11) (d := 26) (v := .agg #[.int .i64 1, .int .i64 1, .int .i64 5, .int .u64 0, .int .u64 0, .bool true, .bool false]) rfl rfl (by kernel_rfl) (by kernel_rfl) (by kernel_rfl) (fun _ _ _ h => h) (by kernel_rfl) (fun w' hS => by obtain ⟨x0, x1, x2, x3, x4, x5, x6⟩ := cells7 (HK.out.frm0 hS).b; go_simp) (by assumption) ?_
    try simp only [Act.put, List.setIfInBounds_toArray, List.set_cons_zero, List.set_cons_succ]
    refine take_in (i := 12) (d := 27) (v := .agg #[.int .i64 1, .int .i64 1, .int .i64 5, .int .u64 0, .int .u64 0, .bool true, .bool false]) rfl rfl (by kernel_rfl) (by kernel_rfl) (by kernel_rfl) (fun _ _ _ h => h) (by kernel_rfl) (fun w' hS => by obtain ⟨x0, x1, x2, x3, x4, x5, x6⟩ := cells7 (HK.out.frm0 hS).b; go_simp) (by assumption) ?_
    try simp only [Act.put, List.setIfInBounds_toArray, List.set_cons_zero, List.set_cons_succ]
    refine take_in (i := 15) (d := 30) (v := .agg #[.int .i64 1, .int .i64 5, .int .i64 0, .int .i64 (-1), .int .i64 (-1)]) rfl rfl (by kernel_rfl) (by kernel_rfl) (by kernel_rfl) (fun _ _ _ h => h) (by kernel_rfl) (fun w' hS => by obtain ⟨x0, x1, x2, x3, x4⟩ := cells5 (HK.out.frm0 hS).o; go_simp) (by assumption) ?_
    try simp only [Act.put, List.setIfInBounds_toArray, List.set_cons_zero, List.set_cons_succ]
    refine wpAnyH_ready (rs := [13, 16]) (by kernel_rfl) (by simp) ?_
    refine AllReadyH.cons rfl (fun K hK => ?_) (AllReadyH.cons rfl (fun K hK => ?_) AllReadyH.nil)
    · go_simp
      obtain ⟨U11, hU11⟩ : ∃ U11, U11 = U0g.alloc (.cells #[.int .i64 1, .int .i64 1, .int .i64 5, .int .u64 0, .int .u64 0, .bool true, .bool false, .int .i64 1, .int .i64 1, .int .i64 5, .int .u64 0, .int .u64 0, .bool true, .bool false] 40) := ⟨_, rfl⟩
      have f11 : Frm [] U0g U11 := by rw [hU11]; exact (Frm.refl [] _).alloc _
      have dl11 : DL U11 (some ⟨U0g.heap.size, 0, none⟩) 2 2 U0g.heap.size 0 [kdB, kdB] := by rw [hU11]; exact dl_new rfl (heap_alloc_new _ _)
      have fr11 : Frm [] X U11 := frU0g.trans f11
      first | rw [← hU11] | (change K _ (U0g.alloc (.cells #[.int .i64 1, .int .i64 1, .int .i64 5, .int .u64 0, .int .u64 0, .bool true, .bool false, .int .i64 1, .int .i64 1, .int .i64 5, .int .u64 0, .int .u64 0, .bool true, .bool false] 40)); rw [← hU11])
      clear hU11
      refine hK.out _ _ (by exact fr11) (fun hHeld => ?_)
      clear hK K
      try change wpAnyH _ _ _ _ _ _ _ (Act.put _ (some 28) _) _
      try simp only [Act.put, List.setIfInBounds_toArray, List.set_cons_zero, List.set_cons_succ]
      refine wpAnyH_ready (rs := [14, 16]) (by kernel_rfl) (by simp) ?_
      refine AllReadyH.cons rfl (fun K hK => ?_) (AllReadyH.cons rfl (fun K hK => ?_) AllReadyH.nil)
      · go_simp
        go_at_call 33
        refine (list_any _ _ _ _).mono ?_
        rintro e1 x1 ⟨rfl, rfl⟩
        refine hK.out _ _ (by exact fr11) (fun hHeld => ?_)
        clear hK K
        try change wpAnyH _ _ _ _ _ _ _ (Act.put _ (some 29) _) _
        try simp only [Act.put, List.setIfInBounds_toArray, List.set_cons_zero, List.set_cons_succ]
        refine wpAnyH_ready (rs := [16]) (by kernel_rfl) (by simp) ?_
        refine AllReadyH.cons rfl (fun K hK => ?_) AllReadyH.nil
        go_simp
        obtain ⟨U12, hU12⟩ : ∃ U12, U12 = U11.alloc (.cells #[.int .i64 1, .int .i64 5, .int .i64 0, .int .i64 (-1), .int .i64 (-1)] 52) := ⟨_, rfl⟩
        have f12 : Frm [] U11 U12 := by rw [hU12]; exact (Frm.refl [] _).alloc _
        have wd12 : Gr 52 5 0 U12 (some ⟨U11.heap.size, 0, none⟩) 1 1 (wdF [⟨1, 5, 0, -1, -1⟩]) := by rw [hU12]; exact gr_wd1 (heap_alloc_new _ _)
        have dl12 := dl11.frm0 f12
        have fr12 : Frm [] X U12 := fr11.trans f12
        first | rw [← hU12] | (change K _ (U11.alloc (.cells #[.int .i64 1, .int .i64 5, .int .i64 0, .int .i64 (-1), .int .i64 (-1)] 52)); rw [← hU12])
        clear hU12
        refine hK.out _ _ (by exact fr12) (fun hHeld => ?_)
        clear hK K
        try change wpAnyH _ _ _ _ _ _ _ (Act.put _ (some 31) _) _
        try simp only [Act.put, List.setIfInBounds_toArray, List.set_cons_zero, List.set_cons_succ]
        refine wpAnyH_ready (rs := [17]) (by kernel_rfl) (by simp) ?_
        refine AllReadyH.cons rfl (fun K hK => ?_) AllReadyH.nil
        go_simp
        go_at_call 11
        refine (lwaits_any dl12 (kd_ok _ (by decide)) (L := [⟨1, 5, 0, -1, -1⟩]) (e0 := 0) (by kernel_rfl) rfl (by decide) wd12).mono ?_
        rintro e13 U13 ⟨rfl, f13⟩
        have fr13 : Frm [] X U13 := fr12.trans f13
        refine hK.out _ _ (by exact fr13) (fun hHeld => ?_)
        clear hK K
        try change wpAnyH _ _ _ _ _ _ _ (Act.put _ (some 32) _) _
        try simp only [Act.put, List.setIfInBounds_toArray, List.set_cons_zero, List.set_cons_succ]
        refine take_in (i := 18) (d := 33) (v := .bool false) rfl rfl (by kernel_rfl) (by kernel_rfl) (by kernel_rfl) (fun _ _ _ h => h) (by kernel_rfl) (fun _ _ => rfl) (by assumption) ?_
        try simp only [Act.put, List.setIfInBounds_toArray, List.set_cons_zero, List.set_cons_succ]
        refine take_in (i := 19) (d := 34) (v := .bool false) rfl rfl (by kernel_rfl) (by kernel_rfl) (by kernel_rfl) (fun _ _ _ h => h) (by kernel_rfl) (fun _ _ => rfl) (by assumption) ?_
        try simp only [Act.put, List.setIfInBounds_toArray, List.set_cons_zero, List.set_cons_succ]
        refine take_in (i := 20) (d := 35) (v := .bool false) rfl rfl (by kernel_rfl) (by kernel_rfl) (by kernel_rfl) (fun _ _ _ h => h) (by kernel_rfl) (fun _ _ => rfl) (by assumption) ?_
        try simp only [Act.put, List.setIfInBounds_toArray, List.set_cons_zero, List.set_cons_succ]
        exact wpAnyH_cast #[true, true, true, true, true, true, true, true, true, true, true, true, true, true, true, true, true, true, true, true, true, false, false, false, false, false, false, false, false, false, false, false, false, false, false, false, false, false] (by kernel_rfl) (hGo.out _ _ ⟨_, _, _, _, _, _, _, _, _, rfl, fr13⟩)
      · go_simp
        obtain ⟨U12, hU12⟩ : ∃ U12, U12 = U11.alloc (.cells #[.int .i64 1, .int .i64 5, .int .i64 0, .int .i64 (-1), .int .i64 (-1)] 52) := ⟨_, rfl⟩
        have f12 : Frm [] U11 U12 := by rw [hU12]; exact (Frm.refl [] _).alloc _
        have wd12 : Gr 52 5 0 U12 (some ⟨U11.heap.size, 0, none⟩) 1 1 (wdF [⟨1, 5, 0, -1, -1⟩]) := by rw [hU12]; exact gr_wd1 (heap_alloc_new _ _)
        have dl12 := dl11.frm0 f12
        have fr12 : Frm [] X U12 := fr11.trans f12
        first | rw [← hU12] | (change K _ (U11.alloc (.cells #[.int .i64 1, .int .i64 5, .int .i64 0, .int .i64 (-1), .int .i64 (-1)] 52)); rw [← hU12])
        clear hU12
        refine hK.out _ _ (by exact fr12) (fun hHeld => ?_)
        clear hK K
        try change wpAnyH _ _ _ _ _ _ _ (Act.put _ (some 31) _) _
        try simp only [Act.put, List.setIfInBounds_toArray, List.set_cons_zero, List.set_cons_succ]
        refine wpAnyH_ready (rs := [14]) (by kernel_rfl) (by simp) ?_
        refine AllReadyH.cons rfl (fun K hK => ?_) AllReadyH.nil
        go_simp
        go_at_call 33
        refine (list_any _ _ _ _).mono ?_
        rintro e1 x1 ⟨rfl, rfl⟩
        refine hK.out _ _ (by exact fr12) (fun hHeld => ?_)
        clear hK K
        try change wpAnyH _ _ _ _ _ _ _ (Act.put _ (some 29) _) _
        try simp only [Act.put, List.setIfInBounds_toArray, List.set_cons_zero, List.set_cons_succ]
        refine wpAnyH_ready (rs := [17]) (by kernel_rfl) (by simp) ?_
        refine AllReadyH.cons rfl (fun K hK => ?_) AllReadyH.nil
        go_simp
        go_at_call 11
        refine (lwaits_any dl12 (kd_ok _ (by decide)) (L := [⟨1, 5, 0, -1, -1⟩]) (e0 := 0) (by kernel_rfl) rfl (by decide) wd12).mono ?_
        rintro e13 U13 ⟨rfl, f13⟩
        have fr13 : Frm [] X U13 := fr12.trans f13
        refine hK.out _ _ (by exact fr13) (fun hHeld => ?_)
        clear hK K
        try change wpAnyH _ _ _ _ _ _ _ (Act.put _ (some 32) _) _
        try simp only [Act.put, List.setIfInBounds_toArray, List.set_cons_zero, List.set_cons_succ]
        refine take_in (i := 18) (d := 33) (v := .bool false) rfl rfl (by kernel_rfl) (by kernel_rfl) (by kernel_rfl) (fun _ _ _ h => h) (by kernel_rfl) (fun _ _ => rfl) (by assumption) ?_
        try simp only [Act.put, List.setIfInBounds_toArray, List.set_cons_zero, List.set_cons_succ]
        refine take_in (i := 19) (d := 34) (v := .bool false) rfl rfl (by kernel_rfl) (by kernel_rfl) (by kernel_rfl) (fun _ _ _ h => h) (by kernel_rfl) (fun _ _ => rfl) (by assumption) ?_
        try simp only [Act.put, List.setIfInBounds_toArray, List.set_cons_zero, List.set_cons_succ]
        refine take_in (i := 20) (d := 35) (v := .bool false) rfl rfl (by kernel_rfl) (by kernel_rfl) (by kernel_rfl) (fun _ _ _ h => h) (by kernel_rfl) (fun _ _ => rfl) (by assumption) ?_
        try simp only [Act.put, List.setIfInBounds_toArray, List.set_cons_zero, List.set_cons_succ]
        exact wpAnyH_cast #[true, true, true, true, true, true, true, true, true, true, true, true, true, true, true, true, true, true, true, true, true, false, false, false, false, false, false, false, false, false, false, false, false, false, false, false, false, false] (by kernel_rfl) (hGo.out _ _ ⟨_, _, _, _, _, _, _, _, _, rfl, fr13⟩)
    · go_simp
      obtain ⟨U11, hU11⟩ : ∃ U11, U11 = U0g.alloc (.cells #[.int .i64 1, .int .i64 5, .int .i64 0, .int .i64 (-1), .int .i64 (-1)] 52) := ⟨_, rfl⟩
      have f11 : Frm [] U0g U11 := by rw [hU11]; exact (Frm.refl [] _).alloc _
      have wd11 : Gr 52 5 0 U11 (some ⟨U0g.heap.size, 0, none⟩) 1 1 (wdF [⟨1, 5, 0, -1, -1⟩]) := by rw [hU11]; exact gr_wd1 (heap_alloc_new _ _)
      have fr11 : Frm [] X U11 := frU0g.trans f11
      first | rw [← hU11] | (change K _ (U0g.alloc (.cells #[.int .i64 1, .int .i64 5, .int .i64 0, .int .i64 (-1), .int .i64 (-1)] 52)); rw [← hU11])
      clear hU11
      refine hK.out _ _ (by exact fr11) (fun hHeld => ?_)
      clear hK K
      try change wpAnyH _ _ _ _ _ _ _ (Act.put _ (some 31) _) _
      try simp only [Act.put, List.setIfInBounds_toArray, List.set_cons_zero, List.set_cons_succ]
      refine wpAnyH_ready (rs := [13]) (by kernel_rfl) (by simp) ?_
      refine AllReadyH.cons rfl (fun K hK => ?_) AllReadyH.nil
      go_simp
      obtain ⟨U12, hU12⟩ : ∃ U12, U12 = U11.alloc (.cells #[.int .i64 1, .int .i64 1, .int .i64 5, .int .u64 0, .int .u64 0, .bool true, .bool false, .int .i64 1, .int .i64 1, .int .i64 5, .int .u64 0, .int .u64 0, .bool true, .bool false] 40) := ⟨_, rfl⟩
      have f12 : Frm [] U11 U12 := by rw [hU12]; exact (Frm.refl [] _).alloc _
      have dl12 : DL U12 (some ⟨U11.heap.size, 0, none⟩) 2 2 U11.heap.size 0 [kdB, kdB] := by rw [hU12]; exact dl_new rfl (heap_alloc_new _ _)
      have wd12 := wd11.frm0 f12
      have fr12 : Frm [] X U12 := fr11.trans f12
      first | rw [← hU12] | (change K _ (U11.alloc (.cells #[.int .i64 1, .int .i64 1, .int .i64 5, .int .u64 0, .int .u64 0, .bool true, .bool false, .int .i64 1, .int .i64 1, .int .i64 5, .int .u64 0, .int .u64 0, .bool true, .bool false] 40)); rw [← hU12])
      clear hU12
      refine hK.out _ _ (by exact fr12) (fun hHeld => ?_)
      clear hK K
      try change wpAnyH _ _ _ _ _ _ _ (Act.put _ (some 28) _) _
      try simp only [Act.put, List.setIfInBounds_toArray, List.set_cons_zero, List.set_cons_succ]
      refine wpAnyH_ready (rs := [14]) (by kernel_rfl) (by simp) ?_
      refine AllReadyH.cons rfl (fun K hK => ?_) AllReadyH.nil
      go_simp
      go_at_call 33
      refine (list_any _ _ _ _).mono ?_
      rintro e1 x1 ⟨rfl, rfl⟩
      refine hK.out _ _ (by exact fr12) (fun hHeld => ?_)
      clear hK K
      try change wpAnyH _ _ _ _ _ _ _ (Act.put _ (some 29) _) _
      try simp only [Act.put, List.setIfInBounds_toArray, List.set_cons_zero, List.set_cons_succ]
      refine wpAnyH_ready (rs := [17]) (by kernel_rfl) (by simp) ?_
      refine AllReadyH.cons rfl (fun K hK => ?_) AllReadyH.nil
      go_simp
      go_at_call 11
      refine (lwaits_any dl12 (kd_ok _ (by decide)) (L := [⟨1, 5, 0, -1, -1⟩]) (e0 := 0) (by kernel_rfl) rfl (by decide) wd12).mono ?_
      rintro e13 U13 ⟨rfl, f13⟩
      have fr13 : Frm [] X U13 := fr12.trans f13
      refine hK.out _ _ (by exact fr13) (fun hHeld => ?_)
      clear hK K
      try change wpAnyH _ _ _ _ _ _ _ (Act.put _ (some 32) _) _
      try simp only [Act.put, List.setIfInBounds_toArray, List.set_cons_zero, List.set_cons_succ]
      refine take_in (i := 18) (d := 33) (v := .bool false) rfl rfl (by kernel_rfl) (by kernel_rfl) (by kernel_rfl) (fun _ _ _ h => h) (by kernel_rfl) (fun _ _ => rfl) (by assumption) ?_
      try simp only [Act.put, List.setIfInBounds_toArray, List.set_cons_zero, List.set_cons_succ]
      refine take_in (i := 19) (d := 34) (v := .bool false) rfl rfl (by kernel_rfl) (by kernel_rfl) (by kernel_rfl) (fun _ _ _ h => h) (by kernel_rfl) (fun _ _ => rfl) (by assumption) ?_
      try simp only [Act.put, List.setIfInBounds_toArray, List.set_cons_zero, List.set_cons_succ]
      refine take_in (i := 20) (d := 35) (v := .bool false) rfl rfl (by kernel_rfl) (by kernel_rfl) (by kernel_rfl) (fun _ _ _ h => h) (by kernel_rfl) (fun _ _ => rfl) (by assumption) ?_
      try simp only [Act.put, List.setIfInBounds_toArray, List.set_cons_zero, List.set_cons_succ]
      exact wpAnyH_cast #[true, true, true, true, true, true, true, true, true, true, true, true, true, true, true, true, true, true, true, true, true, false, false, false, false, false, false, false, false, false, false, false, false, false, false, false, false, false] (by kernel_rfl) (hGo.out _ _ ⟨_, _, _, _, _, _, _, _, _, rfl, fr13⟩)
  rintro _ U1g ⟨u26, u27, u28, u29, u30, u31, u32, u33, u34, rfl, frU1g⟩
  refine wpAnyH_via 9 #[true, true, true, true, true, true, true, true, true, true, true, true, true, true, true, true, true, true, true, true, true, true, true, true, true, true, true, true, true, false, false, false, false, false, false, false, false, false] (fun a' w' => ∃ (u36 u37 u38 u39 u40 u41 u42 : Value), a' = ⟨List.toArray (.bool false :: .pointer (some ⟨w.heap.size, 0, none⟩) :: .pointer (some ⟨w.heap.size + 1, 0, none⟩) :: .pointer (some ⟨w.heap.size + 1 + 1, 0, none⟩) :: .pointer (some ⟨w.heap.size + 1 + 1 + 1, 0, none⟩) :: v5 :: v6 :: v7 :: v8 :: v9 :: v10 :: v11 :: v12 :: v13 :: v14 :: u15 :: u16 :: u17 :: u18 :: u19 :: u20 :: u21 :: u22 :: u23 :: u24 :: .bool false :: u26 :: u27 :: u28 :: u29 :: u30 :: u31 :: u32 :: u33 :: u34 :: .bool false :: u36 :: u37 :: u38 :: u39 :: u40 :: u41 :: u42 :: .bool false :: v44 :: v45 :: v46 :: v47 :: v48 :: v49 :: v50 :: v51 :: v52 :: v53 :: v54 :: v55 :: v56 :: v57 :: v58 :: v59 :: v60 :: v61 :: v62 :: v63 :: v64 :: v65 :: v66 :: v67 :: v68 :: v69 :: v70 :: v71 :: v72 :: v73 :: v74 :: v75 :: v76 :: v77 :: v78 :: v79 :: v80 :: v81 :: v82 :: v83 :: v84 :: v85 :: v86 :: v87 :: v88 :: v89 :: v90 :: v91 :: v92 :: v93 :: v94 :: v95 :: v96 :: v97 :: v98 :: v99 :: v100 :: v101 :: v102 :: v103 :: v104 :: v105 :: v106 :: v107 :: v108 :: v109 :: v110 :: v111 :: v112 :: v113 :: v114 :: v115 :: v116 :: v117 :: v118 :: v119 :: v120 :: v121 :: v122 :: v123 :: v124 :: v125 :: v126 :: v127 :: v128 :: v129 :: v130 :: v131 :: v132 :: v133 :: v134 :: v135 :: v136 :: v137 :: v138 :: v139 :: v140 :: v141 :: v142 :: v143 :: v144 :: v145 :: v146 :: v147 :: v148 :: v149 :: v150 :: v151 :: v152 :: v153 :: v154 :: v155 :: []), []⟩ ∧ Frm [] X w') ?_ (fun hGo => ?_)
  rotate_left
  · refine take_in (i := 21) (d := 36) (v := .agg #[.int .i64 0, .int .i64 2, .int .i64 5, .int .u64 0, .int .u64 1, .bool false, .bool false]) rfl rfl (by kernel_rfl) (by kernel_rfl) (by kernel_rfl) (fun _ _ _ h => h) (by kernel_rfl) (fun w' hS => by obtain ⟨x0, x1, x2, x3, x4, x5, x6⟩ := cells7 (HK.out.frm0 hS).a; go_simp) (by assumption) ?_
    try simp only [Act.put, List.setIfInBounds_toArray, List.set_cons_zero, List.set_cons_succ]
    refine take_in (i := 22) (d := 37) (v := .agg #[.int .i64 1, .int .i64 1, .int .i64 5, .int .u64 1, .int .u64 1, .bool false, .bool false]) rfl rfl (by kernel_rfl) (by kernel_rfl) (by kernel_rfl) (fun _ _ _ h => h) (by kernel_rfl) (fun w' hS => by obtain ⟨x0, x1, x2, x3, x4, x5, x6⟩ := cells7 (HK.out.frm0 hS).c; go_simp) (by assumption) ?_
    try simp only [Act.put, List.setIfInBounds_toArray, List.set_cons_zero, List.set_cons_succ]
    refine wpAnyH_ready (rs := [23]) (by kernel_rfl) (by simp) ?_
    refine AllReadyH.cons rfl (fun K hK => ?_) AllReadyH.nil
    go_simp
    obtain ⟨U21, hU21⟩ : ∃ U21, U21 = U1g.alloc (.cells #[.int .i64 0, .int .i64 2, .int .i64 5, .int .u64 0, .int .u64 1, .bool false, .bool false, .int .i64 1, .int .i64 1, .int .i64 5, .int .u64 1, .int .u64 1, .bool false, .bool false] 40) := ⟨_, rfl⟩
    have f21 : Frm [] U1g U21 := by rw [hU21]; exact (Frm.refl [] _).alloc _
    have dl21 : DL U21 (some ⟨U1g.heap.size, 0, none⟩) 2 2 U1g.heap.size 0 [kdA, kdC] := by rw [hU21]; exact dl_new rfl (heap_alloc_new _ _)
    have fr21 : Frm [] X U21 := frU1g.trans f21
    first | rw [← hU21] | (change K _ (U1g.alloc (.cells #[.int .i64 0, .int .i64 2, .int .i64 5, .int .u64 0, .int .u64 1, .bool false, .bool false, .int .i64 1, .int .i64 1, .int .i64 5, .int .u64 1, .int .u64 1, .bool false, .bool false] 40)); rw [← hU21])
    clear hU21
    refine hK.out _ _ (by exact fr21) (fun hHeld => ?_)
    clear hK K
    try change wpAnyH _ _ _ _ _ _ _ (Act.put _ (some 38) _) _
    try simp only [Act.put, List.setIfInBounds_toArray, List.set_cons_zero, List.set_cons_succ]
    refine wpAnyH_ready (rs := [24]) (by kernel_rfl) (by simp) ?_
    refine AllReadyH.cons rfl (fun K hK => ?_) AllReadyH.nil
    go_simp
    go_at_call 33
    refine (list_any _ _ _ _).mono ?_
    rintro e1 x1 ⟨rfl, rfl⟩
    refine hK.out _ _ (by exact fr21) (fun hHeld => ?_)
    clear hK K
    try change wpAnyH _ _ _ _ _ _ _ (Act.put _ (some 39) _) _
    try simp only [Act.put, List.setIfInBounds_toArray, List.set_cons_zero, List.set_cons_succ]
    refine wpAnyH_ready (rs := [25]) (by kernel_rfl) (by simp) ?_
    refine AllReadyH.cons rfl (fun K hK => ?_) AllReadyH.nil
    go_simp
    go_at_call 11
    refine (lwaits_any dl21 (kd_ok _ (by decide)) (L := []) (e0 := 0) (m := 0) (by kernel_rfl) rfl (by decide) (Gr.nil _ _ 0 _ _)).mono ?_
    rintro e22 U22 ⟨rfl, f22⟩
    have fr22 : Frm [] X U22 := fr21.trans f22
    refine hK.out _ _ (by exact fr22) (fun hHeld => ?_)
    clear hK K
    try change wpAnyH _ _ _ _ _ _ _ (Act.put _ (some 40) _) _
    try simp only [Act.put, List.setIfInBounds_toArray, List.set_cons_zero, List.set_cons_succ]
    refine take_in (i := 26) (d := 41) (v := .bool false) rfl rfl (by kernel_rfl) (by kernel_rfl) (by kernel_rfl) (fun _ _ _ h => h) (by kernel_rfl) (fun _ _ => rfl) (by assumption) ?_
    try simp only [Act.put, List.setIfInBounds_toArray, List.set_cons_zero, List.set_cons_succ]
    refine take_in (i := 27) (d := 42) (v := .bool false) rfl rfl (by kernel_rfl) (by kernel_rfl) (by kernel_rfl) (fun _ _ _ h => h) (by kernel_rfl) (fun _ _ => rfl) (by assumption) ?_
    try simp only [Act.put, List.setIfInBounds_toArray, List.set_cons_zero, List.set_cons_succ]
    refine take_in (i := 28) (d := 43) (v := .bool false) rfl rfl (by kernel_rfl) (by kernel_rfl) (by kernel_rfl) (fun _ _ _ h => h) (by kernel_rfl) (fun _ _ => rfl) (by assumption) ?_
    try simp only [Act.put, List.setIfInBounds_toArray, List.set_cons_zero, List.set_cons_succ]
    exact wpAnyH_cast #[true, true, true, true, true, true, true, true, true, true, true, true, true, true, true, true, true, true, true, true, true, true, true, true, true, true, true, true, true, false, false, false, false, false, false, false, false, false] (by kernel_rfl) (hGo.out _ _ ⟨_, _, _, _, _, _, _, rfl, fr22⟩)
  rintro _ U2g ⟨u36, u37, u38, u39, u40, u41, u42, rfl, frU2g⟩
  refine wpAnyH_via 0 #[true, true, true, true, true, true, true, true, true, true, true, true, true, true, true, true, true, true, true, true, true, true, true, true, true, true, true, true, true, true, true, true, true, true, true, true, true, true] (fun a' w' => ∃ (u44 u45 u46 u47 u48 u49 u50 u51 : Value), a' = ⟨List.toArray (.bool false :: .pointer (some ⟨w.heap.size, 0, none⟩) :: .pointer (some ⟨w.heap.size + 1, 0, none⟩) :: .pointer (some ⟨w.heap.size + 1 + 1, 0, none⟩) :: .pointer (some ⟨w.heap.size + 1 + 1 + 1, 0, none⟩) :: v5 :: v6 :: v7 :: v8 :: v9 :: v10 :: v11 :: v12 :: v13 :: v14 :: u15 :: u16 :: u17 :: u18 :: u19 :: u20 :: u21 :: u22 :: u23 :: u24 :: .bool false :: u26 :: u27 :: u28 :: u29 :: u30 :: u31 :: u32 :: u33 :: u34 :: .bool false :: u36 :: u37 :: u38 :: u39 :: u40 :: u41 :: u42 :: .bool false :: u44 :: u45 :: u46 :: u47 :: u48 :: u49 :: u50 :: u51 :: .bool false :: v53 :: v54 :: v55 :: v56 :: v57 :: v58 :: v59 :: v60 :: v61 :: v62 :: v63 :: v64 :: v65 :: v66 :: v67 :: v68 :: v69 :: v70 :: v71 :: v72 :: v73 :: v74 :: v75 :: v76 :: v77 :: v78 :: v79 :: v80 :: v81 :: v82 :: v83 :: v84 :: v85 :: v86 :: v87 :: v88 :: v89 :: v90 :: v91 :: v92 :: v93 :: v94 :: v95 :: v96 :: v97 :: v98 :: v99 :: v100 :: v101 :: v102 :: v103 :: v104 :: v105 :: v106 :: v107 :: v108 :: v109 :: v110 :: v111 :: v112 :: v113 :: v114 :: v115 :: v116 :: v117 :: v118 :: v119 :: v120 :: v121 :: v122 :: v123 :: v124 :: v125 :: v126 :: v127 :: v128 :: v129 :: v130 :: v131 :: v132 :: v133 :: v134 :: v135 :: v136 :: v137 :: v138 :: v139 :: v140 :: v141 :: v142 :: v143 :: v144 :: v145 :: v146 :: v147 :: v148 :: v149 :: v150 :: v151 :: v152 :: v153 :: v154 :: v155 :: []), []⟩ ∧ Frm [] X w') ?_ (fun hGo => ?_)
  rotate_left
  · refine take_in (i := 29) (d := 44) (v := .agg #[.int .i64 1, .int .i64 1, .int .i64 5, .int .u64 0, .int .u64 0, .bool true, .bool false]) rfl rfl (by kernel_rfl) (by kernel_rfl) (by kernel_rfl) (fun _ _ _ h => h) (by kernel_rfl) (fun w' hS => by obtain ⟨x0, x1, x2, x3, x4, x5, x6⟩ := cells7 (HK.out.frm0 hS).b; go_simp) (by assumption) ?_
    try simp only [Act.put, List.setIfInBounds_toArray, List.set_cons_zero, List.set_cons_succ]
    refine take_in (i := 30) (d := 45) (v := .agg #[.int .i64 1, .int .i64 1, .int .i64 5, .int .u64 1, .int .u64 1, .bool false, .bool false]) rfl rfl (by kernel_rfl) (by kernel_rfl) (by kernel_rfl) (fun _ _ _ h => h) (by kernel_rfl) (fun w' hS => by obtain ⟨x0, x1, x2, x3, x4, x5, x6⟩ := cells7 (HK.out.frm0 hS).c; go_simp) (by assumption) ?_
    try simp only [Act.put, List.setIfInBounds_toArray, List.set_cons_zero, List.set_cons_succ]
    refine take_in (i := 33) (d := 48) (v := .agg #[.int .i64 1, .int .i64 5, .int .i64 0, .int .i64 (-1), .int .i64 (-1)]) rfl rfl (by kernel_rfl) (by kernel_rfl) (by kernel_rfl) (fun _ _ _ h => h) (by kernel_rfl) (fun w' hS => by obtain ⟨x0, x1, x2, x3, x4⟩ := cells5 (HK.out.frm0 hS).o; go_simp) (by assumption) ?_
    try simp only [Act.put, List.setIfInBounds_toArray, List.set_cons_zero, List.set_cons_succ]
    refine wpAnyH_ready (rs := [31, 34]) (by kernel_rfl) (by simp) ?_
    refine AllReadyH.cons rfl (fun K hK => ?_) (AllReadyH.cons rfl (fun K hK => ?_) AllReadyH.nil)
    · go_simp
      obtain ⟨U31, hU31⟩ : ∃ U31, U31 = U2g.alloc (.cells #[.int .i64 1, .int .i64 1, .int .i64 5, .int .u64 0, .int .u64 0, .bool true, .bool false, .int .i64 1, .int .i64 1, .int .i64 5, .int .u64 1, .int .u64 1, .bool false, .bool false] 40) := ⟨_, rfl⟩
      have f31 : Frm [] U2g U31 := by rw [hU31]; exact (Frm.refl [] _).alloc _
      have dl31 : DL U31 (some ⟨U2g.heap.size, 0, none⟩) 2 2 U2g.heap.size 0 [kdB, kdC] := by rw [hU31]; exact dl_new rfl (heap_alloc_new _ _)
      have fr31 : Frm [] X U31 := frU2g.trans f31
      first | rw [← hU31] | (change K _ (U2g.alloc (.cells #[.int .i64 1, .int .i64 1, .int .i64 5, .int .u64 0, .int .u64 0, .bool true, .bool false, .int .i64 1, .int .i64 1, .int .i64 5, .int .u64 1, .int .u64 1, .bool false, .bool false] 40)); rw [← hU31])
      clear hU31
      refine hK.out _ _ (by exact fr31) (fun hHeld => ?_)
      clear hK K
      try change wpAnyH _ _ _ _ _ _ _ (Act.put _ (some 46) _) _
      try simp only [Act.put, List.setIfInBounds_toArray, List.set_cons_zero, List.set_cons_succ]
      refine wpAnyH_ready (rs := [32, 34]) (by kernel_rfl) (by simp) ?_
      refine AllReadyH.cons rfl (fun K hK => ?_) (AllReadyH.cons rfl (fun K hK => ?_) AllReadyH.nil)
      · go_simp
        go_at_call 33
        refine (list_any _ _ _ _).mono ?_
        rintro e1 x1 ⟨rfl, rfl⟩
        refine hK.out _ _ (by exact fr31) (fun hHeld => ?_)
        clear hK K
        try change wpAnyH _ _ _ _ _ _ _ (Act.put _ (some 47) _) _
        try simp only [Act.put, List.setIfInBounds_toArray, List.set_cons_zero, List.set_cons_succ]
        refine wpAnyH_ready (rs := [34]) (by kernel_rfl) (by simp) ?_
        refine AllReadyH.cons rfl (fun K hK => ?_) AllReadyH.nil
        go_simp
        obtain ⟨U32, hU32⟩ : ∃ U32, U32 = U31.alloc (.cells #[.int .i64 1, .int .i64 5, .int .i64 0, .int .i64 (-1), .int .i64 (-1)] 52) := ⟨_, rfl⟩
        have f32 : Frm [] U31 U32 := by rw [hU32]; exact (Frm.refl [] _).alloc _
        have wd32 : Gr 52 5 0 U32 (some ⟨U31.heap.size, 0, none⟩) 1 1 (wdF [⟨1, 5, 0, -1, -1⟩]) := by rw [hU32]; exact gr_wd1 (heap_alloc_new _ _)
        have dl32 := dl31.frm0 f32
        have fr32 : Frm [] X U32 := fr31.trans f32
        first | rw [← hU32] | (change K _ (U31.alloc (.cells #[.int .i64 1, .int .i64 5, .int .i64 0, .int .i64 (-1), .int .i64 (-1)] 52)); rw [← hU32])
        clear hU32
        refine hK.out _ _ (by exact fr32) (fun hHeld => ?_)
        clear hK K
        try change wpAnyH _ _ _ _ _ _ _ (Act.put _ (some 49) _) _
        try simp only [Act.put, List.setIfInBounds_toArray, List.set_cons_zero, List.set_cons_succ]
        refine wpAnyH_ready (rs := [35]) (by kernel_rfl) (by simp) ?_
        refine AllReadyH.cons rfl (fun K hK => ?_) AllReadyH.nil
        go_simp
        go_at_call 11
        refine (lwaits_any dl32 (kd_ok _ (by decide)) (L := [⟨1, 5, 0, -1, -1⟩]) (e0 := 0) (by kernel_rfl) rfl (by decide) wd32).mono ?_
        rintro e33 U33 ⟨rfl, f33⟩
        have fr33 : Frm [] X U33 := fr32.trans f33
        refine hK.out _ _ (by exact fr33) (fun hHeld => ?_)
        clear hK K
        try change wpAnyH _ _ _ _ _ _ _ (Act.put _ (some 50) _) _
        try simp only [Act.put, List.setIfInBounds_toArray, List.set_cons_zero, List.set_cons_succ]
        refine take_in (i := 36) (d := 51) (v := .bool false) rfl rfl (by kernel_rfl) (by kernel_rfl) (by kernel_rfl) (fun _ _ _ h => h) (by kernel_rfl) (fun _ _ => rfl) (by assumption) ?_
        try simp only [Act.put, List.setIfInBounds_toArray, List.set_cons_zero, List.set_cons_succ]
        refine take_in (i := 37) (d := 52) (v := .bool false) rfl rfl (by kernel_rfl) (by kernel_rfl) (by kernel_rfl) (fun _ _ _ h => h) (by kernel_rfl) (fun _ _ => rfl) (by assumption) ?_
        try simp only [Act.put, List.setIfInBounds_toArray, List.set_cons_zero, List.set_cons_succ]
        exact wpAnyH_cast #[true, true, true, true, true, true, true, true, true, true, true, true, true, true, true, true, true, true, true, true, true, true, true, true, true, true, true, true, true, true, true, true, true, true, true, true, true, true] (by kernel_rfl) (hGo.out _ _ ⟨_, _, _, _, _, _, _, _, rfl, fr33⟩)
      · go_simp
        obtain ⟨U32, hU32⟩ : ∃ U32, U32 = U31.alloc (.cells #[.int .i64 1, .int .i64 5, .int .i64 0, .int .i64 (-1), .int .i64 (-1)] 52) := ⟨_, rfl⟩
        have f32 : Frm [] U31 U32 := by rw [hU32]; exact (Frm.refl [] _).alloc _
        have wd32 : Gr 52 5 0 U32 (some ⟨U31.heap.size, 0, none⟩) 1 1 (wdF [⟨1, 5, 0, -1, -1⟩]) := by rw [hU32]; exact gr_wd1 (heap_alloc_new _ _)
        have dl32 := dl31.frm0 f32
        have fr32 : Frm [] X U32 := fr31.trans f32
        first | rw [← hU32] | (change K _ (U31.alloc (.cells #[.int .i64 1, .int .i64 5, .int .i64 0, .int .i64 (-1), .int .i64 (-1)] 52)); rw [← hU32])
        clear hU32
        refine hK.out _ _ (by exact fr32) (fun hHeld => ?_)
        clear hK K
        try change wpAnyH _ _ _ _ _ _ _ (Act.put _ (some 49) _) _
        try simp only [Act.put, List.setIfInBounds_toArray, List.set_cons_zero, List.set_cons_succ]
        refine wpAnyH_ready (rs := [32]) (by kernel_rfl) (by simp) ?_
        refine AllReadyH.cons rfl (fun K hK => ?_) AllReadyH.nil
        go_simp
        go_at_call 33
        refine (list_any _ _ _ _).mono ?_
        rintro e1 x1 ⟨rfl, rfl⟩
        refine hK.out _ _ (by exact fr32) (fun hHeld => ?_)
        clear hK K
        try change wpAnyH _ _ _ _ _ _ _ (Act.put _ (some 47) _) _
        try simp only [Act.put, List.setIfInBounds_toArray, List.set_cons_zero, List.set_cons_succ]
        refine wpAnyH_ready (rs := [35]) (by kernel_rfl) (by simp) ?_
        refine AllReadyH.cons rfl (fun K hK => ?_) AllReadyH.nil
        go_simp
        go_at_call 11
        refine (lwaits_any dl32 (kd_ok _ (by decide)) (L := [⟨1, 5, 0, -1, -1⟩]) (e0 := 0) (by kernel_rfl) rfl (by decide) wd32).mono ?_
        rintro e33 U33 ⟨rfl, f33⟩
        have fr33 : Frm [] X U33 := fr32.trans f33
        refine hK.out _ _ (by exact fr33) (fun hHeld => ?_)
        clear hK K
        try change wpAnyH _ _ _ _ _ _ _ (Act.put _ (some 50) _) _
        try simp only [Act.put, List.setIfInBounds_toArray, List.set_cons_zero, List.set_cons_succ]
        refine take_in (i := 36) (d := 51) (v := .bool false) rfl rfl (by kernel_rfl) (by kernel_rfl) (by kernel_rfl) (fun _ _ _ h => h) (by kernel_rfl) (fun _ _ => rfl) (by assumption) ?_
        try simp only [Act.put, List.setIfInBounds_toArray, List.set_cons_zero, List.set_cons_succ]
        refine take_in (i := 37) (d := 52) (v := .bool false) rfl rfl (by kernel_rfl) (by kernel_rfl) (by kernel_rfl) (fun _ _ _ h => h) (by kernel_rfl) (fun _ _ => rfl) (by assumption) ?_
        try simp only [Act.put, List.setIfInBounds_toArray, List.set_cons_zero, List.set_cons_succ]
        exact wpAnyH_cast #[true, true, true, true, true, true, true, true, true, true, true, true, true, true, true, true, true, true, true, true, true, true, true, true, true, true, true, true, true, true, true, true, true, true, true, true, true, true] (by kernel_rfl) (hGo.out _ _ ⟨_, _, _, _, _, _, _, _, rfl, fr33⟩)
    · go_simp
      obtain ⟨U31, hU31⟩ : ∃ U31, U31 = U2g.alloc (.cells #[.int .i64 1, .int .i64 5, .int .i64 0, .int .i64 (-1), .int .i64 (-1)] 52) := ⟨_, rfl⟩
      have f31 : Frm [] U2g U31 := by rw [hU31]; exact (Frm.refl [] _).alloc _
      have wd31 : Gr 52 5 0 U31 (some ⟨U2g.heap.size, 0, none⟩) 1 1 (wdF [⟨1, 5, 0, -1, -1⟩]) := by rw [hU31]; exact gr_wd1 (heap_alloc_new _ _)
      have fr31 : Frm [] X U31 := frU2g.trans f31
      first | rw [← hU31] | (change K _ (U2g.alloc (.cells #[.int .i64 1, .int .i64 5, .int .i64 0, .int .i64 (-1), .int .i64 (-1)] 52)); rw [← hU31])
      clear hU31
      refine hK.out _ _ (by exact fr31) (fun hHeld => ?_)
      clear hK K
      try change wpAnyH _ _ _ _ _ _ _ (Act.put _ (some 49) _) _
      try simp only [Act.put, List.setIfInBounds_toArray, List.set_cons_zero, List.set_cons_succ]
      refine wpAnyH_ready (rs := [31]) (by kernel_rfl) (by simp) ?_
      refine AllReadyH.cons rfl (fun K hK => ?_) AllReadyH.nil
      go_simp
      obtain ⟨U32, hU32⟩ : ∃ U32, U32 = U31.alloc (.cells #[.int .i64 1, .int .i64 1, .int .i64 5, .int .u64 0, .int .u64 0, .bool true, .bool false, .int .i64 1, .int .i64 1, .int .i64 5, .int .u64 1, .int .u64 1, .bool false, .bool false] 40) := ⟨_, rfl⟩
      have f32 : Frm [] U31 U32 := by rw [hU32]; exact (Frm.refl [] _).alloc _
      have dl32 : DL U32 (some ⟨U31.heap.size, 0, none⟩) 2 2 U31.heap.size 0 [kdB, kdC] := by rw [hU32]; exact dl_new rfl (heap_alloc_new _ _)
      have wd32 := wd31.frm0 f32
      have fr32 : Frm [] X U32 := fr31.trans f32
      first | rw [← hU32] | (change K _ (U31.alloc (.cells #[.int .i64 1, .int .i64 1, .int .i64 5, .int .u64 0, .int .u64 0, .bool true, .bool false, .int .i64 1, .int .i64 1, .int .i64 5, .int .u64 1, .int .u64 1, .bool false, .bool false] 40)); rw [← hU32])
      clear hU32
      refine hK.out _ _ (by exact fr32) (fun hHeld => ?_)
      clear hK K
      try change wpAnyH _ _ _ _ _ _ _ (Act.put _ (some 46) _) _
      try simp only [Act.put, List.setIfInBounds_toArray, List.set_cons_zero, List.set_cons_succ]
      refine wpAnyH_ready (rs := [32]) (by kernel_rfl) (by simp) ?_
      refine AllReadyH.cons rfl (fun K hK => ?_) AllReadyH.nil
      go_simp
      go_at_call 33
      refine (list_any _ _ _ _).mono ?_
      rintro e1 x1 ⟨rfl, rfl⟩
      refine hK.out _ _ (by exact fr32) (fun hHeld => ?_)
      clear hK K
      try change wpAnyH _ _ _ _ _ _ _ (Act.put _ (some 47) _) _
      try simp only [Act.put, List.setIfInBounds_toArray, List.set_cons_zero, List.set_cons_succ]
      refine wpAnyH_ready (rs := [35]) (by kernel_rfl) (by simp) ?_
      refine AllReadyH.cons rfl (fun K hK => ?_) AllReadyH.nil
      go_simp
      go_at_call 11
      refine (lwaits_any dl32 (kd_ok _ (by decide)) (L := [⟨1, 5, 0, -1, -1⟩]) (e0 := 0) (by kernel_rfl) rfl (by decide) wd32).mono ?_
      rintro e33 U33 ⟨rfl, f33⟩
      have fr33 : Frm [] X U33 := fr32.trans f33
      refine hK.out _ _ (by exact fr33) (fun hHeld => ?_)
      clear hK K
      try change wpAnyH _ _ _ _ _ _ _ (Act.put _ (some 50) _) _
      try simp only [Act.put, List.setIfInBounds_toArray, List.set_cons_zero, List.set_cons_succ]
      refine take_in (i := 36) (d := 51) (v := .bool false) rfl rfl (by kernel_rfl) (by kernel_rfl) (by kernel_rfl) (fun _ _ _ h => h) (by kernel_rfl) (fun _ _ => rfl) (by assumption) ?_
      try simp only [Act.put, List.setIfInBounds_toArray, List.set_cons_zero, List.set_cons_succ]
      refine take_in (i := 37) (d := 52) (v := .bool false) rfl rfl (by kernel_rfl) (by kernel_rfl) (by kernel_rfl) (fun _ _ _ h => h) (by kernel_rfl) (fun _ _ => rfl) (by assumption) ?_
      try simp only [Act.put, List.setIfInBounds_toArray, List.set_cons_zero, List.set_cons_succ]
      exact wpAnyH_cast #[true, true, true, true, true, true, true, true, true, true, true, true, true, true, true, true, true, true, true, true, true, true, true, true, true, true, true, true, true, true, true, true, true, true, true, true, true, true] (by kernel_rfl) (hGo.out _ _ ⟨_, _, _, _, _, _, _, _, rfl, fr33⟩)
  rintro _ U3g ⟨u44, u45, u46, u47, u48, u49, u50, u51, rfl, frU3g⟩
  refine wpAnyH_done (by kernel_rfl) ?_ _
  refine NoPanic.normal ?_
  have HKU := Lib.hid (HK.out.frm0 frU3g)
  go_wp2_with fail
  refine HK5.out _ _ ?_
  refine wp_seq_k ?_
  intro K7 hK7
  have HK7 := Lib.hid hK7
  clear hK7
  have hmk : ∀ W : World, (Instr.makeSlice 31 (.int .i64 6) (.int .i64 6)).run Try.prog W = .ok (.slice (some ⟨W.heap.size, 0, none⟩) 6 6) (W.alloc (.cells (ns .u64 (List.replicate 6 0)).toArray 30)) := fun W => run_mk Try.underlying31 info_u64 (by decide) 6 (by decide) W
  go_wp2_with fail
  refine HK7.out _ _ (kn8 (gz := U3g.heap.size) (HKU.out.frm0 ((Frm.refl [] U3g).alloc _)) (li_new rfl (heap_alloc_new U3g _)) _ _ _ _ _ _ _ _ _ _ _ _ _ _ _ _ _ _ _ _ _ _ _ _ _ _ _ _ _ _ _ _ _ _ _ _ _ _ _ _ _ _ _ _ _ _ _ _ _ _ _ _ _ _ _ _ _ _ _ _ _ _ _ _ _ _ _ _ _ _ _ _ _ _ _ _ _ _ _ _ _ _ _ _ _ _ _ _ _ _ _ _ _ _ _ _ _ _ _ _ _ _ _ _ _ _ _ _ _ _ _ _ _ _ _ _ _ _ _ _ _ _ _ _ _ _ _ _ _ _ _ _ _ _ _ _ _ _ _ _ _ _ _ _ _ _ _ _ _ _)

set_option maxRecDepth 100000 in
set_option maxHeartbeats 3200000 in
/-- known is true. -/
theorem known_true (w : World) : Calls Try.prog 8 #[] w (Ret (.bool true) (fun w' => Frm [] w w')) := by
  have hkn : Kn w ((((w.alloc (.cells #[.int .i64 0, .int .i64 2, .int .i64 5, .int .u64 0, .int .u64 1, .bool false, .bool false] 40)).alloc (.cells #[.int .i64 1, .int .i64 1, .int .i64 5, .int .u64 0, .int .u64 0, .bool true, .bool false] 40)).alloc (.cells #[.int .i64 1, .int .i64 1, .int .i64 5, .int .u64 1, .int .u64 1, .bool false, .bool false] 40)).alloc (.cells #[.int .i64 1, .int .i64 5, .int .i64 0, .int .i64 (-1), .int .i64 (-1)] 52)) (w.heap.size) (w.heap.size + 1) (w.heap.size + 1 + 1) (w.heap.size + 1 + 1 + 1) :=
    ⟨((((Frm.refl [] w).alloc _).alloc _).alloc _).alloc _, heap_alloc_old _ (heap_alloc_old _ (heap_alloc_old _ (heap_alloc_new _ _))), heap_alloc_old _ (heap_alloc_old _ (heap_alloc_at _ (by simp))), heap_alloc_old _ (heap_alloc_at _ (by simp)), heap_alloc_at _ (by simp)⟩
  have HKN := Lib.hid hkn
  clear hkn
  go_enter Try.func8, Try.ntmps8
  refine wp_seq_k ?_
  intro K0 hK0
  have HK0 := Lib.hid hK0
  clear hK0
  go_wp2_with fail
  refine HK0.out _ _ ?_
  refine wp_seq_k ?_
  intro K1 hK1
  have HK1 := Lib.hid hK1
  clear hK1
  go_wp2_with fail
  refine HK1.out _ _ ?_
  refine wp_seq_k ?_
  intro K2 hK2
  have HK2 := Lib.hid hK2
  clear hK2
  go_wp2_with fail
  refine HK2.out _ _ ?_
  refine wp_seq_k ?_
  intro K3 hK3
  have HK3 := Lib.hid hK3
  clear hK3
  go_wp2_with fail
  refine HK3.out _ _ ?_
  refine wp_seq_k ?_
  intro K4 hK4
  have HK4 := Lib.hid hK4
  clear hK4
  go_wp2_with fail
  refine HK4.out _ _ ?_
  exact kn5 HKN.out _ _ _ _ _ _ _ _ _ _ _ _ _ _ _ _ _ _ _ _ _ _ _ _ _ _ _ _ _ _ _ _ _ _ _ _ _ _ _ _ _ _ _ _ _ _ _ _ _ _ _ _ _ _ _ _ _ _ _ _ _ _ _ _ _ _ _ _ _ _ _ _ _ _ _ _ _ _ _ _ _ _ _ _ _ _ _ _ _ _ _ _ _ _ _ _ _ _ _ _ _ _ _ _ _ _ _ _ _ _ _ _ _ _ _ _ _ _ _ _ _ _ _ _ _ _ _ _ _ _ _ _ _ _ _ _ _ _ _ _ _ _ _ _ _ _ _ _ _ _ _
end Go.Proofs.Ytfkikaoojelddaa
