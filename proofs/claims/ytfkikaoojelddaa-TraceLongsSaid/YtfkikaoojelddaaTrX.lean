/- Stage 13: known, its third part. (By gen_trw.py.) -/
import Derived.Test.YtfkikaoojelddaaTrW
namespace Go.Proofs.Ytfkikaoojelddaa
open Go.ChangeShapes Go.WideShapes Go.ChangeAt Go.RowKit
set_option linter.unusedVariables false
set_option linter.unusedSimpArgs false
set_option maxRecDepth 100000 in
set_option maxHeartbeats 6400000 in
/-- What known asks from its third part on. -/
theorem kn12 {w X : World} {kx ky : Nat} (hK0 : Kn w X (w.heap.size) (w.heap.size + 1) (w.heap.size + 1 + 1) (w.heap.size + 1 + 1 + 1)) (hx : X.heap[kx]? = some (.cells #[.int .i64 1, .int .i64 1, .int .i64 5, .int .u64 1, .int .u64 2, .bool false, .bool false] 40 (0, 0))) (hy : X.heap[ky]? = some (.cells #[.int .i64 1, .int .i64 0, .int .i64 0, .int .u64 0, .int .u64 0, .bool false, .bool true] 40 (0, 0))) (v5 v8 v9 v10 v11 v12 v13 v14 v15 v16 v17 v18 v19 v20 v21 v22 v23 v24 v25 v26 v27 v28 v29 v30 v31 v32 v33 v34 v35 v36 v37 v38 v39 v40 v41 v42 v43 v44 v45 v46 v47 v48 v49 v50 v51 v52 v53 v54 v55 v56 v57 v58 v59 v60 v61 v62 v63 v64 v65 v66 v67 v68 v69 v70 v71 v72 v73 v74 v75 v76 v77 v78 v79 v80 v81 v82 v83 v84 v85 v86 v87 v88 v89 v90 v91 v92 v93 v94 v95 v96 v97 v98 v99 v100 v101 v102 v103 v104 v105 v106 v107 v108 v109 v110 v111 v112 v113 v114 v115 v116 v117 v118 v119 v120 v121 v122 v123 v124 v125 v126 v127 v128 v129 v130 v131 v132 v133 v134 v135 v136 v137 v138 v139 v140 v141 v142 v143 v144 v145 v146 v147 v148 v149 v150 v151 v152 v153 v154 v155 : Value) :
    Code.wp Try.prog (pieceK 12) (bodyPost Try.prog Try.f8 (Ret (.bool true) (fun w' => Frm [] w w'))) ⟨List.toArray (.bool false :: .pointer (some ⟨w.heap.size, 0, none⟩) :: .pointer (some ⟨w.heap.size + 1, 0, none⟩) :: .pointer (some ⟨w.heap.size + 1 + 1, 0, none⟩) :: .pointer (some ⟨w.heap.size + 1 + 1 + 1, 0, none⟩) :: v5 :: .pointer (some ⟨kx, 0, none⟩) :: .pointer (some ⟨ky, 0, none⟩) :: v8 :: v9 :: v10 :: v11 :: v12 :: v13 :: v14 :: v15 :: v16 :: v17 :: v18 :: v19 :: v20 :: v21 :: v22 :: v23 :: v24 :: v25 :: v26 :: v27 :: v28 :: v29 :: v30 :: v31 :: v32 :: v33 :: v34 :: v35 :: v36 :: v37 :: v38 :: v39 :: v40 :: v41 :: v42 :: v43 :: v44 :: v45 :: v46 :: v47 :: v48 :: v49 :: v50 :: v51 :: v52 :: v53 :: v54 :: v55 :: v56 :: v57 :: v58 :: v59 :: v60 :: v61 :: v62 :: v63 :: v64 :: v65 :: v66 :: v67 :: v68 :: v69 :: v70 :: v71 :: v72 :: v73 :: v74 :: v75 :: v76 :: v77 :: v78 :: v79 :: v80 :: v81 :: v82 :: v83 :: v84 :: v85 :: v86 :: v87 :: v88 :: v89 :: v90 :: v91 :: v92 :: v93 :: v94 :: v95 :: v96 :: v97 :: v98 :: v99 :: v100 :: v101 :: v102 :: v103 :: v104 :: v105 :: v106 :: v107 :: v108 :: v109 :: v110 :: v111 :: v112 :: v113 :: v114 :: v115 :: v116 :: v117 :: v118 :: v119 :: v120 :: v121 :: v122 :: v123 :: v124 :: v125 :: v126 :: v127 :: v128 :: v129 :: v130 :: v131 :: v132 :: v133 :: v134 :: v135 :: v136 :: v137 :: v138 :: v139 :: v140 :: v141 :: v142 :: v143 :: v144 :: v145 :: v146 :: v147 :: v148 :: v149 :: v150 :: v151 :: v152 :: v153 :: v154 :: v155 :: []), []⟩ X := by
  have HK := Lib.hid hK0
  clear hK0
  have HX := Lib.hid hx
  have HY := Lib.hid hy
  clear hx hy
  conv => arg 2; whnf
  try dsimp only
  refine wp_seq_k ?_
  intro K12 hK12
  have HK12 := Lib.hid hK12
  clear hK12
  go_wp2_with fail
  refine wp_region_noPanic ?_
  refine wp_region_held_drew (S := fun w' => Frm [] X w') (by kernel_rfl) ((Frm.refl _ _).drew) (fun hHeld => ?_)
  refine wpAnyH_via 31 #[true, true, true, true, true, true, true, true, true, true, false, false, false, false, false, false, false, false, false, false, false, false, false, false, false, false, false, false, false, false, false, false, false, false, false, false, false, false, false, false, false] (fun a' w' => ∃ (u92 u93 u94 u95 u96 u97 u98 u99 u100 : Value), a' = ⟨List.toArray (.bool false :: .pointer (some ⟨w.heap.size, 0, none⟩) :: .pointer (some ⟨w.heap.size + 1, 0, none⟩) :: .pointer (some ⟨w.heap.size + 1 + 1, 0, none⟩) :: .pointer (some ⟨w.heap.size + 1 + 1 + 1, 0, none⟩) :: v5 :: .pointer (some ⟨kx, 0, none⟩) :: .pointer (some ⟨ky, 0, none⟩) :: v8 :: v9 :: v10 :: v11 :: v12 :: v13 :: v14 :: v15 :: v16 :: v17 :: v18 :: v19 :: v20 :: v21 :: v22 :: v23 :: v24 :: v25 :: v26 :: v27 :: v28 :: v29 :: v30 :: v31 :: v32 :: v33 :: v34 :: v35 :: v36 :: v37 :: v38 :: v39 :: v40 :: v41 :: v42 :: v43 :: v44 :: v45 :: v46 :: v47 :: v48 :: v49 :: v50 :: v51 :: v52 :: v53 :: v54 :: v55 :: v56 :: v57 :: v58 :: v59 :: v60 :: v61 :: v62 :: v63 :: v64 :: v65 :: v66 :: v67 :: v68 :: v69 :: v70 :: v71 :: v72 :: v73 :: v74 :: v75 :: v76 :: v77 :: v78 :: v79 :: v80 :: v81 :: v82 :: v83 :: v84 :: v85 :: v86 :: v87 :: v88 :: v89 :: v90 :: v91 :: u92 :: u93 :: u94 :: u95 :: u96 :: u97 :: u98 :: u99 :: u100 :: .bool false :: v102 :: v103 :: v104 :: v105 :: v106 :: v107 :: v108 :: v109 :: v110 :: v111 :: v112 :: v113 :: v114 :: v115 :: v116 :: v117 :: v118 :: v119 :: v120 :: v121 :: v122 :: v123 :: v124 :: v125 :: v126 :: v127 :: v128 :: v129 :: v130 :: v131 :: v132 :: v133 :: v134 :: v135 :: v136 :: v137 :: v138 :: v139 :: v140 :: v141 :: v142 :: v143 :: v144 :: v145 :: v146 :: v147 :: v148 :: v149 :: v150 :: v151 :: v152 :: v153 :: v154 :: v155 :: []), []⟩ ∧ Frm [] X w') ?_ (fun hGo => ?_)
  rotate_left
  · refine take_in (i := 0) (d := 92) (v := .agg #[.int .i64 1, .int .i64 1, .int .i64 5, .int .u64 0, .int .u64 0, .bool true, .bool false]) rfl rfl (by kernel_rfl) (by kernel_rfl) (by kernel_rfl) (fun _ _ _ h => h) (by kernel_rfl) (fun w' hS => by obtain ⟨x0, x1, x2, x3, x4, x5, x6⟩ := cells7 (HK.out.frm0 hS).b; go_simp) (by assumption) ?_
    try simp only [Act.put, List.setIfInBounds_toArray, List.set_cons_zero, List.set_cons_succ]
    refine take_in (i := 1) (d := 93) (v := .agg #[.int .i64 0, .int .i64 2, .int .i64 5, .int .u64 0, .int .u64 1, .bool false, .bool false]) rfl rfl (by kernel_rfl) (by kernel_rfl) (by kernel_rfl) (fun _ _ _ h => h) (by kernel_rfl) (fun w' hS => by obtain ⟨x0, x1, x2, x3, x4, x5, x6⟩ := cells7 (HK.out.frm0 hS).a; go_simp) (by assumption) ?_
    try simp only [Act.put, List.setIfInBounds_toArray, List.set_cons_zero, List.set_cons_succ]
    refine take_in (i := 2) (d := 94) (v := .agg #[.int .i64 1, .int .i64 1, .int .i64 5, .int .u64 1, .int .u64 1, .bool false, .bool false]) rfl rfl (by kernel_rfl) (by kernel_rfl) (by kernel_rfl) (fun _ _ _ h => h) (by kernel_rfl) (fun w' hS => by obtain ⟨x0, x1, x2, x3, x4, x5, x6⟩ := cells7 (HK.out.frm0 hS).c; go_simp) (by assumption) ?_
    try simp only [Act.put, List.setIfInBounds_toArray, List.set_cons_zero, List.set_cons_succ]
    refine take_in (i := 3) (d := 95) (v := .agg #[.int .i64 0, .int .i64 2, .int .i64 5, .int .u64 0, .int .u64 1, .bool false, .bool false]) rfl rfl (by kernel_rfl) (by kernel_rfl) (by kernel_rfl) (fun _ _ _ h => h) (by kernel_rfl) (fun w' hS => by obtain ⟨x0, x1, x2, x3, x4, x5, x6⟩ := cells7 (HK.out.frm0 hS).a; go_simp) (by assumption) ?_
    try simp only [Act.put, List.setIfInBounds_toArray, List.set_cons_zero, List.set_cons_succ]
    refine wpAnyH_ready (rs := [4, 6]) (by kernel_rfl) (by simp) ?_
    refine AllReadyH.cons rfl (fun K hK => ?_) (AllReadyH.cons rfl (fun K hK => ?_) AllReadyH.nil)
    · go_simp
      obtain ⟨U1, hU1⟩ : ∃ U1, U1 = X.drew.alloc (.cells #[.int .i64 1, .int .i64 1, .int .i64 5, .int .u64 0, .int .u64 0, .bool true, .bool false, .int .i64 0, .int .i64 2, .int .i64 5, .int .u64 0, .int .u64 1, .bool false, .bool false, .int .i64 1, .int .i64 1, .int .i64 5, .int .u64 1, .int .u64 1, .bool false, .bool false, .int .i64 0, .int .i64 2, .int .i64 5, .int .u64 0, .int .u64 1, .bool false, .bool false] 40) := ⟨_, rfl⟩
      have f1 : Frm [] X.drew U1 := by rw [hU1]; exact (Frm.refl [] _).alloc _
      have dl1 : DL U1 (some ⟨X.heap.size, 0, none⟩) 4 4 X.heap.size 0 [kdB, kdA, kdC, kdA] := by rw [hU1]; exact dl_new rfl (heap_alloc_new _ _)
      have fr1 : Frm [] X U1 := ((Frm.refl [] X).drew).trans f1
      first | rw [← hU1] | (change K _ (X.drew.alloc (.cells #[.int .i64 1, .int .i64 1, .int .i64 5, .int .u64 0, .int .u64 0, .bool true, .bool false, .int .i64 0, .int .i64 2, .int .i64 5, .int .u64 0, .int .u64 1, .bool false, .bool false, .int .i64 1, .int .i64 1, .int .i64 5, .int .u64 1, .int .u64 1, .bool false, .bool false, .int .i64 0, .int .i64 2, .int .i64 5, .int .u64 0, .int .u64 1, .bool false, .bool false] 40)); rw [← hU1])
      clear hU1
      refine hK.out _ _ (by exact fr1) (fun hHeld => ?_)
      clear hK K
      try change wpAnyH _ _ _ _ _ _ _ (Act.put _ (some 96) _) _
      try simp only [Act.put, List.setIfInBounds_toArray, List.set_cons_zero, List.set_cons_succ]
      refine wpAnyH_ready (rs := [5, 6]) (by kernel_rfl) (by simp) ?_
      refine AllReadyH.cons rfl (fun K hK => ?_) (AllReadyH.cons rfl (fun K hK => ?_) AllReadyH.nil)
      · go_simp
        go_at_call 33
        refine (list_any _ _ _ _).mono ?_
        rintro e1 x1 ⟨rfl, rfl⟩
        refine hK.out _ _ (by exact fr1) (fun hHeld => ?_)
        clear hK K
        try change wpAnyH _ _ _ _ _ _ _ (Act.put _ (some 97) _) _
        try simp only [Act.put, List.setIfInBounds_toArray, List.set_cons_zero, List.set_cons_succ]
        refine wpAnyH_ready (rs := [6]) (by kernel_rfl) (by simp) ?_
        refine AllReadyH.cons rfl (fun K hK => ?_) AllReadyH.nil
        go_simp
        obtain ⟨U2, hU2⟩ : ∃ U2, U2 = U1.alloc (.cells #[.int .i64 1, .int .i64 3] 3) := ⟨_, rfl⟩
        have f2 : Frm [] U1 U2 := by rw [hU2]; exact (Frm.refl [] _).alloc _
        have il2 : Li .i64 U2 (some ⟨U1.heap.size, 0, none⟩) 2 2 U1.heap.size 0 [1, 3] := by rw [hU2]; exact li_new rfl (heap_alloc_new _ _)
        have dl2 := dl1.frm0 f2
        have fr2 : Frm [] X U2 := fr1.trans f2
        first | rw [← hU2] | (change K _ (U1.alloc (.cells #[.int .i64 1, .int .i64 3] 3)); rw [← hU2])
        clear hU2
        refine hK.out _ _ (by exact fr2) (fun hHeld => ?_)
        clear hK K
        try change wpAnyH _ _ _ _ _ _ _ (Act.put _ (some 98) _) _
        try simp only [Act.put, List.setIfInBounds_toArray, List.set_cons_zero, List.set_cons_succ]
        refine wpAnyH_ready (rs := [7]) (by kernel_rfl) (by simp) ?_
        refine AllReadyH.cons rfl (fun K hK => ?_) AllReadyH.nil
        go_simp
        go_at_call 12
        refine (lchanges_any dl2 5 (e0 := 0) (by decide) (show Li .i64 _ _ (chR [kdB, kdA, kdC, kdA] 5).1.length _ _ _ (chR [kdB, kdA, kdC, kdA] 5).1 from il2) (by kernel_rfl)).mono ?_
        rintro e3 U3 ⟨rfl, f3⟩
        have fr3 : Frm [] X U3 := fr2.trans f3
        refine hK.out _ _ (by exact fr3) (fun hHeld => ?_)
        clear hK K
        try change wpAnyH _ _ _ _ _ _ _ (Act.put _ (some 99) _) _
        try simp only [Act.put, List.setIfInBounds_toArray, List.set_cons_zero, List.set_cons_succ]
        refine take_in (i := 8) (d := 100) (v := .bool false) rfl rfl (by kernel_rfl) (by kernel_rfl) (by kernel_rfl) (fun _ _ _ h => h) (by kernel_rfl) (fun _ _ => rfl) (by assumption) ?_
        try simp only [Act.put, List.setIfInBounds_toArray, List.set_cons_zero, List.set_cons_succ]
        refine take_in (i := 9) (d := 101) (v := .bool false) rfl rfl (by kernel_rfl) (by kernel_rfl) (by kernel_rfl) (fun _ _ _ h => h) (by kernel_rfl) (fun _ _ => rfl) (by assumption) ?_
        try simp only [Act.put, List.setIfInBounds_toArray, List.set_cons_zero, List.set_cons_succ]
        exact wpAnyH_cast #[true, true, true, true, true, true, true, true, true, true, false, false, false, false, false, false, false, false, false, false, false, false, false, false, false, false, false, false, false, false, false, false, false, false, false, false, false, false, false, false, false] (by kernel_rfl) (hGo.out _ _ ⟨_, _, _, _, _, _, _, _, _, rfl, fr3⟩)
      · go_simp
        obtain ⟨U2, hU2⟩ : ∃ U2, U2 = U1.alloc (.cells #[.int .i64 1, .int .i64 3] 3) := ⟨_, rfl⟩
        have f2 : Frm [] U1 U2 := by rw [hU2]; exact (Frm.refl [] _).alloc _
        have il2 : Li .i64 U2 (some ⟨U1.heap.size, 0, none⟩) 2 2 U1.heap.size 0 [1, 3] := by rw [hU2]; exact li_new rfl (heap_alloc_new _ _)
        have dl2 := dl1.frm0 f2
        have fr2 : Frm [] X U2 := fr1.trans f2
        first | rw [← hU2] | (change K _ (U1.alloc (.cells #[.int .i64 1, .int .i64 3] 3)); rw [← hU2])
        clear hU2
        refine hK.out _ _ (by exact fr2) (fun hHeld => ?_)
        clear hK K
        try change wpAnyH _ _ _ _ _ _ _ (Act.put _ (some 98) _) _
        try simp only [Act.put, List.setIfInBounds_toArray, List.set_cons_zero, List.set_cons_succ]
        refine wpAnyH_ready (rs := [5]) (by kernel_rfl) (by simp) ?_
        refine AllReadyH.cons rfl (fun K hK => ?_) AllReadyH.nil
        go_simp
        go_at_call 33
        refine (list_any _ _ _ _).mono ?_
        rintro e1 x1 ⟨rfl, rfl⟩
        refine hK.out _ _ (by exact fr2) (fun hHeld => ?_)
        clear hK K
        try change wpAnyH _ _ _ _ _ _ _ (Act.put _ (some 97) _) _
        try simp only [Act.put, List.setIfInBounds_toArray, List.set_cons_zero, List.set_cons_succ]
        refine wpAnyH_ready (rs := [7]) (by kernel_rfl) (by simp) ?_
        refine AllReadyH.cons rfl (fun K hK => ?_) AllReadyH.nil
        go_simp
        go_at_call 12
        refine (lchanges_any dl2 5 (e0 := 0) (by decide) (show Li .i64 _ _ (chR [kdB, kdA, kdC, kdA] 5).1.length _ _ _ (chR [kdB, kdA, kdC, kdA] 5).1 from il2) (by kernel_rfl)).mono ?_
        rintro e3 U3 ⟨rfl, f3⟩
        have fr3 : Frm [] X U3 := fr2.trans f3
        refine hK.out _ _ (by exact fr3) (fun hHeld => ?_)
        clear hK K
        try change wpAnyH _ _ _ _ _ _ _ (Act.put _ (some 99) _) _
        try simp only [Act.put, List.setIfInBounds_toArray, List.set_cons_zero, List.set_cons_succ]
        refine take_in (i := 8) (d := 100) (v := .bool false) rfl rfl (by kernel_rfl) (by kernel_rfl) (by kernel_rfl) (fun _ _ _ h => h) (by kernel_rfl) (fun _ _ => rfl) (by assumption) ?_
        try simp only [Act.put, List.setIfInBounds_toArray, List.set_cons_zero, List.set_cons_succ]
        refine take_in (i := 9) (d := 101) (v := .bool false) rfl rfl (by kernel_rfl) (by kernel_rfl) (by kernel_rfl) (fun _ _ _ h => h) (by kernel_rfl) (fun _ _ => rfl) (by assumption) ?_
        try simp only [Act.put, List.setIfInBounds_toArray, List.set_cons_zero, List.set_cons_succ]
        exact wpAnyH_cast #[true, true, true, true, true, true, true, true, true, true, false, false, false, false, false, false, false, false, false, false, false, false, false, false, false, false, false, false, false, false, false, false, false, false, false, false, false, false, false, false, false] (by kernel_rfl) (hGo.out _ _ ⟨_, _, _, _, _, _, _, _, _, rfl, fr3⟩)
    · go_simp
      obtain ⟨U1, hU1⟩ : ∃ U1, U1 = X.drew.alloc (.cells #[.int .i64 1, .int .i64 3] 3) := ⟨_, rfl⟩
      have f1 : Frm [] X.drew U1 := by rw [hU1]; exact (Frm.refl [] _).alloc _
      have il1 : Li .i64 U1 (some ⟨X.heap.size, 0, none⟩) 2 2 X.heap.size 0 [1, 3] := by rw [hU1]; exact li_new rfl (heap_alloc_new _ _)
      have fr1 : Frm [] X U1 := ((Frm.refl [] X).drew).trans f1
      first | rw [← hU1] | (change K _ (X.drew.alloc (.cells #[.int .i64 1, .int .i64 3] 3)); rw [← hU1])
      clear hU1
      refine hK.out _ _ (by exact fr1) (fun hHeld => ?_)
      clear hK K
      try change wpAnyH _ _ _ _ _ _ _ (Act.put _ (some 98) _) _
      try simp only [Act.put, List.setIfInBounds_toArray, List.set_cons_zero, List.set_cons_succ]
      refine wpAnyH_ready (rs := [4]) (by kernel_rfl) (by simp) ?_
      refine AllReadyH.cons rfl (fun K hK => ?_) AllReadyH.nil
      go_simp
      obtain ⟨U2, hU2⟩ : ∃ U2, U2 = U1.alloc (.cells #[.int .i64 1, .int .i64 1, .int .i64 5, .int .u64 0, .int .u64 0, .bool true, .bool false, .int .i64 0, .int .i64 2, .int .i64 5, .int .u64 0, .int .u64 1, .bool false, .bool false, .int .i64 1, .int .i64 1, .int .i64 5, .int .u64 1, .int .u64 1, .bool false, .bool false, .int .i64 0, .int .i64 2, .int .i64 5, .int .u64 0, .int .u64 1, .bool false, .bool false] 40) := ⟨_, rfl⟩
      have f2 : Frm [] U1 U2 := by rw [hU2]; exact (Frm.refl [] _).alloc _
      have dl2 : DL U2 (some ⟨U1.heap.size, 0, none⟩) 4 4 U1.heap.size 0 [kdB, kdA, kdC, kdA] := by rw [hU2]; exact dl_new rfl (heap_alloc_new _ _)
      have il2 := il1.frm0 f2
      have fr2 : Frm [] X U2 := fr1.trans f2
      first | rw [← hU2] | (change K _ (U1.alloc (.cells #[.int .i64 1, .int .i64 1, .int .i64 5, .int .u64 0, .int .u64 0, .bool true, .bool false, .int .i64 0, .int .i64 2, .int .i64 5, .int .u64 0, .int .u64 1, .bool false, .bool false, .int .i64 1, .int .i64 1, .int .i64 5, .int .u64 1, .int .u64 1, .bool false, .bool false, .int .i64 0, .int .i64 2, .int .i64 5, .int .u64 0, .int .u64 1, .bool false, .bool false] 40)); rw [← hU2])
      clear hU2
      refine hK.out _ _ (by exact fr2) (fun hHeld => ?_)
      clear hK K
      try change wpAnyH _ _ _ _ _ _ _ (Act.put _ (some 96) _) _
      try simp only [Act.put, List.setIfInBounds_toArray, List.set_cons_zero, List.set_cons_succ]
      refine wpAnyH_ready (rs := [5]) (by kernel_rfl) (by simp) ?_
      refine AllReadyH.cons rfl (fun K hK => ?_) AllReadyH.nil
      go_simp
      go_at_call 33
      refine (list_any _ _ _ _).mono ?_
      rintro e1 x1 ⟨rfl, rfl⟩
      refine hK.out _ _ (by exact fr2) (fun hHeld => ?_)
      clear hK K
      try change wpAnyH _ _ _ _ _ _ _ (Act.put _ (some 97) _) _
      try simp only [Act.put, List.setIfInBounds_toArray, List.set_cons_zero, List.set_cons_succ]
      refine wpAnyH_ready (rs := [7]) (by kernel_rfl) (by simp) ?_
      refine AllReadyH.cons rfl (fun K hK => ?_) AllReadyH.nil
      go_simp
      go_at_call 12
      refine (lchanges_any dl2 5 (e0 := 0) (by decide) (show Li .i64 _ _ (chR [kdB, kdA, kdC, kdA] 5).1.length _ _ _ (chR [kdB, kdA, kdC, kdA] 5).1 from il2) (by kernel_rfl)).mono ?_
      rintro e3 U3 ⟨rfl, f3⟩
      have fr3 : Frm [] X U3 := fr2.trans f3
      refine hK.out _ _ (by exact fr3) (fun hHeld => ?_)
      clear hK K
      try change wpAnyH _ _ _ _ _ _ _ (Act.put _ (some 99) _) _
      try simp only [Act.put, List.setIfInBounds_toArray, List.set_cons_zero, List.set_cons_succ]
      refine take_in (i := 8) (d := 100) (v := .bool false) rfl rfl (by kernel_rfl) (by kernel_rfl) (by kernel_rfl) (fun _ _ _ h => h) (by kernel_rfl) (fun _ _ => rfl) (by assumption) ?_
      try simp only [Act.put, List.setIfInBounds_toArray, List.set_cons_zero, List.set_cons_succ]
      refine take_in (i := 9) (d := 101) (v := .bool false) rfl rfl (by kernel_rfl) (by kernel_rfl) (by kernel_rfl) (fun _ _ _ h => h) (by kernel_rfl) (fun _ _ => rfl) (by assumption) ?_
      try simp only [Act.put, List.setIfInBounds_toArray, List.set_cons_zero, List.set_cons_succ]
      exact wpAnyH_cast #[true, true, true, true, true, true, true, true, true, true, false, false, false, false, false, false, false, false, false, false, false, false, false, false, false, false, false, false, false, false, false, false, false, false, false, false, false, false, false, false, false] (by kernel_rfl) (hGo.out _ _ ⟨_, _, _, _, _, _, _, _, _, rfl, fr3⟩)
  rintro _ U0g ⟨u92, u93, u94, u95, u96, u97, u98, u99, u100, rfl, frU0g⟩
  refine wpAnyH_via 24 #[true, true, true, true, true, true, true, true, true, true, true, true, true, true, true, true, true, false, false, false, false, false, false, false, false, false, false, false, false, false, false, false, false, false, false, false, false, false, false, false, false] (fun a' w' => ∃ (u102 u103 u104 u105 u106 u107 : Value), a' = ⟨List.toArray (.bool false :: .pointer (some ⟨w.heap.size, 0, none⟩) :: .pointer (some ⟨w.heap.size + 1, 0, none⟩) :: .pointer (some ⟨w.heap.size + 1 + 1, 0, none⟩) :: .pointer (some ⟨w.heap.size + 1 + 1 + 1, 0, none⟩) :: v5 :: .pointer (some ⟨kx, 0, none⟩) :: .pointer (some ⟨ky, 0, none⟩) :: v8 :: v9 :: v10 :: v11 :: v12 :: v13 :: v14 :: v15 :: v16 :: v17 :: v18 :: v19 :: v20 :: v21 :: v22 :: v23 :: v24 :: v25 :: v26 :: v27 :: v28 :: v29 :: v30 :: v31 :: v32 :: v33 :: v34 :: v35 :: v36 :: v37 :: v38 :: v39 :: v40 :: v41 :: v42 :: v43 :: v44 :: v45 :: v46 :: v47 :: v48 :: v49 :: v50 :: v51 :: v52 :: v53 :: v54 :: v55 :: v56 :: v57 :: v58 :: v59 :: v60 :: v61 :: v62 :: v63 :: v64 :: v65 :: v66 :: v67 :: v68 :: v69 :: v70 :: v71 :: v72 :: v73 :: v74 :: v75 :: v76 :: v77 :: v78 :: v79 :: v80 :: v81 :: v82 :: v83 :: v84 :: v85 :: v86 :: v87 :: v88 :: v89 :: v90 :: v91 :: u92 :: u93 :: u94 :: u95 :: u96 :: u97 :: u98 :: u99 :: u100 :: .bool false :: u102 :: u103 :: u104 :: u105 :: u106 :: u107 :: .bool false :: v109 :: v110 :: v111 :: v112 :: v113 :: v114 :: v115 :: v116 :: v117 :: v118 :: v119 :: v120 :: v121 :: v122 :: v123 :: v124 :: v125 :: v126 :: v127 :: v128 :: v129 :: v130 :: v131 :: v132 :: v133 :: v134 :: v135 :: v136 :: v137 :: v138 :: v139 :: v140 :: v141 :: v142 :: v143 :: v144 :: v145 :: v146 :: v147 :: v148 :: v149 :: v150 :: v151 :: v152 :: v153 :: v154 :: v155 :: []), []⟩ ∧ Frm [] X w') ?_ (fun hGo => ?_)
  rotate_left
  · refine take_in (i := 10) (d := 102) (v := .agg #[.int .i64 0, .int .i64 2, .int .i64 5, .int .u64 0, .int .u64 1, .bool false, .bool false]) rfl rfl (by kernel_rfl) (by kernel_rfl) (by kernel_rfl) (fun _ _ _ h => h) (by kernel_rfl) (fun w' hS => by obtain ⟨x0, x1, x2, x3, x4, x5, x6⟩ := cells7 (HK.out.frm0 hS).a; go_simp) (by assumption) ?_
    try simp only [Act.put, List.setIfInBounds_toArray, List.set_cons_zero, List.set_cons_succ]
    refine wpAnyH_ready (rs := [11]) (by kernel_rfl) (by simp) ?_
    refine AllReadyH.cons rfl (fun K hK => ?_) AllReadyH.nil
    go_simp
    obtain ⟨U11, hU11⟩ : ∃ U11, U11 = U0g.alloc (.cells #[.int .i64 0, .int .i64 2, .int .i64 5, .int .u64 0, .int .u64 1, .bool false, .bool false] 40) := ⟨_, rfl⟩
    have f11 : Frm [] U0g U11 := by rw [hU11]; exact (Frm.refl [] _).alloc _
    have dl11 : DL U11 (some ⟨U0g.heap.size, 0, none⟩) 1 1 U0g.heap.size 0 [kdA] := by rw [hU11]; exact dl_new rfl (heap_alloc_new _ _)
    have fr11 : Frm [] X U11 := frU0g.trans f11
    first | rw [← hU11] | (change K _ (U0g.alloc (.cells #[.int .i64 0, .int .i64 2, .int .i64 5, .int .u64 0, .int .u64 1, .bool false, .bool false] 40)); rw [← hU11])
    clear hU11
    refine hK.out _ _ (by exact fr11) (fun hHeld => ?_)
    clear hK K
    try change wpAnyH _ _ _ _ _ _ _ (Act.put _ (some 103) _) _
    try simp only [Act.put, List.setIfInBounds_toArray, List.set_cons_zero, List.set_cons_succ]
    refine wpAnyH_ready (rs := [12]) (by kernel_rfl) (by simp) ?_
    refine AllReadyH.cons rfl (fun K hK => ?_) AllReadyH.nil
    go_simp
    go_at_call 33
    refine (list_any _ _ _ _).mono ?_
    rintro e1 x1 ⟨rfl, rfl⟩
    refine hK.out _ _ (by exact fr11) (fun hHeld => ?_)
    clear hK K
    try change wpAnyH _ _ _ _ _ _ _ (Act.put _ (some 104) _) _
    try simp only [Act.put, List.setIfInBounds_toArray, List.set_cons_zero, List.set_cons_succ]
    refine wpAnyH_ready (rs := [13]) (by kernel_rfl) (by simp) ?_
    refine AllReadyH.cons rfl (fun K hK => ?_) AllReadyH.nil
    go_simp
    go_at_call 12
    refine (lchanges_any dl11 6 (e0 := 0) (a' := none) (c' := 0) (b' := 0) (o' := 0) (by decide) (by rw [show chR [kdA] 6 = ([], 0) from by kernel_rfl]; exact li_nil _) (by kernel_rfl)).mono ?_
    rintro e12 U12 ⟨rfl, f12⟩
    have fr12 : Frm [] X U12 := fr11.trans f12
    refine hK.out _ _ (by exact fr12) (fun hHeld => ?_)
    clear hK K
    try change wpAnyH _ _ _ _ _ _ _ (Act.put _ (some 105) _) _
    try simp only [Act.put, List.setIfInBounds_toArray, List.set_cons_zero, List.set_cons_succ]
    refine take_in (i := 14) (d := 106) (v := .bool false) rfl rfl (by kernel_rfl) (by kernel_rfl) (by kernel_rfl) (fun _ _ _ h => h) (by kernel_rfl) (fun _ _ => rfl) (by assumption) ?_
    try simp only [Act.put, List.setIfInBounds_toArray, List.set_cons_zero, List.set_cons_succ]
    refine take_in (i := 15) (d := 107) (v := .bool false) rfl rfl (by kernel_rfl) (by kernel_rfl) (by kernel_rfl) (fun _ _ _ h => h) (by kernel_rfl) (fun _ _ => rfl) (by assumption) ?_
    try simp only [Act.put, List.setIfInBounds_toArray, List.set_cons_zero, List.set_cons_succ]
    refine take_in (i := 16) (d := 108) (v := .bool false) rfl rfl (by kernel_rfl) (by kernel_rfl) (by kernel_rfl) (fun _ _ _ h => h) (by kernel_rfl) (fun _ _ => rfl) (by assumption) ?_
    try simp only [Act.put, List.setIfInBounds_toArray, List.set_cons_zero, List.set_cons_succ]
    exact wpAnyH_cast #[true, true, true, true, true, true, true, true, true, true, true, true, true, true, true, true, true, false, false, false, false, false, false, false, false, false, false, false, false, false, false, false, false, false, false, false, false, false, false, false, false] (by kernel_rfl) (hGo.out _ _ ⟨_, _, _, _, _, _, rfl, fr12⟩)
  rintro _ U1g ⟨u102, u103, u104, u105, u106, u107, rfl, frU1g⟩
  refine wpAnyH_via 12 #[true, true, true, true, true, true, true, true, true, true, true, true, true, true, true, true, true, true, true, true, true, true, true, true, true, true, true, true, true, false, false, false, false, false, false, false, false, false, false, false, false] (fun a' w' => ∃ (u109 u110 u111 u112 u113 u114 u115 u116 u117 u118 u119 : Value), a' = ⟨List.toArray (.bool false :: .pointer (some ⟨w.heap.size, 0, none⟩) :: .pointer (some ⟨w.heap.size + 1, 0, none⟩) :: .pointer (some ⟨w.heap.size + 1 + 1, 0, none⟩) :: .pointer (some ⟨w.heap.size + 1 + 1 + 1, 0, none⟩) :: v5 :: .pointer (some ⟨kx, 0, none⟩) :: .pointer (some ⟨ky, 0, none⟩) :: v8 :: v9 :: v10 :: v11 :: v12 :: v13 :: v14 :: v15 :: v16 :: v17 :: v18 :: v19 :: v20 :: v21 :: v22 :: v23 :: v24 :: v25 :: v26 :: v27 :: v28 :: v29 :: v30 :: v31 :: v32 :: v33 :: v34 :: v35 :: v36 :: v37 :: v38 :: v39 :: v40 :: v41 :: v42 :: v43 :: v44 :: v45 :: v46 :: v47 :: v48 :: v49 :: v50 :: v51 :: v52 :: v53 :: v54 :: v55 :: v56 :: v57 :: v58 :: v59 :: v60 :: v61 :: v62 :: v63 :: v64 :: v65 :: v66 :: v67 :: v68 :: v69 :: v70 :: v71 :: v72 :: v73 :: v74 :: v75 :: v76 :: v77 :: v78 :: v79 :: v80 :: v81 :: v82 :: v83 :: v84 :: v85 :: v86 :: v87 :: v88 :: v89 :: v90 :: v91 :: u92 :: u93 :: u94 :: u95 :: u96 :: u97 :: u98 :: u99 :: u100 :: .bool false :: u102 :: u103 :: u104 :: u105 :: u106 :: u107 :: .bool false :: u109 :: u110 :: u111 :: u112 :: u113 :: u114 :: u115 :: u116 :: u117 :: u118 :: u119 :: .bool false :: v121 :: v122 :: v123 :: v124 :: v125 :: v126 :: v127 :: v128 :: v129 :: v130 :: v131 :: v132 :: v133 :: v134 :: v135 :: v136 :: v137 :: v138 :: v139 :: v140 :: v141 :: v142 :: v143 :: v144 :: v145 :: v146 :: v147 :: v148 :: v149 :: v150 :: v151 :: v152 :: v153 :: v154 :: v155 :: []), []⟩ ∧ Frm [] X w') ?_ (fun hGo => ?_)
  rotate_left
  · refine take_in (i := 17) (d := 109) (v := .agg #[.int .i64 1, .int .i64 1, .int .i64 5, .int .u64 0, .int .u64 0, .bool true, .bool false]) rfl rfl (by kernel_rfl) (by kernel_rfl) (by kernel_rfl) (fun _ _ _ h => h) (by kernel_rfl) (fun w' hS => by obtain ⟨x0, x1, x2, x3, x4, x5, x6⟩ := cells7 (HK.out.frm0 hS).b; go_simp) (by assumption) ?_
    try simp only [Act.put, List.setIfInBounds_toArray, List.set_cons_zero, List.set_cons_succ]
    refine take_in (i := 18) (d := 110) (v := .agg #[.int .i64 0, .int .i64 2, .int .i64 5, .int .u64 0, .int .u64 1, .bool false, .bool false]) rfl rfl (by kernel_rfl) (by kernel_rfl) (by kernel_rfl) (fun _ _ _ h => h) (by kernel_rfl) (fun w' hS => by obtain ⟨x0, x1, x2, x3, x4, x5, x6⟩ := cells7 (HK.out.frm0 hS).a; go_simp) (by assumption) ?_
    try simp only [Act.put, List.setIfInBounds_toArray, List.set_cons_zero, List.set_cons_succ]
    refine take_in (i := 19) (d := 111) (v := .agg #[.int .i64 1, .int .i64 1, .int .i64 5, .int .u64 1, .int .u64 1, .bool false, .bool false]) rfl rfl (by kernel_rfl) (by kernel_rfl) (by kernel_rfl) (fun _ _ _ h => h) (by kernel_rfl) (fun w' hS => by obtain ⟨x0, x1, x2, x3, x4, x5, x6⟩ := cells7 (HK.out.frm0 hS).c; go_simp) (by assumption) ?_
    try simp only [Act.put, List.setIfInBounds_toArray, List.set_cons_zero, List.set_cons_succ]
    refine take_in (i := 22) (d := 114) (v := .agg #[.int .i64 1, .int .i64 1, .int .i64 5, .int .u64 0, .int .u64 0, .bool true, .bool false]) rfl rfl (by kernel_rfl) (by kernel_rfl) (by kernel_rfl) (fun _ _ _ h => h) (by kernel_rfl) (fun w' hS => by obtain ⟨x0, x1, x2, x3, x4, x5, x6⟩ := cells7 (HK.out.frm0 hS).b; go_simp) (by assumption) ?_
    try simp only [Act.put, List.setIfInBounds_toArray, List.set_cons_zero, List.set_cons_succ]
    refine take_in (i := 23) (d := 115) (v := .agg #[.int .i64 1, .int .i64 1, .int .i64 5, .int .u64 1, .int .u64 1, .bool false, .bool false]) rfl rfl (by kernel_rfl) (by kernel_rfl) (by kernel_rfl) (fun _ _ _ h => h) (by kernel_rfl) (fun w' hS => by obtain ⟨x0, x1, x2, x3, x4, x5, x6⟩ := cells7 (HK.out.frm0 hS).c; go_simp) (by assumption) ?_
    try simp only [Act.put, List.setIfInBounds_toArray, List.set_cons_zero, List.set_cons_succ]
    refine wpAnyH_ready (rs := [20, 24]) (by kernel_rfl) (by simp) ?_
    refine AllReadyH.cons rfl (fun K hK => ?_) (AllReadyH.cons rfl (fun K hK => ?_) AllReadyH.nil)
    · go_simp
      obtain ⟨U21, hU21⟩ : ∃ U21, U21 = U1g.alloc (.cells #[.int .i64 1, .int .i64 1, .int .i64 5, .int .u64 0, .int .u64 0, .bool true, .bool false, .int .i64 0, .int .i64 2, .int .i64 5, .int .u64 0, .int .u64 1, .bool false, .bool false, .int .i64 1, .int .i64 1, .int .i64 5, .int .u64 1, .int .u64 1, .bool false, .bool false] 40) := ⟨_, rfl⟩
      have f21 : Frm [] U1g U21 := by rw [hU21]; exact (Frm.refl [] _).alloc _
      have dl21 : DL U21 (some ⟨U1g.heap.size, 0, none⟩) 3 3 U1g.heap.size 0 [kdB, kdA, kdC] := by rw [hU21]; exact dl_new rfl (heap_alloc_new _ _)
      have fr21 : Frm [] X U21 := frU1g.trans f21
      first | rw [← hU21] | (change K _ (U1g.alloc (.cells #[.int .i64 1, .int .i64 1, .int .i64 5, .int .u64 0, .int .u64 0, .bool true, .bool false, .int .i64 0, .int .i64 2, .int .i64 5, .int .u64 0, .int .u64 1, .bool false, .bool false, .int .i64 1, .int .i64 1, .int .i64 5, .int .u64 1, .int .u64 1, .bool false, .bool false] 40)); rw [← hU21])
      clear hU21
      refine hK.out _ _ (by exact fr21) (fun hHeld => ?_)
      clear hK K
      try change wpAnyH _ _ _ _ _ _ _ (Act.put _ (some 112) _) _
      try simp only [Act.put, List.setIfInBounds_toArray, List.set_cons_zero, List.set_cons_succ]
      refine wpAnyH_ready (rs := [21, 24]) (by kernel_rfl) (by simp) ?_
      refine AllReadyH.cons rfl (fun K hK => ?_) (AllReadyH.cons rfl (fun K hK => ?_) AllReadyH.nil)
      · go_simp
        go_at_call 33
        refine (list_any _ _ _ _).mono ?_
        rintro e1 x1 ⟨rfl, rfl⟩
        refine hK.out _ _ (by exact fr21) (fun hHeld => ?_)
        clear hK K
        try change wpAnyH _ _ _ _ _ _ _ (Act.put _ (some 113) _) _
        try simp only [Act.put, List.setIfInBounds_toArray, List.set_cons_zero, List.set_cons_succ]
        refine wpAnyH_ready (rs := [24]) (by kernel_rfl) (by simp) ?_
        refine AllReadyH.cons rfl (fun K hK => ?_) AllReadyH.nil
        go_simp
        obtain ⟨U22, hU22⟩ : ∃ U22, U22 = U21.alloc (.cells #[.int .i64 1, .int .i64 1, .int .i64 5, .int .u64 0, .int .u64 0, .bool true, .bool false, .int .i64 1, .int .i64 1, .int .i64 5, .int .u64 1, .int .u64 1, .bool false, .bool false] 40) := ⟨_, rfl⟩
        have f22 : Frm [] U21 U22 := by rw [hU22]; exact (Frm.refl [] _).alloc _
        have dm22 : DL U22 (some ⟨U21.heap.size, 0, none⟩) 2 2 U21.heap.size 0 [kdB, kdC] := by rw [hU22]; exact dl_new rfl (heap_alloc_new _ _)
        have dl22 := dl21.frm0 f22
        have fr22 : Frm [] X U22 := fr21.trans f22
        first | rw [← hU22] | (change K _ (U21.alloc (.cells #[.int .i64 1, .int .i64 1, .int .i64 5, .int .u64 0, .int .u64 0, .bool true, .bool false, .int .i64 1, .int .i64 1, .int .i64 5, .int .u64 1, .int .u64 1, .bool false, .bool false] 40)); rw [← hU22])
        clear hU22
        refine hK.out _ _ (by exact fr22) (fun hHeld => ?_)
        clear hK K
        try change wpAnyH _ _ _ _ _ _ _ (Act.put _ (some 116) _) _
        try simp only [Act.put, List.setIfInBounds_toArray, List.set_cons_zero, List.set_cons_succ]
        refine wpAnyH_ready (rs := [25]) (by kernel_rfl) (by simp) ?_
        refine AllReadyH.cons rfl (fun K hK => ?_) AllReadyH.nil
        go_simp
        go_at_call 13
        refine (lof_any dl22 1 (e0 := 0) (by decide) (show DL _ _ (ofR [kdB, kdA, kdC] 1).1.length _ _ _ (ofR [kdB, kdA, kdC] 1).1 from dm22) (by kernel_rfl)).mono ?_
        rintro e23 U23 ⟨rfl, f23⟩
        have fr23 : Frm [] X U23 := fr22.trans f23
        refine hK.out _ _ (by exact fr23) (fun hHeld => ?_)
        clear hK K
        try change wpAnyH _ _ _ _ _ _ _ (Act.put _ (some 117) _) _
        try simp only [Act.put, List.setIfInBounds_toArray, List.set_cons_zero, List.set_cons_succ]
        refine take_in (i := 26) (d := 118) (v := .bool false) rfl rfl (by kernel_rfl) (by kernel_rfl) (by kernel_rfl) (fun _ _ _ h => h) (by kernel_rfl) (fun _ _ => rfl) (by assumption) ?_
        try simp only [Act.put, List.setIfInBounds_toArray, List.set_cons_zero, List.set_cons_succ]
        refine take_in (i := 27) (d := 119) (v := .bool false) rfl rfl (by kernel_rfl) (by kernel_rfl) (by kernel_rfl) (fun _ _ _ h => h) (by kernel_rfl) (fun _ _ => rfl) (by assumption) ?_
        try simp only [Act.put, List.setIfInBounds_toArray, List.set_cons_zero, List.set_cons_succ]
        refine take_in (i := 28) (d := 120) (v := .bool false) rfl rfl (by kernel_rfl) (by kernel_rfl) (by kernel_rfl) (fun _ _ _ h => h) (by kernel_rfl) (fun _ _ => rfl) (by assumption) ?_
        try simp only [Act.put, List.setIfInBounds_toArray, List.set_cons_zero, List.set_cons_succ]
        exact wpAnyH_cast #[true, true, true, true, true, true, true, true, true, true, true, true, true, true, true, true, true, true, true, true, true, true, true, true, true, true, true, true, true, false, false, false, false, false, false, false, false, false, false, false, false] (by kernel_rfl) (hGo.out _ _ ⟨_, _, _, _, _, _, _, _, _, _, _, rfl, fr23⟩)
      · go_simp
        obtain ⟨U22, hU22⟩ : ∃ U22, U22 = U21.alloc (.cells #[.int .i64 1, .int .i64 1, .int .i64 5, .int .u64 0, .int .u64 0, .bool true, .bool false, .int .i64 1, .int .i64 1, .int .i64 5, .int .u64 1, .int .u64 1, .bool false, .bool false] 40) := ⟨_, rfl⟩
        have f22 : Frm [] U21 U22 := by rw [hU22]; exact (Frm.refl [] _).alloc _
        have dm22 : DL U22 (some ⟨U21.heap.size, 0, none⟩) 2 2 U21.heap.size 0 [kdB, kdC] := by rw [hU22]; exact dl_new rfl (heap_alloc_new _ _)
        have dl22 := dl21.frm0 f22
        have fr22 : Frm [] X U22 := fr21.trans f22
        first | rw [← hU22] | (change K _ (U21.alloc (.cells #[.int .i64 1, .int .i64 1, .int .i64 5, .int .u64 0, .int .u64 0, .bool true, .bool false, .int .i64 1, .int .i64 1, .int .i64 5, .int .u64 1, .int .u64 1, .bool false, .bool false] 40)); rw [← hU22])
        clear hU22
        refine hK.out _ _ (by exact fr22) (fun hHeld => ?_)
        clear hK K
        try change wpAnyH _ _ _ _ _ _ _ (Act.put _ (some 116) _) _
        try simp only [Act.put, List.setIfInBounds_toArray, List.set_cons_zero, List.set_cons_succ]
        refine wpAnyH_ready (rs := [21]) (by kernel_rfl) (by simp) ?_
        refine AllReadyH.cons rfl (fun K hK => ?_) AllReadyH.nil
        go_simp
        go_at_call 33
        refine (list_any _ _ _ _).mono ?_
        rintro e1 x1 ⟨rfl, rfl⟩
        refine hK.out _ _ (by exact fr22) (fun hHeld => ?_)
        clear hK K
        try change wpAnyH _ _ _ _ _ _ _ (Act.put _ (some 113) _) _
        try simp only [Act.put, List.setIfInBounds_toArray, List.set_cons_zero, List.set_cons_succ]
        refine wpAnyH_ready (rs := [25]) (by kernel_rfl) (by simp) ?_
        refine AllReadyH.cons rfl (fun K hK => ?_) AllReadyH.nil
        go_simp
        go_at_call 13
        refine (lof_any dl22 1 (e0 := 0) (by decide) (show DL _ _ (ofR [kdB, kdA, kdC] 1).1.length _ _ _ (ofR [kdB, kdA, kdC] 1).1 from dm22) (by kernel_rfl)).mono ?_
        rintro e23 U23 ⟨rfl, f23⟩
        have fr23 : Frm [] X U23 := fr22.trans f23
        refine hK.out _ _ (by exact fr23) (fun hHeld => ?_)
        clear hK K
        try change wpAnyH _ _ _ _ _ _ _ (Act.put _ (some 117) _) _
        try simp only [Act.put, List.setIfInBounds_toArray, List.set_cons_zero, List.set_cons_succ]
        refine take_in (i := 26) (d := 118) (v := .bool false) rfl rfl (by kernel_rfl) (by kernel_rfl) (by kernel_rfl) (fun _ _ _ h => h) (by kernel_rfl) (fun _ _ => rfl) (by assumption) ?_
        try simp only [Act.put, List.setIfInBounds_toArray, List.set_cons_zero, List.set_cons_succ]
        refine take_in (i := 27) (d := 119) (v := .bool false) rfl rfl (by kernel_rfl) (by kernel_rfl) (by kernel_rfl) (fun _ _ _ h => h) (by kernel_rfl) (fun _ _ => rfl) (by assumption) ?_
        try simp only [Act.put, List.setIfInBounds_toArray, List.set_cons_zero, List.set_cons_succ]
        refine take_in (i := 28) (d := 120) (v := .bool false) rfl rfl (by kernel_rfl) (by kernel_rfl) (by kernel_rfl) (fun _ _ _ h => h) (by kernel_rfl) (fun _ _ => rfl) (by assumption) ?_
        try simp only [Act.put, List.setIfInBounds_toArray, List.set_cons_zero, List.set_cons_succ]
        exact wpAnyH_cast #[true, true, true, true, true, true, true, true, true, true, true, true, true, true, true, true, true, true, true, true, true, true, true, true, true, true, true, true, true, false, false, false, false, false, false, false, false, false, false, false, false] (by kernel_rfl) (hGo.out _ _ ⟨_, _, _, _, _, _, _, _, _, _, _, rfl, fr23⟩)
    · go_simp
      obtain ⟨U21, hU21⟩ : ∃ U21, U21 = U1g.alloc (.cells #[.int .i64 1, .int .i64 1, .int .i64 5, .int .u64 0, .int .u64 0, .bool true, .bool false, .int .i64 1, .int .i64 1, .int .i64 5, .int .u64 1, .int .u64 1, .bool false, .bool false] 40) := ⟨_, rfl⟩
      have f21 : Frm [] U1g U21 := by rw [hU21]; exact (Frm.refl [] _).alloc _
      have dm21 : DL U21 (some ⟨U1g.heap.size, 0, none⟩) 2 2 U1g.heap.size 0 [kdB, kdC] := by rw [hU21]; exact dl_new rfl (heap_alloc_new _ _)
      have fr21 : Frm [] X U21 := frU1g.trans f21
      first | rw [← hU21] | (change K _ (U1g.alloc (.cells #[.int .i64 1, .int .i64 1, .int .i64 5, .int .u64 0, .int .u64 0, .bool true, .bool false, .int .i64 1, .int .i64 1, .int .i64 5, .int .u64 1, .int .u64 1, .bool false, .bool false] 40)); rw [← hU21])
      clear hU21
      refine hK.out _ _ (by exact fr21) (fun hHeld => ?_)
      clear hK K
      try change wpAnyH _ _ _ _ _ _ _ (Act.put _ (some 116) _) _
      try simp only [Act.put, List.setIfInBounds_toArray, List.set_cons_zero, List.set_cons_succ]
      refine wpAnyH_ready (rs := [20]) (by kernel_rfl) (by simp) ?_
      refine AllReadyH.cons rfl (fun K hK => ?_) AllReadyH.nil
      go_simp
      obtain ⟨U22, hU22⟩ : ∃ U22, U22 = U21.alloc (.cells #[.int .i64 1, .int .i64 1, .int .i64 5, .int .u64 0, .int .u64 0, .bool true, .bool false, .int .i64 0, .int .i64 2, .int .i64 5, .int .u64 0, .int .u64 1, .bool false, .bool false, .int .i64 1, .int .i64 1, .int .i64 5, .int .u64 1, .int .u64 1, .bool false, .bool false] 40) := ⟨_, rfl⟩
      have f22 : Frm [] U21 U22 := by rw [hU22]; exact (Frm.refl [] _).alloc _
      have dl22 : DL U22 (some ⟨U21.heap.size, 0, none⟩) 3 3 U21.heap.size 0 [kdB, kdA, kdC] := by rw [hU22]; exact dl_new rfl (heap_alloc_new _ _)
      have dm22 := dm21.frm0 f22
      have fr22 : Frm [] X U22 := fr21.trans f22
      first | rw [← hU22] | (change K _ (U21.alloc (.cells #[.int .i64 1, .int .i64 1, .int .i64 5, .int .u64 0, .int .u64 0, .bool true, .bool false, .int .i64 0, .int .i64 2, .int .i64 5, .int .u64 0, .int .u64 1, .bool false, .bool false, .int .i64 1, .int .i64 1, .int .i64 5, .int .u64 1, .int .u64 1, .bool false, .bool false] 40)); rw [← hU22])
      clear hU22
      refine hK.out _ _ (by exact fr22) (fun hHeld => ?_)
      clear hK K
      try change wpAnyH _ _ _ _ _ _ _ (Act.put _ (some 112) _) _
      try simp only [Act.put, List.setIfInBounds_toArray, List.set_cons_zero, List.set_cons_succ]
      refine wpAnyH_ready (rs := [21]) (by kernel_rfl) (by simp) ?_
      refine AllReadyH.cons rfl (fun K hK => ?_) AllReadyH.nil
      go_simp
      go_at_call 33
      refine (list_any _ _ _ _).mono ?_
      rintro e1 x1 ⟨rfl, rfl⟩
      refine hK.out _ _ (by exact fr22) (fun hHeld => ?_)
      clear hK K
      try change wpAnyH _ _ _ _ _ _ _ (Act.put _ (some 113) _) _
      try simp only [Act.put, List.setIfInBounds_toArray, List.set_cons_zero, List.set_cons_succ]
      refine wpAnyH_ready (rs := [25]) (by kernel_rfl) (by simp) ?_
      refine AllReadyH.cons rfl (fun K hK => ?_) AllReadyH.nil
      go_simp
      go_at_call 13
      refine (lof_any dl22 1 (e0 := 0) (by decide) (show DL _ _ (ofR [kdB, kdA, kdC] 1).1.length _ _ _ (ofR [kdB, kdA, kdC] 1).1 from dm22) (by kernel_rfl)).mono ?_
      rintro e23 U23 ⟨rfl, f23⟩
      have fr23 : Frm [] X U23 := fr22.trans f23
      refine hK.out _ _ (by exact fr23) (fun hHeld => ?_)
      clear hK K
      try change wpAnyH _ _ _ _ _ _ _ (Act.put _ (some 117) _) _
      try simp only [Act.put, List.setIfInBounds_toArray, List.set_cons_zero, List.set_cons_succ]
      refine take_in (i := 26) (d := 118) (v := .bool false) rfl rfl (by kernel_rfl) (by kernel_rfl) (by kernel_rfl) (fun _ _ _ h => h) (by kernel_rfl) (fun _ _ => rfl) (by assumption) ?_
      try simp only [Act.put, List.setIfInBounds_toArray, List.set_cons_zero, List.set_cons_succ]
      refine take_in (i := 27) (d := 119) (v := .bool false) rfl rfl (by kernel_rfl) (by kernel_rfl) (by kernel_rfl) (fun _ _ _ h => h) (by kernel_rfl) (fun _ _ => rfl) (by assumption) ?_
      try simp only [Act.put, List.setIfInBounds_toArray, List.set_cons_zero, List.set_cons_succ]
      refine take_in (i := 28) (d := 120) (v := .bool false) rfl rfl (by kernel_rfl) (by kernel_rfl) (by kernel_rfl) (fun _ _ _ h => h) (by kernel_rfl) (fun _ _ => rfl) (by assumption) ?_
      try simp only [Act.put, List.setIfInBounds_toArray, List.set_cons_zero, List.set_cons_succ]
      exact wpAnyH_cast #[true, true, true, true, true, true, true, true, true, true, true, true, true, true, true, true, true, true, true, true, true, true, true, true, true, true, true, true, true, false, false, false, false, false, false, false, false, false, false, false, false] (by kernel_rfl) (hGo.out _ _ ⟨_, _, _, _, _, _, _, _, _, _, _, rfl, fr23⟩)
  rintro _ U2g ⟨u109, u110, u111, u112, u113, u114, u115, u116, u117, u118, u119, rfl, frU2g⟩
  refine wpAnyH_via 6 #[true, true, true, true, true, true, true, true, true, true, true, true, true, true, true, true, true, true, true, true, true, true, true, true, true, true, true, true, true, true, true, true, true, true, true, false, false, false, false, false, false] (fun a' w' => ∃ (u121 u122 u123 u124 u125 : Value), a' = ⟨List.toArray (.bool false :: .pointer (some ⟨w.heap.size, 0, none⟩) :: .pointer (some ⟨w.heap.size + 1, 0, none⟩) :: .pointer (some ⟨w.heap.size + 1 + 1, 0, none⟩) :: .pointer (some ⟨w.heap.size + 1 + 1 + 1, 0, none⟩) :: v5 :: .pointer (some ⟨kx, 0, none⟩) :: .pointer (some ⟨ky, 0, none⟩) :: v8 :: v9 :: v10 :: v11 :: v12 :: v13 :: v14 :: v15 :: v16 :: v17 :: v18 :: v19 :: v20 :: v21 :: v22 :: v23 :: v24 :: v25 :: v26 :: v27 :: v28 :: v29 :: v30 :: v31 :: v32 :: v33 :: v34 :: v35 :: v36 :: v37 :: v38 :: v39 :: v40 :: v41 :: v42 :: v43 :: v44 :: v45 :: v46 :: v47 :: v48 :: v49 :: v50 :: v51 :: v52 :: v53 :: v54 :: v55 :: v56 :: v57 :: v58 :: v59 :: v60 :: v61 :: v62 :: v63 :: v64 :: v65 :: v66 :: v67 :: v68 :: v69 :: v70 :: v71 :: v72 :: v73 :: v74 :: v75 :: v76 :: v77 :: v78 :: v79 :: v80 :: v81 :: v82 :: v83 :: v84 :: v85 :: v86 :: v87 :: v88 :: v89 :: v90 :: v91 :: u92 :: u93 :: u94 :: u95 :: u96 :: u97 :: u98 :: u99 :: u100 :: .bool false :: u102 :: u103 :: u104 :: u105 :: u106 :: u107 :: .bool false :: u109 :: u110 :: u111 :: u112 :: u113 :: u114 :: u115 :: u116 :: u117 :: u118 :: u119 :: .bool false :: u121 :: u122 :: u123 :: u124 :: u125 :: .bool false :: v127 :: v128 :: v129 :: v130 :: v131 :: v132 :: v133 :: v134 :: v135 :: v136 :: v137 :: v138 :: v139 :: v140 :: v141 :: v142 :: v143 :: v144 :: v145 :: v146 :: v147 :: v148 :: v149 :: v150 :: v151 :: v152 :: v153 :: v154 :: v155 :: []), []⟩ ∧ Frm [] X w') ?_ (fun hGo => ?_)
  rotate_left
  · refine take_in (i := 29) (d := 121) (v := .agg #[.int .i64 1, .int .i64 1, .int .i64 5, .int .u64 1, .int .u64 2, .bool false, .bool false]) rfl rfl (by kernel_rfl) (by kernel_rfl) (by kernel_rfl) (fun _ _ _ h => h) (by kernel_rfl) (fun w' hS => by obtain ⟨x0, x1, x2, x3, x4, x5, x6⟩ := cells7 (Frm.heap (show Frm [] X w' from hS) HX.out (by simp)); go_simp) (by assumption) ?_
    try simp only [Act.put, List.setIfInBounds_toArray, List.set_cons_zero, List.set_cons_succ]
    refine wpAnyH_ready (rs := [30]) (by kernel_rfl) (by simp) ?_
    refine AllReadyH.cons rfl (fun K hK => ?_) AllReadyH.nil
    go_simp
    obtain ⟨U31, hU31⟩ : ∃ U31, U31 = U2g.alloc (.cells #[.int .i64 1, .int .i64 1, .int .i64 5, .int .u64 1, .int .u64 2, .bool false, .bool false] 40) := ⟨_, rfl⟩
    have f31 : Frm [] U2g U31 := by rw [hU31]; exact (Frm.refl [] _).alloc _
    have dl31 : DL U31 (some ⟨U2g.heap.size, 0, none⟩) 1 1 U2g.heap.size 0 [kdX] := by rw [hU31]; exact dl_new rfl (heap_alloc_new _ _)
    have fr31 : Frm [] X U31 := frU2g.trans f31
    first | rw [← hU31] | (change K _ (U2g.alloc (.cells #[.int .i64 1, .int .i64 1, .int .i64 5, .int .u64 1, .int .u64 2, .bool false, .bool false] 40)); rw [← hU31])
    clear hU31
    refine hK.out _ _ (by exact fr31) (fun hHeld => ?_)
    clear hK K
    try change wpAnyH _ _ _ _ _ _ _ (Act.put _ (some 122) _) _
    try simp only [Act.put, List.setIfInBounds_toArray, List.set_cons_zero, List.set_cons_succ]
    refine wpAnyH_ready (rs := [31]) (by kernel_rfl) (by simp) ?_
    refine AllReadyH.cons rfl (fun K hK => ?_) AllReadyH.nil
    go_simp
    go_at_call 33
    refine (list_any _ _ _ _).mono ?_
    rintro e1 x1 ⟨rfl, rfl⟩
    refine hK.out _ _ (by exact fr31) (fun hHeld => ?_)
    clear hK K
    try change wpAnyH _ _ _ _ _ _ _ (Act.put _ (some 123) _) _
    try simp only [Act.put, List.setIfInBounds_toArray, List.set_cons_zero, List.set_cons_succ]
    refine wpAnyH_ready (rs := [32]) (by kernel_rfl) (by simp) ?_
    refine AllReadyH.cons rfl (fun K hK => ?_) AllReadyH.nil
    go_simp
    go_at_call 9
    refine (Valid_any dl31).mono ?_
    rintro e32 U32 ⟨rfl, f32⟩
    rw [show vld [kdX] = false from by kernel_rfl]
    have fr32 : Frm [] X U32 := fr31.trans f32
    refine hK.out _ _ (by exact fr32) (fun hHeld => ?_)
    clear hK K
    try change wpAnyH _ _ _ _ _ _ _ (Act.put _ (some 124) _) _
    try simp only [Act.put, List.setIfInBounds_toArray, List.set_cons_zero, List.set_cons_succ]
    refine take_in (i := 33) (d := 125) (v := .bool false) rfl rfl (by kernel_rfl) (by kernel_rfl) (by kernel_rfl) (fun _ _ _ h => h) (by kernel_rfl) (fun _ _ => rfl) (by assumption) ?_
    try simp only [Act.put, List.setIfInBounds_toArray, List.set_cons_zero, List.set_cons_succ]
    refine take_in (i := 34) (d := 126) (v := .bool false) rfl rfl (by kernel_rfl) (by kernel_rfl) (by kernel_rfl) (fun _ _ _ h => h) (by kernel_rfl) (fun _ _ => rfl) (by assumption) ?_
    try simp only [Act.put, List.setIfInBounds_toArray, List.set_cons_zero, List.set_cons_succ]
    exact wpAnyH_cast #[true, true, true, true, true, true, true, true, true, true, true, true, true, true, true, true, true, true, true, true, true, true, true, true, true, true, true, true, true, true, true, true, true, true, true, false, false, false, false, false, false] (by kernel_rfl) (hGo.out _ _ ⟨_, _, _, _, _, rfl, fr32⟩)
  rintro _ U3g ⟨u121, u122, u123, u124, u125, rfl, frU3g⟩
  refine wpAnyH_via 0 #[true, true, true, true, true, true, true, true, true, true, true, true, true, true, true, true, true, true, true, true, true, true, true, true, true, true, true, true, true, true, true, true, true, true, true, true, true, true, true, true, true] (fun a' w' => ∃ (u127 u128 u129 u130 u131 : Value), a' = ⟨List.toArray (.bool false :: .pointer (some ⟨w.heap.size, 0, none⟩) :: .pointer (some ⟨w.heap.size + 1, 0, none⟩) :: .pointer (some ⟨w.heap.size + 1 + 1, 0, none⟩) :: .pointer (some ⟨w.heap.size + 1 + 1 + 1, 0, none⟩) :: v5 :: .pointer (some ⟨kx, 0, none⟩) :: .pointer (some ⟨ky, 0, none⟩) :: v8 :: v9 :: v10 :: v11 :: v12 :: v13 :: v14 :: v15 :: v16 :: v17 :: v18 :: v19 :: v20 :: v21 :: v22 :: v23 :: v24 :: v25 :: v26 :: v27 :: v28 :: v29 :: v30 :: v31 :: v32 :: v33 :: v34 :: v35 :: v36 :: v37 :: v38 :: v39 :: v40 :: v41 :: v42 :: v43 :: v44 :: v45 :: v46 :: v47 :: v48 :: v49 :: v50 :: v51 :: v52 :: v53 :: v54 :: v55 :: v56 :: v57 :: v58 :: v59 :: v60 :: v61 :: v62 :: v63 :: v64 :: v65 :: v66 :: v67 :: v68 :: v69 :: v70 :: v71 :: v72 :: v73 :: v74 :: v75 :: v76 :: v77 :: v78 :: v79 :: v80 :: v81 :: v82 :: v83 :: v84 :: v85 :: v86 :: v87 :: v88 :: v89 :: v90 :: v91 :: u92 :: u93 :: u94 :: u95 :: u96 :: u97 :: u98 :: u99 :: u100 :: .bool false :: u102 :: u103 :: u104 :: u105 :: u106 :: u107 :: .bool false :: u109 :: u110 :: u111 :: u112 :: u113 :: u114 :: u115 :: u116 :: u117 :: u118 :: u119 :: .bool false :: u121 :: u122 :: u123 :: u124 :: u125 :: .bool false :: u127 :: u128 :: u129 :: u130 :: u131 :: .bool false :: v133 :: v134 :: v135 :: v136 :: v137 :: v138 :: v139 :: v140 :: v141 :: v142 :: v143 :: v144 :: v145 :: v146 :: v147 :: v148 :: v149 :: v150 :: v151 :: v152 :: v153 :: v154 :: v155 :: []), []⟩ ∧ Frm [] X w') ?_ (fun hGo => ?_)
  rotate_left
  · refine take_in (i := 35) (d := 127) (v := .agg #[.int .i64 1, .int .i64 0, .int .i64 0, .int .u64 0, .int .u64 0, .bool false, .bool true]) rfl rfl (by kernel_rfl) (by kernel_rfl) (by kernel_rfl) (fun _ _ _ h => h) (by kernel_rfl) (fun w' hS => by obtain ⟨x0, x1, x2, x3, x4, x5, x6⟩ := cells7 (Frm.heap (show Frm [] X w' from hS) HY.out (by simp)); go_simp) (by assumption) ?_
    try simp only [Act.put, List.setIfInBounds_toArray, List.set_cons_zero, List.set_cons_succ]
    refine take_in (i := 36) (d := 128) (v := .agg #[.int .i64 1, .int .i64 1, .int .i64 5, .int .u64 0, .int .u64 0, .bool true, .bool false]) rfl rfl (by kernel_rfl) (by kernel_rfl) (by kernel_rfl) (fun _ _ _ h => h) (by kernel_rfl) (fun w' hS => by obtain ⟨x0, x1, x2, x3, x4, x5, x6⟩ := cells7 (HK.out.frm0 hS).b; go_simp) (by assumption) ?_
    try simp only [Act.put, List.setIfInBounds_toArray, List.set_cons_zero, List.set_cons_succ]
    refine wpAnyH_ready (rs := [37]) (by kernel_rfl) (by simp) ?_
    refine AllReadyH.cons rfl (fun K hK => ?_) AllReadyH.nil
    go_simp
    obtain ⟨U41, hU41⟩ : ∃ U41, U41 = U3g.alloc (.cells #[.int .i64 1, .int .i64 0, .int .i64 0, .int .u64 0, .int .u64 0, .bool false, .bool true, .int .i64 1, .int .i64 1, .int .i64 5, .int .u64 0, .int .u64 0, .bool true, .bool false] 40) := ⟨_, rfl⟩
    have f41 : Frm [] U3g U41 := by rw [hU41]; exact (Frm.refl [] _).alloc _
    have dl41 : DL U41 (some ⟨U3g.heap.size, 0, none⟩) 2 2 U3g.heap.size 0 [kdY, kdB] := by rw [hU41]; exact dl_new rfl (heap_alloc_new _ _)
    have fr41 : Frm [] X U41 := frU3g.trans f41
    first | rw [← hU41] | (change K _ (U3g.alloc (.cells #[.int .i64 1, .int .i64 0, .int .i64 0, .int .u64 0, .int .u64 0, .bool false, .bool true, .int .i64 1, .int .i64 1, .int .i64 5, .int .u64 0, .int .u64 0, .bool true, .bool false] 40)); rw [← hU41])
    clear hU41
    refine hK.out _ _ (by exact fr41) (fun hHeld => ?_)
    clear hK K
    try change wpAnyH _ _ _ _ _ _ _ (Act.put _ (some 129) _) _
    try simp only [Act.put, List.setIfInBounds_toArray, List.set_cons_zero, List.set_cons_succ]
    refine wpAnyH_ready (rs := [38]) (by kernel_rfl) (by simp) ?_
    refine AllReadyH.cons rfl (fun K hK => ?_) AllReadyH.nil
    go_simp
    go_at_call 33
    refine (list_any _ _ _ _).mono ?_
    rintro e1 x1 ⟨rfl, rfl⟩
    refine hK.out _ _ (by exact fr41) (fun hHeld => ?_)
    clear hK K
    try change wpAnyH _ _ _ _ _ _ _ (Act.put _ (some 130) _) _
    try simp only [Act.put, List.setIfInBounds_toArray, List.set_cons_zero, List.set_cons_succ]
    refine wpAnyH_ready (rs := [39]) (by kernel_rfl) (by simp) ?_
    refine AllReadyH.cons rfl (fun K hK => ?_) AllReadyH.nil
    go_simp
    go_at_call 9
    refine (Valid_any dl41).mono ?_
    rintro e42 U42 ⟨rfl, f42⟩
    rw [show vld [kdY, kdB] = false from by kernel_rfl]
    have fr42 : Frm [] X U42 := fr41.trans f42
    refine hK.out _ _ (by exact fr42) (fun hHeld => ?_)
    clear hK K
    try change wpAnyH _ _ _ _ _ _ _ (Act.put _ (some 131) _) _
    try simp only [Act.put, List.setIfInBounds_toArray, List.set_cons_zero, List.set_cons_succ]
    refine take_in (i := 40) (d := 132) (v := .bool false) rfl rfl (by kernel_rfl) (by kernel_rfl) (by kernel_rfl) (fun _ _ _ h => h) (by kernel_rfl) (fun _ _ => rfl) (by assumption) ?_
    try simp only [Act.put, List.setIfInBounds_toArray, List.set_cons_zero, List.set_cons_succ]
    exact wpAnyH_cast #[true, true, true, true, true, true, true, true, true, true, true, true, true, true, true, true, true, true, true, true, true, true, true, true, true, true, true, true, true, true, true, true, true, true, true, true, true, true, true, true, true] (by kernel_rfl) (hGo.out _ _ ⟨_, _, _, _, _, rfl, fr42⟩)
  rintro _ U4g ⟨u127, u128, u129, u130, u131, rfl, frU4g⟩
  refine wpAnyH_done (by kernel_rfl) ?_ _
  refine NoPanic.normal ?_
  go_wp2_with fail
  refine HK12.out _ _ (kn14 (HK.out.frm0 frU4g) _ _ _ _ _ _ _ _ _ _ _ _ _ _ _ _ _ _ _ _ _ _ _ _ _ _ _ _ _ _ _ _ _ _ _ _ _ _ _ _ _ _ _ _ _ _ _ _ _ _ _ _ _ _ _ _ _ _ _ _ _ _ _ _ _ _ _ _ _ _ _ _ _ _ _ _ _ _ _ _ _ _ _ _ _ _ _ _ _ _ _ _ _ _ _ _ _ _ _ _ _ _ _ _ _ _ _ _ _ _ _ _ _ _ _ _ _ _ _ _ _ _ _ _ _ _ _ _ _ _ _ _ _ _ _ _ _ _ _ _ _ _ _ _ _ _ _ _ _ _ _)

end Go.Proofs.Ytfkikaoojelddaa
