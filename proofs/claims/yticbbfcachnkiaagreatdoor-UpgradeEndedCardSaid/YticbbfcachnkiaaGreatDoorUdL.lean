/- The law's known: its last statements (by gen_udk.py). -/
import Derived.Test.YticbbfcachnkiaaGreatDoorUdK
import Derived.Deep.RegionHeld3
namespace Go.Proofs.YticbbfcachnkiaaGreatDoor
open Go.ChangeShapes Go.WideShapes Go.ChangeAt Go.RowKit
set_option linter.unusedVariables false
set_option linter.unusedSimpArgs false
set_option maxRecDepth 1000000 in
set_option maxHeartbeats 4000000 in
theorem kn9 {w Y : World} {B np p d g : Nat} (v0 v2 v3 v4 v5 v6 v7 v8 v9 v10 v11 v12 v13 v14 v15 v16 v17 v18 v19 v20 v21 v22 v23 v24 v25 v26 v27 v28 v29 v30 v31 v32 v33 v34 v35 v36 v37 v38 v39 v40 v41 v42 v43 v44 v45 v46 v47 v48 v49 v50 v51 v52 v53 v54 v55 v56 v57 v58 v59 v60 v61 v62 v63 v64 v65 v66 v67 v68 v69 v70 v71 v72 v73 v74 v75 v76 v77 v78 v79 v80 v81 v82 v83 v84 v85 v86 v87 v88 v89 v90 v91 v92 v93 v94 v95 v96 v97 v98 v99 v100 v101 v102 v103 v104 v105 v106 v107 v108 v109 v110 v111 v112 v113 v114 v115 v116 v117 v118 v119 v120 v121 v122 v123 v124 v125 v126 v127 v128 v129 v130 v131 v132 v133 v134 v135 v136 v137 v138 v139 v140 v141 v142 v143 v144 v145 v146 v147 v148 v149 v150 v151 v152 v153 v154 v155 v156 v157 v158 v159 v160 : Value) (hK0 : Kn w Y B np p d g wC) :
    Code.wp Tryz.prog (knT 9) (bodyPost Tryz.prog Tryz.f7 (Ret (.bool true) (fun w' => Frm [] w w'))) ⟨List.toArray (v0 :: .pointer (some ⟨g, 0, none⟩) :: v2 :: v3 :: v4 :: v5 :: v6 :: v7 :: v8 :: v9 :: v10 :: v11 :: v12 :: v13 :: v14 :: v15 :: v16 :: v17 :: v18 :: v19 :: v20 :: v21 :: v22 :: v23 :: v24 :: v25 :: v26 :: v27 :: v28 :: v29 :: v30 :: v31 :: v32 :: v33 :: v34 :: v35 :: v36 :: v37 :: v38 :: v39 :: v40 :: v41 :: v42 :: v43 :: v44 :: v45 :: v46 :: v47 :: v48 :: v49 :: v50 :: v51 :: v52 :: v53 :: v54 :: v55 :: v56 :: v57 :: v58 :: v59 :: v60 :: v61 :: v62 :: v63 :: v64 :: v65 :: v66 :: v67 :: v68 :: v69 :: v70 :: v71 :: v72 :: v73 :: v74 :: v75 :: v76 :: v77 :: v78 :: v79 :: v80 :: v81 :: v82 :: v83 :: v84 :: v85 :: v86 :: v87 :: v88 :: v89 :: v90 :: v91 :: v92 :: v93 :: v94 :: v95 :: v96 :: v97 :: v98 :: v99 :: v100 :: v101 :: v102 :: v103 :: v104 :: v105 :: v106 :: v107 :: v108 :: v109 :: v110 :: v111 :: v112 :: v113 :: v114 :: v115 :: v116 :: v117 :: v118 :: v119 :: v120 :: v121 :: v122 :: v123 :: v124 :: v125 :: v126 :: v127 :: v128 :: v129 :: v130 :: v131 :: v132 :: v133 :: v134 :: v135 :: v136 :: v137 :: v138 :: v139 :: v140 :: v141 :: v142 :: v143 :: v144 :: v145 :: v146 :: v147 :: v148 :: v149 :: v150 :: v151 :: v152 :: v153 :: v154 :: v155 :: v156 :: v157 :: v158 :: v159 :: v160 :: []), []⟩ Y := by
  have HK := Lib.hid hK0
  clear hK0
  conv => arg 2; whnf
  obtain ⟨c0, c1, c2⟩ := cells3 HK.out.at_
  have hgl := HK.out.lt
  go_wp2_with fail
  refine (lower_x HK.out.sc.nd).mono ?_
  rintro e w1 ⟨rfl, hF⟩
  have HK1 := Lib.hid (HK.out.frm0 hF)
  clear hF c0 c1 c2 hgl
  obtain ⟨c0, c1, c2⟩ := cells3 HK1.out.at_
  have hgl := HK1.out.lt
  go_wp2_with fail
  refine (lower_0 HK1.out.sc.nd HK1.out.sc.laid).mono ?_
  rintro e Y2 ⟨rfl, hF⟩
  have HK2 := Lib.hid (HK1.out.frm0 hF)
  clear hF c0 c1 c2 hgl
  go_wp2_with fail
  refine wp_region_noPanic ?_
  refine wp_region_held_drew (S := fun w' => Frm [] Y2 w') (by kernel_rfl) ((Frm.refl _ _).drew) (fun hHeld => ?_)
  refine take_in (i := 0) (d := 118) (v := .pointer (some ⟨g, 1, none⟩)) rfl rfl (by kernel_rfl) (by kernel_rfl) (by kernel_rfl) (fun _ _ _ h => h) (by kernel_rfl) (fun _ _ => rfl) (by assumption) ?_
  try simp only [Act.put, List.setIfInBounds_toArray, List.set_cons_zero, List.set_cons_succ]
  refine take_in (i := 1) (d := 119) (v := .pointer (some ⟨np, 0, none⟩)) rfl rfl (by kernel_rfl) (by kernel_rfl) (by kernel_rfl) (fun _ _ _ h => h) (by kernel_rfl) (fun w' hS => by have hS' : Frm [] Y2 w' := hS; obtain ⟨c0, c1, c2⟩ := cells3 (hS'.heap HK2.out.at_ (by simp)); clear hS hS'; go_simp) (by assumption) ?_
  try simp only [Act.put, List.setIfInBounds_toArray, List.set_cons_zero, List.set_cons_succ]
  refine take_in (i := 2) (d := 120) (v := .agg #[.pointer (some ⟨p, 0, none⟩), .pointer (some ⟨np, 0, none⟩), .int .i64 16]) rfl rfl (by kernel_rfl) (by kernel_rfl) (by kernel_rfl) (fun _ _ _ h => h) (by kernel_rfl) (fun w' hS => by have hS' : Frm [] Y2 w' := hS; obtain ⟨c0, c1, c2⟩ := cells3 (hS'.heap HK2.out.at_ (by simp)); clear hS hS'; go_simp) (by assumption) ?_
  try simp only [Act.put, List.setIfInBounds_toArray, List.set_cons_zero, List.set_cons_succ]
  refine wpAnyH_ready (rs := [3]) (by kernel_rfl) (by simp) ?_
  refine AllReadyH.cons rfl (fun K hK => ?_) AllReadyH.nil
  go_simp
  go_at_call 11
  refine (move_any (B := B) (HK2.out.sc.nd.frm (by (repeat' (first | assumption | exact Frm.refl _ _ | apply Frm.drew | apply Frm.drewN)))) 16 (by have := HK2.out.sc.hi; show B ≤ Y2.heap.size; omega) (wd := 16) (by decide) (by decide) 0 (by decide) 2 0 (by decide) (by decide)).mono ?_
  rintro e wa1 ⟨P1, rfl, g1, hP1, hm1, -, -⟩
  have s1 : Frm [] Y2 wa1 := Frm.trans (by (repeat' (first | assumption | exact Frm.refl _ _ | apply Frm.drew | apply Frm.drewN))) g1
  have HP1 := Lib.hid hP1
  have HM1 := Lib.hid hm1
  clear g1 hP1 hm1
  refine hK.out _ _ (by exact s1) (fun hHeld => ?_)
  clear hK K
  try change wpAnyH _ _ _ _ _ _ _ (Act.put _ (some 121) _) _
  try simp only [Act.put, List.setIfInBounds_toArray, List.set_cons_zero, List.set_cons_succ]
  refine wpAnyH_ready (rs := [4]) (by kernel_rfl) (by simp) ?_
  refine AllReadyH.cons rfl (fun K hK => ?_) AllReadyH.nil
  go_simp
  go_at_call 26
  refine (decide_nil1 (v := .pointer (some ⟨np, 0, none⟩)) 0 0 HP1.out (by rw [HM1.out]; rfl) (by have := HK2.out.sc.hi; have := s1.size; omega) (.inl rfl)).mono ?_
  rintro e wa2 ⟨rfl, g2⟩
  have s2 : Frm [] Y2 wa2 := s1.trans g2
  clear g2
  refine hK.out _ _ (by exact s2) (fun hHeld => ?_)
  clear hK K
  try change wpAnyH _ _ _ _ _ _ _ (Act.put _ (some 122) _) _
  try simp only [Act.put, List.setIfInBounds_toArray, List.set_cons_zero, List.set_cons_succ]
  refine take_in (i := 5) (d := 117) (v := .tuple #[.pointer none, .int .i64 1]) rfl rfl (by kernel_rfl) (by kernel_rfl) (by kernel_rfl) (fun _ _ _ h => h) (by kernel_rfl) (fun _ _ => rfl) (by assumption) ?_
  try simp only [Act.put, List.setIfInBounds_toArray, List.set_cons_zero, List.set_cons_succ]
  refine take_in (i := 6) (d := 123) (v := .pointer none) rfl rfl (by kernel_rfl) (by kernel_rfl) (by kernel_rfl) (fun _ _ _ h => h) (by kernel_rfl) (fun _ _ => rfl) (by assumption) ?_
  try simp only [Act.put, List.setIfInBounds_toArray, List.set_cons_zero, List.set_cons_succ]
  refine take_in (i := 7) (d := 124) (v := .int .i64 1) rfl rfl (by kernel_rfl) (by kernel_rfl) (by kernel_rfl) (fun _ _ _ h => h) (by kernel_rfl) (fun _ _ => rfl) (by assumption) ?_
  try simp only [Act.put, List.setIfInBounds_toArray, List.set_cons_zero, List.set_cons_succ]
  refine take_in (i := 8) (d := 8) (v := .pointer none) rfl rfl (by kernel_rfl) (by kernel_rfl) (by kernel_rfl) (fun _ _ _ h => h) (by kernel_rfl) (fun _ _ => rfl) (by assumption) ?_
  try simp only [Act.put, List.setIfInBounds_toArray, List.set_cons_zero, List.set_cons_succ]
  refine take_in (i := 9) (d := 9) (v := .int .i64 1) rfl rfl (by kernel_rfl) (by kernel_rfl) (by kernel_rfl) (fun _ _ _ h => h) (by kernel_rfl) (fun _ _ => rfl) (by assumption) ?_
  try simp only [Act.put, List.setIfInBounds_toArray, List.set_cons_zero, List.set_cons_succ]
  refine wpAnyH_done (by kernel_rfl) ?_ _
  refine NoPanic.normal ?_
  have HK3 := Lib.hid (HK2.out.frm0 s2)
  obtain ⟨c0, c1, c2⟩ := cells3 HK3.out.at_
  have hgl := HK3.out.lt
  go_wp2_with fail
  refine (raise_4 HK3.out.sc.nd).mono ?_
  rintro e wr ⟨rfl, hF⟩
  have HK4 := Lib.hid (HK3.out.frm0 hF)
  clear hF c0 c1 c2 hgl
  go_wp2
  go_ret
  exact ⟨rfl, HK4.out.frm⟩
set_option maxRecDepth 1000000 in
set_option maxHeartbeats 4000000 in
theorem kn8 {w Y : World} {B np p d g : Nat} (v0 v2 v4 v5 v6 v7 v8 v9 v10 v11 v12 v13 v14 v15 v16 v17 v18 v19 v20 v21 v22 v23 v24 v25 v26 v27 v28 v29 v30 v31 v32 v33 v34 v35 v36 v37 v38 v39 v40 v41 v42 v43 v44 v45 v46 v47 v48 v49 v50 v51 v52 v53 v54 v55 v56 v57 v58 v59 v60 v61 v62 v63 v64 v65 v66 v67 v68 v69 v70 v71 v72 v73 v74 v75 v76 v77 v78 v79 v80 v81 v82 v83 v84 v85 v86 v87 v88 v89 v90 v91 v92 v93 v94 v95 v96 v97 v98 v99 v100 v101 v102 v103 v104 v105 v106 v107 v108 v109 v110 v111 v112 v113 v114 v115 v116 v117 v118 v119 v120 v121 v122 v123 v124 v125 v126 v127 v128 v129 v130 v131 v132 v133 v134 v135 v136 v137 v138 v139 v140 v141 v142 v143 v144 v145 v146 v147 v148 v149 v150 v151 v152 v153 v154 v155 v156 v157 v158 v159 v160 : Value) {D : Nat} {P : Nat → Part} (hK0 : Kn w Y B np p d g wA) (hD : DAt Y B 2 0 D P kA) (hW : ∀ x ∈ d :: D :: bls P, w.heap.size ≤ x) (hgn : ∀ x ∈ d :: D :: bls P, x ≠ g) :
    Code.wp Tryz.prog (knT 8) (bodyPost Tryz.prog Tryz.f7 (Ret (.bool true) (fun w' => Frm [] w w'))) ⟨List.toArray (v0 :: .pointer (some ⟨g, 0, none⟩) :: v2 :: .pointer (some ⟨D, 0, none⟩) :: v4 :: v5 :: v6 :: v7 :: v8 :: v9 :: v10 :: v11 :: v12 :: v13 :: v14 :: v15 :: v16 :: v17 :: v18 :: v19 :: v20 :: v21 :: v22 :: v23 :: v24 :: v25 :: v26 :: v27 :: v28 :: v29 :: v30 :: v31 :: v32 :: v33 :: v34 :: v35 :: v36 :: v37 :: v38 :: v39 :: v40 :: v41 :: v42 :: v43 :: v44 :: v45 :: v46 :: v47 :: v48 :: v49 :: v50 :: v51 :: v52 :: v53 :: v54 :: v55 :: v56 :: v57 :: v58 :: v59 :: v60 :: v61 :: v62 :: v63 :: v64 :: v65 :: v66 :: v67 :: v68 :: v69 :: v70 :: v71 :: v72 :: v73 :: v74 :: v75 :: v76 :: v77 :: v78 :: v79 :: v80 :: v81 :: v82 :: v83 :: v84 :: v85 :: v86 :: v87 :: v88 :: v89 :: v90 :: v91 :: v92 :: v93 :: v94 :: v95 :: v96 :: v97 :: v98 :: v99 :: v100 :: v101 :: v102 :: v103 :: v104 :: v105 :: v106 :: v107 :: v108 :: v109 :: v110 :: v111 :: v112 :: v113 :: v114 :: v115 :: v116 :: v117 :: v118 :: v119 :: v120 :: v121 :: v122 :: v123 :: v124 :: v125 :: v126 :: v127 :: v128 :: v129 :: v130 :: v131 :: v132 :: v133 :: v134 :: v135 :: v136 :: v137 :: v138 :: v139 :: v140 :: v141 :: v142 :: v143 :: v144 :: v145 :: v146 :: v147 :: v148 :: v149 :: v150 :: v151 :: v152 :: v153 :: v154 :: v155 :: v156 :: v157 :: v158 :: v159 :: v160 :: []), []⟩ Y := by
  have HK := Lib.hid hK0
  have HD := Lib.hid hD
  have HW := Lib.hid hW
  have HG : Hid (∀ w', Frm (d :: D :: bls P) Y w' → w'.heap[g]? = some (.cells #[.pointer (some ⟨p, 0, none⟩), .pointer (some ⟨np, 0, none⟩), .int .i64 16] 27 (0, 0))) := Lib.hid fun w' hf => hf.heap hK0.at_ (fun hx => hgn g hx rfl)
  clear hK0 hD hW hgn
  conv => arg 2; whnf
  refine wp_seq_k ?_
  intro K0 hK0
  have HK0 := Lib.hid hK0
  clear hK0
  go_wp2_with fail
  refine wp_region_noPanic ?_
  refine wp_region_held_drew (S := fun w' => Frm (d :: D :: bls P) Y w') (by kernel_rfl) ((Frm.refl _ _).drew) (fun hHeld => ?_)
  refine take_in (i := 0) (d := 79) (v := .pointer (some ⟨D, 0, none⟩)) rfl rfl (by kernel_rfl) (by kernel_rfl) (by kernel_rfl) (fun _ _ _ h => h) (by kernel_rfl) (fun _ _ => rfl) (by assumption) ?_
  try simp only [Act.put, List.setIfInBounds_toArray, List.set_cons_zero, List.set_cons_succ]
  refine take_in (i := 1) (d := 80) (v := .bool false) rfl rfl (by kernel_rfl) (by kernel_rfl) (by kernel_rfl) (fun _ _ _ h => h) (by kernel_rfl) (fun w' hS => by clear hS; go_simp) (by assumption) ?_
  try simp only [Act.put, List.setIfInBounds_toArray, List.set_cons_zero, List.set_cons_succ]
  refine take_in (i := 2) (d := 81) (v := .bool false) rfl rfl (by kernel_rfl) (by kernel_rfl) (by kernel_rfl) (fun _ _ _ h => h) (by kernel_rfl) (fun _ _ => rfl) (by assumption) ?_
  try simp only [Act.put, List.setIfInBounds_toArray, List.set_cons_zero, List.set_cons_succ]
  refine take_in (i := 3) (d := 82) (v := .agg #[.pointer (some ⟨p, 0, none⟩), .pointer (some ⟨np, 0, none⟩), .int .i64 16]) rfl rfl (by kernel_rfl) (by kernel_rfl) (by kernel_rfl) (fun _ _ _ h => h) (by kernel_rfl) (fun w' hS => by have hS' : Frm (d :: D :: bls P) Y w' := hS; obtain ⟨c0, c1, c2⟩ := cells3 (HG.out w' hS'); clear hS hS'; go_simp) (by assumption) ?_
  try simp only [Act.put, List.setIfInBounds_toArray, List.set_cons_zero, List.set_cons_succ]
  refine take_in (i := 4) (d := 83) (v := .agg #[.pointer (some ⟨p, 0, none⟩), .pointer (some ⟨np, 0, none⟩), .int .i64 16]) rfl rfl (by kernel_rfl) (by kernel_rfl) (by kernel_rfl) (fun _ _ _ h => h) (by kernel_rfl) (fun w' hS => by have hS' : Frm (d :: D :: bls P) Y w' := hS; obtain ⟨c0, c1, c2⟩ := cells3 (HG.out w' hS'); clear hS hS'; go_simp) (by assumption) ?_
  try simp only [Act.put, List.setIfInBounds_toArray, List.set_cons_zero, List.set_cons_succ]
  refine wpAnyH_ready (rs := [5]) (by kernel_rfl) (by simp) ?_
  refine AllReadyH.cons rfl (fun K hK => ?_) AllReadyH.nil
  go_simp
  go_at_call 11
  refine (move_any (B := B) (HK.out.sc.nd.frm (by (repeat' (first | assumption | exact Frm.refl _ _ | apply Frm.drew | apply Frm.drewN)))) 16 (by have := HK.out.sc.hi; show B ≤ Y.heap.size; omega) (wd := 0) (by decide) (by decide) 0 (by decide) 1 1 (by decide) (by decide)).mono ?_
  rintro e wa1 ⟨P1, rfl, g1, hP1, hm1, hg1, hf1⟩
  have s1 : Frm [] Y wa1 := Frm.trans (by (repeat' (first | assumption | exact Frm.refl _ _ | apply Frm.drew | apply Frm.drewN))) g1
  have HP1 := Lib.hid hP1
  have HM1 := Lib.hid hm1
  have HG1 := Lib.hid hg1
  have HF1 : Hid (∀ x ∈ P1.bl, Y.heap.size ≤ x) := Lib.hid hf1
  clear g1 hP1 hm1 hg1 hf1
  refine hK.out _ _ (by exact s1.nil) (fun hHeld => ?_)
  clear hK K
  try change wpAnyH _ _ _ _ _ _ _ (Act.put _ (some 84) _) _
  try simp only [Act.put, List.setIfInBounds_toArray, List.set_cons_zero, List.set_cons_succ]
  refine wpAnyH_ready (rs := [6]) (by kernel_rfl) (by simp) ?_
  refine AllReadyH.cons rfl (fun K hK => ?_) AllReadyH.nil
  go_simp
  go_at_call 19
  obtain ⟨m9, g9, hE, hres⟩ := runM
  refine (ends_mv (HK.out.sc.frm0 s1) 16 HP1.out (by decide) (by rw [HM1.out, HG1.out]; exact hE) hres).mono ?_
  rintro e wa2 ⟨P2, rfl, g2, hSc2, -, -, -, -, -⟩
  clear hE hres
  have s2 : Frm (d :: D :: bls P) Y wa2 := s1.nil.trans_new g2 (fun x hx => by
    rcases List.mem_cons.1 hx with rfl | hx
    · exact .inl (by simp)
    · exact .inr (HF1.out x hx))
  have HSc2 := Lib.hid hSc2
  have HD2 := Lib.hid ((HD.out.frm0 s1).frm g2 (by
    intro hx
    rcases List.mem_cons.1 hx with hx | hx
    · exact (HD.out.ne HK.out.sc.mem).2 hx
    · have := HF1.out _ hx; have := HD.out.obj.lt; omega) (fun i hi x hx hx2 => by
    rcases List.mem_cons.1 hx2 with rfl | hx2
    · exact ((HD.out.at_ i hi).nem HK.out.sc.mem).2 hx
    · have := HF1.out _ hx2; have := (HD.out.at_ i hi).lt x hx; omega))
  clear g2 hSc2
  refine hK.out _ _ (by exact s2) (fun hHeld => ?_)
  clear hK K
  try change wpAnyH _ _ _ _ _ _ _ (Act.put _ (some 85) _) _
  try simp only [Act.put, List.setIfInBounds_toArray, List.set_cons_zero, List.set_cons_succ]
  refine take_in (i := 7) (d := 86) (v := .bool false) rfl rfl (by kernel_rfl) (by kernel_rfl) (by kernel_rfl) (fun _ _ _ h => h) (by kernel_rfl) (fun _ _ => rfl) (by assumption) ?_
  try simp only [Act.put, List.setIfInBounds_toArray, List.set_cons_zero, List.set_cons_succ]
  refine take_in (i := 8) (d := 87) (v := .bool false) rfl rfl (by kernel_rfl) (by kernel_rfl) (by kernel_rfl) (fun _ _ _ h => h) (by kernel_rfl) (fun _ _ => rfl) (by assumption) ?_
  try simp only [Act.put, List.setIfInBounds_toArray, List.set_cons_zero, List.set_cons_succ]
  refine take_in (i := 9) (d := 88) (v := .bool false) rfl rfl (by kernel_rfl) (by kernel_rfl) (by kernel_rfl) (fun _ _ _ h => h) (by kernel_rfl) (fun _ _ => rfl) (by assumption) ?_
  try simp only [Act.put, List.setIfInBounds_toArray, List.set_cons_zero, List.set_cons_succ]
  refine take_in (i := 10) (d := 89) (v := .agg #[.pointer (some ⟨p, 0, none⟩), .pointer (some ⟨np, 0, none⟩), .int .i64 16]) rfl rfl (by kernel_rfl) (by kernel_rfl) (by kernel_rfl) (fun _ _ _ h => h) (by kernel_rfl) (fun w' hS => by have hS' : Frm (d :: D :: bls P) Y w' := hS; obtain ⟨c0, c1, c2⟩ := cells3 (HG.out w' hS'); clear hS hS'; go_simp) (by assumption) ?_
  try simp only [Act.put, List.setIfInBounds_toArray, List.set_cons_zero, List.set_cons_succ]
  refine take_in (i := 11) (d := 90) (v := .pointer (some ⟨D, 0, none⟩)) rfl rfl (by kernel_rfl) (by kernel_rfl) (by kernel_rfl) (fun _ _ _ h => h) (by kernel_rfl) (fun _ _ => rfl) (by assumption) ?_
  try simp only [Act.put, List.setIfInBounds_toArray, List.set_cons_zero, List.set_cons_succ]
  refine take_in (i := 12) (d := 91) (v := .iface 57 (.pointer (some ⟨D, 0, none⟩))) rfl rfl (by kernel_rfl) (by kernel_rfl) (by kernel_rfl) (fun _ _ _ h => h) (by kernel_rfl) (fun w' hS => by clear hS; go_simp) (by assumption) ?_
  try simp only [Act.put, List.setIfInBounds_toArray, List.set_cons_zero, List.set_cons_succ]
  refine wpAnyH_ready (rs := [13]) (by kernel_rfl) (by simp) ?_
  refine AllReadyH.cons rfl (fun K hK => ?_) AllReadyH.nil
  go_simp
  go_at_call 19
  obtain ⟨n9, e9, hE, hres⟩ := runC
  refine (ends_d HSc2.out 16 HD2.out HD.out.lo (by decide) hE hres).mono ?_
  rintro e wa3 ⟨P3, rfl, g3, hSc3, -, -⟩
  clear hE hres
  have s3 : Frm (d :: D :: bls P) Y wa3 := s2.trans g3
  have HSc3 := Lib.hid hSc3
  clear g3 hSc3
  refine hK.out _ _ (by exact s3) (fun hHeld => ?_)
  clear hK K
  try change wpAnyH _ _ _ _ _ _ _ (Act.put _ (some 92) _) _
  try simp only [Act.put, List.setIfInBounds_toArray, List.set_cons_zero, List.set_cons_succ]
  refine take_in (i := 14) (d := 93) (v := .bool false) rfl rfl (by kernel_rfl) (by kernel_rfl) (by kernel_rfl) (fun _ _ _ h => h) (by kernel_rfl) (fun _ _ => rfl) (by assumption) ?_
  try simp only [Act.put, List.setIfInBounds_toArray, List.set_cons_zero, List.set_cons_succ]
  refine take_in (i := 15) (d := 94) (v := .bool false) rfl rfl (by kernel_rfl) (by kernel_rfl) (by kernel_rfl) (fun _ _ _ h => h) (by kernel_rfl) (fun _ _ => rfl) (by assumption) ?_
  try simp only [Act.put, List.setIfInBounds_toArray, List.set_cons_zero, List.set_cons_succ]
  refine take_in (i := 16) (d := 95) (v := .bool false) rfl rfl (by kernel_rfl) (by kernel_rfl) (by kernel_rfl) (fun _ _ _ h => h) (by kernel_rfl) (fun _ _ => rfl) (by assumption) ?_
  try simp only [Act.put, List.setIfInBounds_toArray, List.set_cons_zero, List.set_cons_succ]
  refine take_in (i := 17) (d := 96) (v := .agg #[.pointer (some ⟨p, 0, none⟩), .pointer (some ⟨np, 0, none⟩), .int .i64 16]) rfl rfl (by kernel_rfl) (by kernel_rfl) (by kernel_rfl) (fun _ _ _ h => h) (by kernel_rfl) (fun w' hS => by have hS' : Frm (d :: D :: bls P) Y w' := hS; obtain ⟨c0, c1, c2⟩ := cells3 (HG.out w' hS'); clear hS hS'; go_simp) (by assumption) ?_
  try simp only [Act.put, List.setIfInBounds_toArray, List.set_cons_zero, List.set_cons_succ]
  refine wpAnyH_ready (rs := [18]) (by kernel_rfl) (by simp) ?_
  refine AllReadyH.cons rfl (fun K hK => ?_) AllReadyH.nil
  go_simp
  go_at_call 23
  refine (holds_1 HSc3.out 16 (by decide) (by decide) (wd := 0) (by decide) (by decide) (w0 := 1) (w1 := 1099511627776) (by rfl) (by rfl) lkC bits1 ⟨rfl, rfl, rfl, rfl⟩).mono ?_
  rintro e wa4 ⟨rfl, g4, hSc4⟩
  have s4 : Frm (d :: D :: bls P) Y wa4 := s3.trans (g4.weak (by simp))
  have HSc4 := Lib.hid hSc4
  clear g4 hSc4
  refine hK.out _ _ (by exact s4) (fun hHeld => ?_)
  clear hK K
  try change wpAnyH _ _ _ _ _ _ _ (Act.put _ (some 97) _) _
  try simp only [Act.put, List.setIfInBounds_toArray, List.set_cons_zero, List.set_cons_succ]
  refine take_in (i := 19) (d := 98) (v := .bool false) rfl rfl (by kernel_rfl) (by kernel_rfl) (by kernel_rfl) (fun _ _ _ h => h) (by kernel_rfl) (fun _ _ => rfl) (by assumption) ?_
  try simp only [Act.put, List.setIfInBounds_toArray, List.set_cons_zero, List.set_cons_succ]
  refine take_in (i := 20) (d := 99) (v := .bool false) rfl rfl (by kernel_rfl) (by kernel_rfl) (by kernel_rfl) (fun _ _ _ h => h) (by kernel_rfl) (fun _ _ => rfl) (by assumption) ?_
  try simp only [Act.put, List.setIfInBounds_toArray, List.set_cons_zero, List.set_cons_succ]
  refine take_in (i := 21) (d := 100) (v := .bool false) rfl rfl (by kernel_rfl) (by kernel_rfl) (by kernel_rfl) (fun _ _ _ h => h) (by kernel_rfl) (fun _ _ => rfl) (by assumption) ?_
  try simp only [Act.put, List.setIfInBounds_toArray, List.set_cons_zero, List.set_cons_succ]
  refine take_in (i := 22) (d := 101) (v := .agg #[.pointer (some ⟨p, 0, none⟩), .pointer (some ⟨np, 0, none⟩), .int .i64 16]) rfl rfl (by kernel_rfl) (by kernel_rfl) (by kernel_rfl) (fun _ _ _ h => h) (by kernel_rfl) (fun w' hS => by have hS' : Frm (d :: D :: bls P) Y w' := hS; obtain ⟨c0, c1, c2⟩ := cells3 (HG.out w' hS'); clear hS hS'; go_simp) (by assumption) ?_
  try simp only [Act.put, List.setIfInBounds_toArray, List.set_cons_zero, List.set_cons_succ]
  refine wpAnyH_ready (rs := [23]) (by kernel_rfl) (by simp) ?_
  refine AllReadyH.cons rfl (fun K hK => ?_) AllReadyH.nil
  go_simp
  go_at_call 23
  refine (holds_0 HSc4.out 16 (by decide) (by decide) (wd := 16) (by decide) (by decide) (w0 := 0) (w1 := 0) (by rfl) (by rfl) lkD bits0 ⟨rfl, rfl, rfl, rfl⟩).mono ?_
  rintro e wa5 ⟨rfl, g5, hSc5⟩
  have s5 : Frm (d :: D :: bls P) Y wa5 := s4.trans (g5.weak (by simp))
  have HSc5 := Lib.hid hSc5
  clear g5 hSc5
  refine hK.out _ _ (by exact s5) (fun hHeld => ?_)
  clear hK K
  try change wpAnyH _ _ _ _ _ _ _ (Act.put _ (some 102) _) _
  try simp only [Act.put, List.setIfInBounds_toArray, List.set_cons_zero, List.set_cons_succ]
  refine take_in (i := 24) (d := 103) (v := .bool false) rfl rfl (by kernel_rfl) (by kernel_rfl) (by kernel_rfl) (fun _ _ _ h => h) (by kernel_rfl) (fun _ _ => rfl) (by assumption) ?_
  try simp only [Act.put, List.setIfInBounds_toArray, List.set_cons_zero, List.set_cons_succ]
  refine take_in (i := 25) (d := 104) (v := .bool false) rfl rfl (by kernel_rfl) (by kernel_rfl) (by kernel_rfl) (fun _ _ _ h => h) (by kernel_rfl) (fun _ _ => rfl) (by assumption) ?_
  try simp only [Act.put, List.setIfInBounds_toArray, List.set_cons_zero, List.set_cons_succ]
  refine wpAnyH_done (by kernel_rfl) ?_ _
  refine NoPanic.normal ?_
  go_wp2_with fail
  refine HK0.out _ _ ?_
  exact kn9 _ _ _ _ _ _ _ _ _ _ _ _ _ _ _ _ _ _ _ _ _ _ _ _ _ _ _ _ _ _ _ _ _ _ _ _ _ _ _ _ _ _ _ _ _ _ _ _ _ _ _ _ _ _ _ _ _ _ _ _ _ _ _ _ _ _ _ _ _ _ _ _ _ _ _ _ _ _ _ _ _ _ _ _ _ _ _ _ _ _ _ _ _ _ _ _ _ _ _ _ _ _ _ _ _ _ _ _ _ _ _ _ _ _ _ _ _ _ _ _ _ _ _ _ _ _ _ _ _ _ _ _ _ _ _ _ _ _ _ _ _ _ _ _ _ _ _ _ _ _ _ _ _ _ _ _ _ _ _ _ ⟨HSc5.out, HG.out _ s5, HK.out.gB, HK.out.frm.trans_new s5 (fun x hx => .inr (HW.out x hx)), HK.out.new⟩
end Go.Proofs.YticbbfcachnkiaaGreatDoor
