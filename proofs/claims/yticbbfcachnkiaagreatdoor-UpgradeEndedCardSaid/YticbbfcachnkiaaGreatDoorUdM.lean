/- The law's known (by gen_udk.py). -/
import Derived.Test.YticbbfcachnkiaaGreatDoorUdL
namespace Go.Proofs.YticbbfcachnkiaaGreatDoor
open Go.ChangeShapes Go.WideShapes Go.ChangeAt Go.RowKit
set_option linter.unusedVariables false
set_option linter.unusedSimpArgs false
set_option maxRecDepth 1000000 in
set_option maxHeartbeats 4000000 in
theorem kn7 {w Y : World} {B np p d g : Nat} (v0 v2 v3 v4 v5 v6 v7 v8 v9 v10 v11 v12 v13 v14 v15 v16 v17 v18 v19 v20 v21 v22 v23 v24 v25 v26 v27 v28 v29 v30 v31 v32 v33 v34 v35 v36 v37 v38 v39 v40 v41 v42 v43 v44 v45 v46 v47 v48 v49 v50 v51 v52 v53 v54 v55 v56 v57 v58 v59 v60 v61 v62 v63 v64 v65 v66 v67 v68 v69 v70 v71 v72 v73 v74 v75 v76 v77 v78 v79 v80 v81 v82 v83 v84 v85 v86 v87 v88 v89 v90 v91 v92 v93 v94 v95 v96 v97 v98 v99 v100 v101 v102 v103 v104 v105 v106 v107 v108 v109 v110 v111 v112 v113 v114 v115 v116 v117 v118 v119 v120 v121 v122 v123 v124 v125 v126 v127 v128 v129 v130 v131 v132 v133 v134 v135 v136 v137 v138 v139 v140 v141 v142 v143 v144 v145 v146 v147 v148 v149 v150 v151 v152 v153 v154 v155 v156 v157 v158 v159 v160 : Value) (hK0 : Kn w Y B np p d g wA) :
    Code.wp Tryz.prog (knT 7) (bodyPost Tryz.prog Tryz.f7 (Ret (.bool true) (fun w' => Frm [] w w'))) ⟨List.toArray (v0 :: .pointer (some ⟨g, 0, none⟩) :: v2 :: v3 :: v4 :: v5 :: v6 :: v7 :: v8 :: v9 :: v10 :: v11 :: v12 :: v13 :: v14 :: v15 :: v16 :: v17 :: v18 :: v19 :: v20 :: v21 :: v22 :: v23 :: v24 :: v25 :: v26 :: v27 :: v28 :: v29 :: v30 :: v31 :: v32 :: v33 :: v34 :: v35 :: v36 :: v37 :: v38 :: v39 :: v40 :: v41 :: v42 :: v43 :: v44 :: v45 :: v46 :: v47 :: v48 :: v49 :: v50 :: v51 :: v52 :: v53 :: v54 :: v55 :: v56 :: v57 :: v58 :: v59 :: v60 :: v61 :: v62 :: v63 :: v64 :: v65 :: v66 :: v67 :: v68 :: v69 :: v70 :: v71 :: v72 :: v73 :: v74 :: v75 :: v76 :: v77 :: v78 :: v79 :: v80 :: v81 :: v82 :: v83 :: v84 :: v85 :: v86 :: v87 :: v88 :: v89 :: v90 :: v91 :: v92 :: v93 :: v94 :: v95 :: v96 :: v97 :: v98 :: v99 :: v100 :: v101 :: v102 :: v103 :: v104 :: v105 :: v106 :: v107 :: v108 :: v109 :: v110 :: v111 :: v112 :: v113 :: v114 :: v115 :: v116 :: v117 :: v118 :: v119 :: v120 :: v121 :: v122 :: v123 :: v124 :: v125 :: v126 :: v127 :: v128 :: v129 :: v130 :: v131 :: v132 :: v133 :: v134 :: v135 :: v136 :: v137 :: v138 :: v139 :: v140 :: v141 :: v142 :: v143 :: v144 :: v145 :: v146 :: v147 :: v148 :: v149 :: v150 :: v151 :: v152 :: v153 :: v154 :: v155 :: v156 :: v157 :: v158 :: v159 :: v160 :: []), []⟩ Y := by
  have HK := Lib.hid hK0
  clear hK0
  conv => arg 2; whnf
  refine wp_seq_k ?_
  intro K0 hK0
  have HK0 := Lib.hid hK0
  clear hK0
  go_wp2_with fail
  refine wp_region_noPanic ?_
  refine wp_region_held_drew (S := fun w' => Frm [] Y w') (by kernel_rfl) ((Frm.refl _ _).drew) (fun hHeld => ?_)
  refine take_in (i := 0) (d := 73) (v := .agg #[.pointer (some ⟨p, 0, none⟩), .pointer (some ⟨np, 0, none⟩), .int .i64 16]) rfl rfl (by kernel_rfl) (by kernel_rfl) (by kernel_rfl) (fun _ _ _ h => h) (by kernel_rfl) (fun w' hS => by have hS' : Frm [] Y w' := hS; obtain ⟨c0, c1, c2⟩ := cells3 (hS'.heap HK.out.at_ (by simp)); clear hS hS'; go_simp) (by assumption) ?_
  try simp only [Act.put, List.setIfInBounds_toArray, List.set_cons_zero, List.set_cons_succ]
  refine take_in (i := 1) (d := 74) (v := .agg #[.pointer (some ⟨p, 0, none⟩), .pointer (some ⟨np, 0, none⟩), .int .i64 16]) rfl rfl (by kernel_rfl) (by kernel_rfl) (by kernel_rfl) (fun _ _ _ h => h) (by kernel_rfl) (fun w' hS => by have hS' : Frm [] Y w' := hS; obtain ⟨c0, c1, c2⟩ := cells3 (hS'.heap HK.out.at_ (by simp)); clear hS hS'; go_simp) (by assumption) ?_
  try simp only [Act.put, List.setIfInBounds_toArray, List.set_cons_zero, List.set_cons_succ]
  refine take_in (i := 3) (d := 76) (v := .agg #[.pointer (some ⟨p, 0, none⟩), .pointer (some ⟨np, 0, none⟩), .int .i64 16]) rfl rfl (by kernel_rfl) (by kernel_rfl) (by kernel_rfl) (fun _ _ _ h => h) (by kernel_rfl) (fun w' hS => by have hS' : Frm [] Y w' := hS; obtain ⟨c0, c1, c2⟩ := cells3 (hS'.heap HK.out.at_ (by simp)); clear hS hS'; go_simp) (by assumption) ?_
  try simp only [Act.put, List.setIfInBounds_toArray, List.set_cons_zero, List.set_cons_succ]
  refine wpAnyH_ready (rs := [2]) (by kernel_rfl) (by simp) ?_
  refine AllReadyH.cons rfl (fun K hK => ?_) AllReadyH.nil
  go_simp
  go_at_call 11
  refine (move_any (B := B) (HK.out.sc.nd.frm (by (repeat' (first | assumption | exact Frm.refl _ _ | apply Frm.drew | apply Frm.drewN)))) 16 (by have := HK.out.sc.hi; show B ≤ Y.heap.size; omega) (wd := 16) (by decide) (by decide) 0 (by decide) 1 1 (by decide) (by decide)).mono ?_
  rintro e wa1 ⟨P1, rfl, g1, hP1, hm1, hg1, hf1⟩
  have s1 : Frm [] Y wa1 := Frm.trans (by (repeat' (first | assumption | exact Frm.refl _ _ | apply Frm.drew | apply Frm.drewN))) g1
  have HP1 := Lib.hid hP1
  have HM1 := Lib.hid hm1
  have HG1 := Lib.hid hg1
  have HF1 := Lib.hid hf1
  clear g1 hP1 hm1 hg1 hf1
  refine hK.out _ _ (by exact s1) (fun hHeld => ?_)
  clear hK K
  try change wpAnyH _ _ _ _ _ _ _ (Act.put _ (some 75) _) _
  try simp only [Act.put, List.setIfInBounds_toArray, List.set_cons_zero, List.set_cons_succ]
  refine wpAnyH_ready (rs := [4]) (by kernel_rfl) (by simp) ?_
  refine AllReadyH.cons rfl (fun K hK => ?_) AllReadyH.nil
  go_simp
  go_at_call 11
  refine (move_any (B := B) (HK.out.sc.nd.frm s1) 16 (by have := HK.out.sc.hi; have := s1.size; omega) (wd := 16) (by decide) (by decide) 0 (by decide) 2 0 (by decide) (by decide)).mono ?_
  rintro e wa2 ⟨P2, rfl, g2, hP2, hm2, hg2, hf2⟩
  have s2 : Frm [] Y wa2 := Frm.trans s1 g2
  have HP2 := Lib.hid hP2
  have HM2 := Lib.hid hm2
  have HG2 := Lib.hid hg2
  have HF2 := Lib.hid hf2
  have HQ2 := Lib.hid (HP1.out.frm0 g2)
  clear g2 hP2 hm2 hg2 hf2
  refine hK.out _ _ (by exact s2) (fun hHeld => ?_)
  clear hK K
  try change wpAnyH _ _ _ _ _ _ _ (Act.put _ (some 77) _) _
  try simp only [Act.put, List.setIfInBounds_toArray, List.set_cons_zero, List.set_cons_succ]
  refine wpAnyH_ready (rs := [5]) (by kernel_rfl) (by simp) ?_
  refine AllReadyH.cons rfl (fun K hK => ?_) AllReadyH.nil
  go_simp
  go_at_call 13
  refine (ldecide (HK.out.sc.nd.frm s2) 16 0 (by decide) HQ2.out HP2.out (by rw [HM1.out]; rfl) (by rw [HM2.out]; rfl) (by have := HK.out.sc.hi; have := s2.size; omega)).mono ?_
  rintro e wa3 ⟨D, P, rfl, g3, hD, hDl, hPl⟩
  have s3 : Frm [] Y wa3 := Frm.trans s2 g3
  rw [HM1.out, HM2.out, HG1.out, HG2.out] at hD
  have HD := Lib.hid hD
  have HDl : Hid (Y.heap.size ≤ D) := Lib.hid (Nat.le_trans s2.size hDl)
  have HPl : Hid (∀ i, i < 5 → ∀ x ∈ (P i).bl, Y.heap.size ≤ x) := Lib.hid (fun i hi x hx => Nat.le_trans s2.size (hPl i hi x hx))
  clear g3 hD hDl hPl
  refine hK.out _ _ (by exact s3) (fun hHeld => ?_)
  clear hK K
  try change wpAnyH _ _ _ _ _ _ _ (Act.put _ (some 78) _) _
  try simp only [Act.put, List.setIfInBounds_toArray, List.set_cons_zero, List.set_cons_succ]
  refine take_in (i := 6) (d := 3) (v := .pointer (some ⟨D, 0, none⟩)) rfl rfl (by kernel_rfl) (by kernel_rfl) (by kernel_rfl) (fun _ _ _ h => h) (by kernel_rfl) (fun _ _ => rfl) (by assumption) ?_
  try simp only [Act.put, List.setIfInBounds_toArray, List.set_cons_zero, List.set_cons_succ]
  refine wpAnyH_done (by kernel_rfl) ?_ _
  refine NoPanic.normal ?_
  go_wp2_with fail
  refine HK0.out _ _ ?_
  have hYl := HK.out.lt
  have hYB := HK.out.sc.hi
  have hBg := HK.out.gB
  have hwY := HK.out.frm.size
  refine kn8 _ _ _ _ _ _ _ _ _ _ _ _ _ _ _ _ _ _ _ _ _ _ _ _ _ _ _ _ _ _ _ _ _ _ _ _ _ _ _ _ _ _ _ _ _ _ _ _ _ _ _ _ _ _ _ _ _ _ _ _ _ _ _ _ _ _ _ _ _ _ _ _ _ _ _ _ _ _ _ _ _ _ _ _ _ _ _ _ _ _ _ _ _ _ _ _ _ _ _ _ _ _ _ _ _ _ _ _ _ _ _ _ _ _ _ _ _ _ _ _ _ _ _ _ _ _ _ _ _ _ _ _ _ _ _ _ _ _ _ _ _ _ _ _ _ _ _ _ _ _ _ _ _ _ _ _ _ _ _ (HK.out.frm0 s3) HD.out (fun x hx => ?_) (fun x hx => ?_)
  · rcases List.mem_cons.1 hx with rfl | hx
    · exact HK.out.new
    rcases List.mem_cons.1 hx with rfl | hx
    · have := HDl.out; omega
    · obtain ⟨i, hi, hx⟩ := mem_bls.1 hx
      have := HPl.out i hi x hx; omega
  · rcases List.mem_cons.1 hx with rfl | hx
    · omega
    rcases List.mem_cons.1 hx with rfl | hx
    · have := HDl.out; omega
    · obtain ⟨i, hi, hx⟩ := mem_bls.1 hx
      have := HPl.out i hi x hx; omega
set_option maxRecDepth 1000000 in
set_option maxHeartbeats 4000000 in
theorem kn5 {w Y : World} {B np p d g : Nat} (v0 v2 v3 v4 v5 v6 v7 v8 v9 v10 v11 v12 v13 v14 v15 v16 v17 v18 v19 v20 v21 v22 v23 v24 v25 v26 v27 v28 v29 v30 v31 v32 v33 v34 v35 v36 v37 v38 v39 v40 v41 v42 v43 v44 v45 v46 v47 v48 v49 v50 v51 v52 v53 v54 v55 v56 v57 v58 v59 v60 v61 v62 v63 v64 v65 v66 v67 v68 v69 v70 v71 v72 v73 v74 v75 v76 v77 v78 v79 v80 v81 v82 v83 v84 v85 v86 v87 v88 v89 v90 v91 v92 v93 v94 v95 v96 v97 v98 v99 v100 v101 v102 v103 v104 v105 v106 v107 v108 v109 v110 v111 v112 v113 v114 v115 v116 v117 v118 v119 v120 v121 v122 v123 v124 v125 v126 v127 v128 v129 v130 v131 v132 v133 v134 v135 v136 v137 v138 v139 v140 v141 v142 v143 v144 v145 v146 v147 v148 v149 v150 v151 v152 v153 v154 v155 v156 v157 v158 v159 v160 : Value) (hK0 : Kn w Y B np p d g wA) :
    Code.wp Tryz.prog (knT 5) (bodyPost Tryz.prog Tryz.f7 (Ret (.bool true) (fun w' => Frm [] w w'))) ⟨List.toArray (v0 :: .pointer (some ⟨g, 0, none⟩) :: v2 :: v3 :: v4 :: v5 :: v6 :: v7 :: v8 :: v9 :: v10 :: v11 :: v12 :: v13 :: v14 :: v15 :: v16 :: v17 :: v18 :: v19 :: v20 :: v21 :: v22 :: v23 :: v24 :: v25 :: v26 :: v27 :: v28 :: v29 :: v30 :: v31 :: v32 :: v33 :: v34 :: v35 :: v36 :: v37 :: v38 :: v39 :: v40 :: v41 :: v42 :: v43 :: v44 :: v45 :: v46 :: v47 :: v48 :: v49 :: v50 :: v51 :: v52 :: v53 :: v54 :: v55 :: v56 :: v57 :: v58 :: v59 :: v60 :: v61 :: v62 :: v63 :: v64 :: v65 :: v66 :: v67 :: v68 :: v69 :: v70 :: v71 :: v72 :: v73 :: v74 :: v75 :: v76 :: v77 :: v78 :: v79 :: v80 :: v81 :: v82 :: v83 :: v84 :: v85 :: v86 :: v87 :: v88 :: v89 :: v90 :: v91 :: v92 :: v93 :: v94 :: v95 :: v96 :: v97 :: v98 :: v99 :: v100 :: v101 :: v102 :: v103 :: v104 :: v105 :: v106 :: v107 :: v108 :: v109 :: v110 :: v111 :: v112 :: v113 :: v114 :: v115 :: v116 :: v117 :: v118 :: v119 :: v120 :: v121 :: v122 :: v123 :: v124 :: v125 :: v126 :: v127 :: v128 :: v129 :: v130 :: v131 :: v132 :: v133 :: v134 :: v135 :: v136 :: v137 :: v138 :: v139 :: v140 :: v141 :: v142 :: v143 :: v144 :: v145 :: v146 :: v147 :: v148 :: v149 :: v150 :: v151 :: v152 :: v153 :: v154 :: v155 :: v156 :: v157 :: v158 :: v159 :: v160 :: []), []⟩ Y := by
  have HK := Lib.hid hK0
  clear hK0
  conv => arg 2; whnf
  refine wp_seq_k ?_
  intro K0 hK0
  have HK0 := Lib.hid hK0
  clear hK0
  go_wp2_with fail
  refine wp_region_noPanic ?_
  refine wp_region_held_drew (S := fun w' => Frm [] Y w') (by kernel_rfl) ((Frm.refl _ _).drew) (fun hHeld => ?_)
  refine take_in (i := 0) (d := 48) (v := .agg #[.pointer (some ⟨p, 0, none⟩), .pointer (some ⟨np, 0, none⟩), .int .i64 16]) rfl rfl (by kernel_rfl) (by kernel_rfl) (by kernel_rfl) (fun _ _ _ h => h) (by kernel_rfl) (fun w' hS => by have hS' : Frm [] Y w' := hS; obtain ⟨c0, c1, c2⟩ := cells3 (hS'.heap HK.out.at_ (by simp)); clear hS hS'; go_simp) (by assumption) ?_
  try simp only [Act.put, List.setIfInBounds_toArray, List.set_cons_zero, List.set_cons_succ]
  refine take_in (i := 1) (d := 49) (v := .agg #[.pointer (some ⟨p, 0, none⟩), .pointer (some ⟨np, 0, none⟩), .int .i64 16]) rfl rfl (by kernel_rfl) (by kernel_rfl) (by kernel_rfl) (fun _ _ _ h => h) (by kernel_rfl) (fun w' hS => by have hS' : Frm [] Y w' := hS; obtain ⟨c0, c1, c2⟩ := cells3 (hS'.heap HK.out.at_ (by simp)); clear hS hS'; go_simp) (by assumption) ?_
  try simp only [Act.put, List.setIfInBounds_toArray, List.set_cons_zero, List.set_cons_succ]
  refine take_in (i := 3) (d := 51) (v := .agg #[.pointer (some ⟨p, 0, none⟩), .pointer (some ⟨np, 0, none⟩), .int .i64 16]) rfl rfl (by kernel_rfl) (by kernel_rfl) (by kernel_rfl) (fun _ _ _ h => h) (by kernel_rfl) (fun w' hS => by have hS' : Frm [] Y w' := hS; obtain ⟨c0, c1, c2⟩ := cells3 (hS'.heap HK.out.at_ (by simp)); clear hS hS'; go_simp) (by assumption) ?_
  try simp only [Act.put, List.setIfInBounds_toArray, List.set_cons_zero, List.set_cons_succ]
  refine wpAnyH_ready (rs := [2]) (by kernel_rfl) (by simp) ?_
  refine AllReadyH.cons rfl (fun K hK => ?_) AllReadyH.nil
  go_simp
  go_at_call 11
  refine (move_any (B := B) (HK.out.sc.nd.frm (by (repeat' (first | assumption | exact Frm.refl _ _ | apply Frm.drew | apply Frm.drewN)))) 16 (by have := HK.out.sc.hi; show B ≤ Y.heap.size; omega) (wd := 16) (by decide) (by decide) 0 (by decide) 2 0 (by decide) (by decide)).mono ?_
  rintro e wa1 ⟨P1, rfl, g1, hP1, hm1, hg1, hf1⟩
  have s1 : Frm [] Y wa1 := Frm.trans (by (repeat' (first | assumption | exact Frm.refl _ _ | apply Frm.drew | apply Frm.drewN))) g1
  have HP1 := Lib.hid hP1
  have HM1 := Lib.hid hm1
  have HG1 := Lib.hid hg1
  have HF1 := Lib.hid hf1
  clear g1 hP1 hm1 hg1 hf1
  refine hK.out _ _ (by exact s1) (fun hHeld => ?_)
  clear hK K
  try change wpAnyH _ _ _ _ _ _ _ (Act.put _ (some 50) _) _
  try simp only [Act.put, List.setIfInBounds_toArray, List.set_cons_zero, List.set_cons_succ]
  refine wpAnyH_ready (rs := [4]) (by kernel_rfl) (by simp) ?_
  refine AllReadyH.cons rfl (fun K hK => ?_) AllReadyH.nil
  go_simp
  go_at_call 11
  refine (move_any (B := B) (HK.out.sc.nd.frm s1) 16 (by have := HK.out.sc.hi; have := s1.size; omega) (wd := 16) (by decide) (by decide) 0 (by decide) 1 3 (by decide) (by decide)).mono ?_
  rintro e wa2 ⟨P2, rfl, g2, hP2, hm2, hg2, hf2⟩
  have s2 : Frm [] Y wa2 := Frm.trans s1 g2
  have HP2 := Lib.hid hP2
  have HM2 := Lib.hid hm2
  have HG2 := Lib.hid hg2
  have HF2 := Lib.hid hf2
  have HQ2 := Lib.hid (HP1.out.frm0 g2)
  clear g2 hP2 hm2 hg2 hf2
  refine hK.out _ _ (by exact s2) (fun hHeld => ?_)
  clear hK K
  try change wpAnyH _ _ _ _ _ _ _ (Act.put _ (some 52) _) _
  try simp only [Act.put, List.setIfInBounds_toArray, List.set_cons_zero, List.set_cons_succ]
  refine wpAnyH_ready (rs := [5]) (by kernel_rfl) (by simp) ?_
  refine AllReadyH.cons rfl (fun K hK => ?_) AllReadyH.nil
  go_simp
  go_at_call 13
  refine (ldecide (HK.out.sc.nd.frm s2) 16 0 (by decide) HQ2.out HP2.out (by rw [HM1.out]; rfl) (by rw [HM2.out]; rfl) (by have := HK.out.sc.hi; have := s2.size; omega)).mono ?_
  rintro e wa3 ⟨D, P, rfl, g3, hD, hDl, hPl⟩
  have s3 : Frm [] Y wa3 := Frm.trans s2 g3
  rw [HM1.out, HM2.out, HG1.out, HG2.out] at hD
  have HD := Lib.hid hD
  have HDl : Hid (Y.heap.size ≤ D) := Lib.hid (Nat.le_trans s2.size hDl)
  have HPl : Hid (∀ i, i < 5 → ∀ x ∈ (P i).bl, Y.heap.size ≤ x) := Lib.hid (fun i hi x hx => Nat.le_trans s2.size (hPl i hi x hx))
  clear g3 hD hDl hPl
  refine hK.out _ _ (by exact s3) (fun hHeld => ?_)
  clear hK K
  try change wpAnyH _ _ _ _ _ _ _ (Act.put _ (some 53) _) _
  try simp only [Act.put, List.setIfInBounds_toArray, List.set_cons_zero, List.set_cons_succ]
  refine take_in (i := 6) (d := 3) (v := .pointer (some ⟨D, 0, none⟩)) rfl rfl (by kernel_rfl) (by kernel_rfl) (by kernel_rfl) (fun _ _ _ h => h) (by kernel_rfl) (fun _ _ => rfl) (by assumption) ?_
  try simp only [Act.put, List.setIfInBounds_toArray, List.set_cons_zero, List.set_cons_succ]
  refine wpAnyH_done (by kernel_rfl) ?_ _
  refine NoPanic.normal ?_
  go_wp2_with fail
  refine HK0.out _ _ ?_
  clear HK0 K0
  have HKa := Lib.hid (HK.out.frm0 s3)
  refine wp_seq_k ?_
  intro K1 hK1
  have HK1 := Lib.hid hK1
  clear hK1
  obtain ⟨n1, e1, hE, hres⟩ := runB
  have hgD : g < D := Nat.lt_of_lt_of_le HK.out.lt HDl.out
  have hYB := HK.out.sc.hi
  have H1 := Lib.hid (ends_d HKa.out.sc 16 HD.out (by have := HDl.out; omega) (by decide) hE hres)
  clear hE hres
  obtain ⟨c0, c1, c2⟩ := cells3 HKa.out.at_
  have hgl := HKa.out.lt
  go_wp2_with fail
  refine H1.out.mono ?_
  rintro e wb ⟨P', rfl, hF, hSc, -, -⟩
  have hFd : Frm [d] Y wb := s3.nil.trans_new hF (fun x hx => by
    rcases List.mem_cons.1 hx with rfl | hx
    · exact .inl (by simp)
    rcases List.mem_cons.1 hx with rfl | hx
    · exact .inr HDl.out
    · obtain ⟨i, hi, hx⟩ := mem_bls.1 hx
      exact .inr (HPl.out i hi x hx))
  have HKb := Lib.hid (HK.out.next hFd hSc)
  clear hF hSc hFd c0 c1 c2 hgl H1
  obtain ⟨c0, c1, c2⟩ := cells3 HKb.out.at_
  have hgl := HKb.out.lt
  go_wp2_with fail
  refine (holds_0 HKb.out.sc 16 (by decide) (by decide) (wd := 0) (by decide) (by decide) (w0 := 0) (w1 := 0) (by rfl) (by rfl) lkA bits0 ⟨rfl, rfl, rfl, rfl⟩).mono ?_
  rintro e wc ⟨rfl, hF, hSc⟩
  have HKc := Lib.hid (HKb.out.next hF hSc)
  clear hF hSc c0 c1 c2 hgl
  obtain ⟨c0, c1, c2⟩ := cells3 HKc.out.at_
  have hgl := HKc.out.lt
  go_wp2_with fail
  refine (holds_0 HKc.out.sc 16 (by decide) (by decide) (wd := 16) (by decide) (by decide) (w0 := 0) (w1 := 0) (by rfl) (by rfl) lkA bits0 ⟨rfl, rfl, rfl, rfl⟩).mono ?_
  rintro e wd ⟨rfl, hF, hSc⟩
  have HKd := Lib.hid (HKc.out.next hF hSc)
  clear hF hSc c0 c1 c2 hgl
  go_wp2_with fail
  refine HK1.out _ _ ?_
  exact kn7 _ _ _ _ _ _ _ _ _ _ _ _ _ _ _ _ _ _ _ _ _ _ _ _ _ _ _ _ _ _ _ _ _ _ _ _ _ _ _ _ _ _ _ _ _ _ _ _ _ _ _ _ _ _ _ _ _ _ _ _ _ _ _ _ _ _ _ _ _ _ _ _ _ _ _ _ _ _ _ _ _ _ _ _ _ _ _ _ _ _ _ _ _ _ _ _ _ _ _ _ _ _ _ _ _ _ _ _ _ _ _ _ _ _ _ _ _ _ _ _ _ _ _ _ _ _ _ _ _ _ _ _ _ _ _ _ _ _ _ _ _ _ _ _ _ _ _ _ _ _ _ _ _ _ _ _ _ _ _ _ HKd.out
set_option maxRecDepth 1000000 in
set_option maxHeartbeats 4000000 in
theorem kn3 {w Y : World} {B np p d g : Nat} (v0 v2 v3 v4 v5 v6 v7 v8 v9 v10 v11 v12 v13 v14 v15 v16 v17 v18 v19 v20 v21 v22 v23 v24 v25 v26 v27 v28 v29 v30 v31 v32 v33 v34 v35 v36 v37 v38 v39 v40 v41 v42 v43 v44 v45 v46 v47 v48 v49 v50 v51 v52 v53 v54 v55 v56 v57 v58 v59 v60 v61 v62 v63 v64 v65 v66 v67 v68 v69 v70 v71 v72 v73 v74 v75 v76 v77 v78 v79 v80 v81 v82 v83 v84 v85 v86 v87 v88 v89 v90 v91 v92 v93 v94 v95 v96 v97 v98 v99 v100 v101 v102 v103 v104 v105 v106 v107 v108 v109 v110 v111 v112 v113 v114 v115 v116 v117 v118 v119 v120 v121 v122 v123 v124 v125 v126 v127 v128 v129 v130 v131 v132 v133 v134 v135 v136 v137 v138 v139 v140 v141 v142 v143 v144 v145 v146 v147 v148 v149 v150 v151 v152 v153 v154 v155 v156 v157 v158 v159 v160 : Value) (hK0 : Kn w Y B np p d g z19) :
    Code.wp Tryz.prog (knT 3) (bodyPost Tryz.prog Tryz.f7 (Ret (.bool true) (fun w' => Frm [] w w'))) ⟨List.toArray (v0 :: .pointer (some ⟨g, 0, none⟩) :: v2 :: v3 :: v4 :: v5 :: v6 :: v7 :: v8 :: v9 :: v10 :: v11 :: v12 :: v13 :: v14 :: v15 :: v16 :: v17 :: v18 :: v19 :: v20 :: v21 :: v22 :: v23 :: v24 :: v25 :: v26 :: v27 :: v28 :: v29 :: v30 :: v31 :: v32 :: v33 :: v34 :: v35 :: v36 :: v37 :: v38 :: v39 :: v40 :: v41 :: v42 :: v43 :: v44 :: v45 :: v46 :: v47 :: v48 :: v49 :: v50 :: v51 :: v52 :: v53 :: v54 :: v55 :: v56 :: v57 :: v58 :: v59 :: v60 :: v61 :: v62 :: v63 :: v64 :: v65 :: v66 :: v67 :: v68 :: v69 :: v70 :: v71 :: v72 :: v73 :: v74 :: v75 :: v76 :: v77 :: v78 :: v79 :: v80 :: v81 :: v82 :: v83 :: v84 :: v85 :: v86 :: v87 :: v88 :: v89 :: v90 :: v91 :: v92 :: v93 :: v94 :: v95 :: v96 :: v97 :: v98 :: v99 :: v100 :: v101 :: v102 :: v103 :: v104 :: v105 :: v106 :: v107 :: v108 :: v109 :: v110 :: v111 :: v112 :: v113 :: v114 :: v115 :: v116 :: v117 :: v118 :: v119 :: v120 :: v121 :: v122 :: v123 :: v124 :: v125 :: v126 :: v127 :: v128 :: v129 :: v130 :: v131 :: v132 :: v133 :: v134 :: v135 :: v136 :: v137 :: v138 :: v139 :: v140 :: v141 :: v142 :: v143 :: v144 :: v145 :: v146 :: v147 :: v148 :: v149 :: v150 :: v151 :: v152 :: v153 :: v154 :: v155 :: v156 :: v157 :: v158 :: v159 :: v160 :: []), []⟩ Y := by
  have HK := Lib.hid hK0
  clear hK0
  conv => arg 2; whnf
  refine wp_seq_k ?_
  intro K0 hK0
  have HK0 := Lib.hid hK0
  clear hK0
  go_wp2_with fail
  refine wp_region_noPanic ?_
  refine wp_region_held_drew (S := fun w' => Frm [] Y w') (by kernel_rfl) ((Frm.refl _ _).drew) (fun hHeld => ?_)
  refine take_in (i := 0) (d := 23) (v := .agg #[.pointer (some ⟨p, 0, none⟩), .pointer (some ⟨np, 0, none⟩), .int .i64 16]) rfl rfl (by kernel_rfl) (by kernel_rfl) (by kernel_rfl) (fun _ _ _ h => h) (by kernel_rfl) (fun w' hS => by have hS' : Frm [] Y w' := hS; obtain ⟨c0, c1, c2⟩ := cells3 (hS'.heap HK.out.at_ (by simp)); clear hS hS'; go_simp) (by assumption) ?_
  try simp only [Act.put, List.setIfInBounds_toArray, List.set_cons_zero, List.set_cons_succ]
  refine take_in (i := 1) (d := 24) (v := .agg #[.pointer (some ⟨p, 0, none⟩), .pointer (some ⟨np, 0, none⟩), .int .i64 16]) rfl rfl (by kernel_rfl) (by kernel_rfl) (by kernel_rfl) (fun _ _ _ h => h) (by kernel_rfl) (fun w' hS => by have hS' : Frm [] Y w' := hS; obtain ⟨c0, c1, c2⟩ := cells3 (hS'.heap HK.out.at_ (by simp)); clear hS hS'; go_simp) (by assumption) ?_
  try simp only [Act.put, List.setIfInBounds_toArray, List.set_cons_zero, List.set_cons_succ]
  refine take_in (i := 3) (d := 26) (v := .agg #[.pointer (some ⟨p, 0, none⟩), .pointer (some ⟨np, 0, none⟩), .int .i64 16]) rfl rfl (by kernel_rfl) (by kernel_rfl) (by kernel_rfl) (fun _ _ _ h => h) (by kernel_rfl) (fun w' hS => by have hS' : Frm [] Y w' := hS; obtain ⟨c0, c1, c2⟩ := cells3 (hS'.heap HK.out.at_ (by simp)); clear hS hS'; go_simp) (by assumption) ?_
  try simp only [Act.put, List.setIfInBounds_toArray, List.set_cons_zero, List.set_cons_succ]
  refine wpAnyH_ready (rs := [2]) (by kernel_rfl) (by simp) ?_
  refine AllReadyH.cons rfl (fun K hK => ?_) AllReadyH.nil
  go_simp
  go_at_call 11
  refine (move_any (B := B) (HK.out.sc.nd.frm (by (repeat' (first | assumption | exact Frm.refl _ _ | apply Frm.drew | apply Frm.drewN)))) 16 (by have := HK.out.sc.hi; show B ≤ Y.heap.size; omega) (wd := 16) (by decide) (by decide) 0 (by decide) 1 1 (by decide) (by decide)).mono ?_
  rintro e wa1 ⟨P1, rfl, g1, hP1, hm1, hg1, hf1⟩
  have s1 : Frm [] Y wa1 := Frm.trans (by (repeat' (first | assumption | exact Frm.refl _ _ | apply Frm.drew | apply Frm.drewN))) g1
  have HP1 := Lib.hid hP1
  have HM1 := Lib.hid hm1
  have HG1 := Lib.hid hg1
  have HF1 := Lib.hid hf1
  clear g1 hP1 hm1 hg1 hf1
  refine hK.out _ _ (by exact s1) (fun hHeld => ?_)
  clear hK K
  try change wpAnyH _ _ _ _ _ _ _ (Act.put _ (some 25) _) _
  try simp only [Act.put, List.setIfInBounds_toArray, List.set_cons_zero, List.set_cons_succ]
  refine wpAnyH_ready (rs := [4]) (by kernel_rfl) (by simp) ?_
  refine AllReadyH.cons rfl (fun K hK => ?_) AllReadyH.nil
  go_simp
  go_at_call 11
  refine (move_any (B := B) (HK.out.sc.nd.frm s1) 16 (by have := HK.out.sc.hi; have := s1.size; omega) (wd := 16) (by decide) (by decide) 0 (by decide) 2 0 (by decide) (by decide)).mono ?_
  rintro e wa2 ⟨P2, rfl, g2, hP2, hm2, hg2, hf2⟩
  have s2 : Frm [] Y wa2 := Frm.trans s1 g2
  have HP2 := Lib.hid hP2
  have HM2 := Lib.hid hm2
  have HG2 := Lib.hid hg2
  have HF2 := Lib.hid hf2
  have HQ2 := Lib.hid (HP1.out.frm0 g2)
  clear g2 hP2 hm2 hg2 hf2
  refine hK.out _ _ (by exact s2) (fun hHeld => ?_)
  clear hK K
  try change wpAnyH _ _ _ _ _ _ _ (Act.put _ (some 27) _) _
  try simp only [Act.put, List.setIfInBounds_toArray, List.set_cons_zero, List.set_cons_succ]
  refine wpAnyH_ready (rs := [5]) (by kernel_rfl) (by simp) ?_
  refine AllReadyH.cons rfl (fun K hK => ?_) AllReadyH.nil
  go_simp
  go_at_call 13
  refine (ldecide (HK.out.sc.nd.frm s2) 16 0 (by decide) HQ2.out HP2.out (by rw [HM1.out]; rfl) (by rw [HM2.out]; rfl) (by have := HK.out.sc.hi; have := s2.size; omega)).mono ?_
  rintro e wa3 ⟨D, P, rfl, g3, hD, hDl, hPl⟩
  have s3 : Frm [] Y wa3 := Frm.trans s2 g3
  rw [HM1.out, HM2.out, HG1.out, HG2.out] at hD
  have HD := Lib.hid hD
  have HDl : Hid (Y.heap.size ≤ D) := Lib.hid (Nat.le_trans s2.size hDl)
  have HPl : Hid (∀ i, i < 5 → ∀ x ∈ (P i).bl, Y.heap.size ≤ x) := Lib.hid (fun i hi x hx => Nat.le_trans s2.size (hPl i hi x hx))
  clear g3 hD hDl hPl
  refine hK.out _ _ (by exact s3) (fun hHeld => ?_)
  clear hK K
  try change wpAnyH _ _ _ _ _ _ _ (Act.put _ (some 28) _) _
  try simp only [Act.put, List.setIfInBounds_toArray, List.set_cons_zero, List.set_cons_succ]
  refine take_in (i := 6) (d := 3) (v := .pointer (some ⟨D, 0, none⟩)) rfl rfl (by kernel_rfl) (by kernel_rfl) (by kernel_rfl) (fun _ _ _ h => h) (by kernel_rfl) (fun _ _ => rfl) (by assumption) ?_
  try simp only [Act.put, List.setIfInBounds_toArray, List.set_cons_zero, List.set_cons_succ]
  refine wpAnyH_done (by kernel_rfl) ?_ _
  refine NoPanic.normal ?_
  go_wp2_with fail
  refine HK0.out _ _ ?_
  clear HK0 K0
  have HKa := Lib.hid (HK.out.frm0 s3)
  refine wp_seq_k ?_
  intro K1 hK1
  have HK1 := Lib.hid hK1
  clear hK1
  obtain ⟨n1, e1, hE, hres⟩ := runA
  have hgD : g < D := Nat.lt_of_lt_of_le HK.out.lt HDl.out
  have hYB := HK.out.sc.hi
  have H1 := Lib.hid (ends_d HKa.out.sc 16 HD.out (by have := HDl.out; omega) (by decide) hE hres)
  clear hE hres
  obtain ⟨c0, c1, c2⟩ := cells3 HKa.out.at_
  have hgl := HKa.out.lt
  go_wp2_with fail
  refine H1.out.mono ?_
  rintro e wb ⟨P', rfl, hF, hSc, -, -⟩
  have hFd : Frm [d] Y wb := s3.nil.trans_new hF (fun x hx => by
    rcases List.mem_cons.1 hx with rfl | hx
    · exact .inl (by simp)
    rcases List.mem_cons.1 hx with rfl | hx
    · exact .inr HDl.out
    · obtain ⟨i, hi, hx⟩ := mem_bls.1 hx
      exact .inr (HPl.out i hi x hx))
  have HKb := Lib.hid (HK.out.next hFd hSc)
  clear hF hSc hFd c0 c1 c2 hgl H1
  obtain ⟨c0, c1, c2⟩ := cells3 HKb.out.at_
  have hgl := HKb.out.lt
  go_wp2_with fail
  refine (holds_0 HKb.out.sc 16 (by decide) (by decide) (wd := 0) (by decide) (by decide) (w0 := 0) (w1 := 0) (by rfl) (by rfl) lkA bits0 ⟨rfl, rfl, rfl, rfl⟩).mono ?_
  rintro e wc ⟨rfl, hF, hSc⟩
  have HKc := Lib.hid (HKb.out.next hF hSc)
  clear hF hSc c0 c1 c2 hgl
  obtain ⟨c0, c1, c2⟩ := cells3 HKc.out.at_
  have hgl := HKc.out.lt
  go_wp2_with fail
  refine (holds_0 HKc.out.sc 16 (by decide) (by decide) (wd := 16) (by decide) (by decide) (w0 := 0) (w1 := 0) (by rfl) (by rfl) lkA bits0 ⟨rfl, rfl, rfl, rfl⟩).mono ?_
  rintro e wd ⟨rfl, hF, hSc⟩
  have HKd := Lib.hid (HKc.out.next hF hSc)
  clear hF hSc c0 c1 c2 hgl
  go_wp2_with fail
  refine HK1.out _ _ ?_
  exact kn5 _ _ _ _ _ _ _ _ _ _ _ _ _ _ _ _ _ _ _ _ _ _ _ _ _ _ _ _ _ _ _ _ _ _ _ _ _ _ _ _ _ _ _ _ _ _ _ _ _ _ _ _ _ _ _ _ _ _ _ _ _ _ _ _ _ _ _ _ _ _ _ _ _ _ _ _ _ _ _ _ _ _ _ _ _ _ _ _ _ _ _ _ _ _ _ _ _ _ _ _ _ _ _ _ _ _ _ _ _ _ _ _ _ _ _ _ _ _ _ _ _ _ _ _ _ _ _ _ _ _ _ _ _ _ _ _ _ _ _ _ _ _ _ _ _ _ _ _ _ _ _ _ _ _ _ _ _ _ _ _ HKd.out
set_option maxRecDepth 1000000 in
set_option maxHeartbeats 4000000 in
theorem known_true {w : World} (hL : Laid w) : Calls Tryz.prog 7 #[] w (Ret (.bool true) (fun w' => Frm [] w w')) := by
  have H := Lib.hid (made_2 hL)
  clear hL
  go_enter Tryz.func7, Tryz.ntmps7
  refine wp_seq_k ?_
  intro Ka hKa
  have HKa := Lib.hid hKa
  clear hKa
  go_wp2_with fail
  refine HKa.out _ _ ?_
  clear HKa Ka
  refine wp_seq_k ?_
  intro Kb hKb
  have HKb := Lib.hid hKb
  clear hKb
  go_wp2_with fail
  refine H.out.mono ?_
  rintro e w1 ⟨np, p, d, rfl, hF, hSc, hd⟩
  have hf1 : Frm [] w1 (w1.alloc (.cells #[.pointer (some ⟨p, 0, none⟩), .pointer (some ⟨np, 0, none⟩), .int .i64 16] 27)) := (Frm.refl _ _).alloc _
  have HK : Hid (Kn w (w1.alloc (.cells #[.pointer (some ⟨p, 0, none⟩), .pointer (some ⟨np, 0, none⟩), .int .i64 16] 27)) w1.heap.size np p d w1.heap.size z19) := Lib.hid ⟨hSc.frm0 hf1, heap_alloc_new _ _, Nat.le_refl _, hF.trans hf1, hd⟩
  obtain ⟨c0, c1, c2⟩ := cells3 HK.out.at_
  have hgl := HK.out.lt
  clear hF hSc hd hf1 H
  go_wp2_with fail
  refine HKb.out _ _ ?_
  clear HKb Kb
  refine wp_seq_k ?_
  intro K0 hK0
  have HK0 := Lib.hid hK0
  clear hK0
  go_wp2_with fail
  refine HK0.out _ _ ?_
  exact kn3 _ _ _ _ _ _ _ _ _ _ _ _ _ _ _ _ _ _ _ _ _ _ _ _ _ _ _ _ _ _ _ _ _ _ _ _ _ _ _ _ _ _ _ _ _ _ _ _ _ _ _ _ _ _ _ _ _ _ _ _ _ _ _ _ _ _ _ _ _ _ _ _ _ _ _ _ _ _ _ _ _ _ _ _ _ _ _ _ _ _ _ _ _ _ _ _ _ _ _ _ _ _ _ _ _ _ _ _ _ _ _ _ _ _ _ _ _ _ _ _ _ _ _ _ _ _ _ _ _ _ _ _ _ _ _ _ _ _ _ _ _ _ _ _ _ _ _ _ _ _ _ _ _ _ _ _ _ _ _ _ HK.out
end Go.Proofs.YticbbfcachnkiaaGreatDoor
