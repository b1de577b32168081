/- known: the first scene, its end (by gen_lvd.py). -/
import Derived.Test.YtjhidkjhfgbaeaaGreatDoorLvE
namespace Go.Proofs.YtjhidkjhfgbaeaaGreatDoor
open Go.ChangeShapes Go.WideShapes Go.ChangeAt Go.RowKit
set_option linter.unusedVariables false
set_option linter.unusedSimpArgs false
set_option maxRecDepth 100000 in
set_option maxHeartbeats 16000000 in
theorem knB2 {w W : World} {b3 np p d cc q1 qe1 ql1 n1 c1 q2 qe2 ql2 n2 c2 B1 B2 : Nat} {a1 a2 : Option Addr} {b7 g2 : Nat} (v0 v1 v2 v4 v8 v9 v10 v11 v12 v13 v14 v15 v16 v17 v18 v19 v20 v21 v22 v23 v24 v25 v26 v27 v28 v29 v30 v31 v32 v33 v34 v35 v36 v37 v38 v39 v40 v41 v42 v43 v44 v45 v46 v47 v48 v49 v50 v51 v52 v53 v54 v55 v56 v57 v58 v59 v60 v61 v62 v63 v64 v65 v66 v67 v68 v69 v70 v71 v72 v73 v74 v75 v76 v77 v78 v79 v80 v81 v82 v83 v84 v85 v86 v87 v88 v89 v90 v91 v92 v93 v94 v95 v96 v97 v98 v99 v100 v101 v102 v103 v104 v105 v106 v107 v108 v109 v110 v111 v112 v113 v114 v115 v116 v117 v118 v119 v120 v121 v122 v123 v124 v125 v126 v127 v128 v129 v130 v131 v132 v133 v134 v135 v136 v137 v138 v139 v140 v141 v142 v143 v144 v145 v146 v147 v148 v149 v150 v151 v152 v153 v154 v155 v156 v157 v158 v159 v160 v161 v162 v163 v164 v165 v166 v167 v168 v169 v170 v171 v172 v173 v174 v175 v176 v177 v178 v179 v180 v181 v182 v183 v184 v185 v186 v187 v188 v189 v190 v191 v192 v193 v194 v195 : Value) (h : K2 w W b3 np p d cc kw6) (hP1 : Pk 3 w.heap.size B1 W q1 qe1 ql1 a1 n1 c1 (pkM kw4 1 1 1) (pkG kw4 1 1 1)) (hP2 : Pk 3 w.heap.size B2 W q2 qe2 ql2 a2 n2 c2 (pkM kw5 2 1 1) (pkG kw5 2 1 1)) (h2 : 2 ≤ w.heap.size) (hZ : ∀ z ∈ q1 :: qe1 :: ql1 :: blk (.slice a1 n1 c1), z < B2) (hb1 : b3 < B1) (hnp : np < B1) (hdB : d < B1) (h12 : B1 ≤ B2) (hB1 : w.heap.size ≤ B1) (h7 : W.heap[b7]? = some (.cells #[.slice none 0 0, .int .i64 (-1), .int .i64 0, .int .i64 (-1), .int .i64 0, .slice (some ⟨g2, 0, none⟩) 2 2] 25 (0, 0))) (hb7 : b7 ≠ b3 ∧ (∀ z ∈ q2 :: qe2 :: ql2 :: blk (.slice a2 n2 c2), z < b7) ∧ B2 ≤ b7) (hL2 : Li2 W (some ⟨g2, 0, none⟩) 2 2 g2 0 [(1, 1), (2, 1)]) (hg2 : g2 ≠ d) :
    Code.wp Tryz.prog (knT 10) (bodyPost Tryz.prog Tryz.f8 (Ret (.bool true) (fun w' => Frm [] w w'))) ⟨List.toArray (v0 :: v1 :: v2 :: .pointer (some ⟨b3, 0, none⟩) :: v4 :: .pointer (some ⟨q1, 0, none⟩) :: .pointer (some ⟨q2, 0, none⟩) :: .pointer (some ⟨b7, 0, none⟩) :: v8 :: v9 :: v10 :: v11 :: v12 :: v13 :: v14 :: v15 :: v16 :: v17 :: v18 :: v19 :: v20 :: v21 :: v22 :: v23 :: v24 :: v25 :: v26 :: v27 :: v28 :: v29 :: v30 :: v31 :: v32 :: v33 :: v34 :: v35 :: v36 :: v37 :: v38 :: v39 :: v40 :: v41 :: v42 :: v43 :: v44 :: v45 :: v46 :: v47 :: v48 :: v49 :: v50 :: v51 :: v52 :: v53 :: v54 :: v55 :: v56 :: v57 :: v58 :: v59 :: v60 :: v61 :: v62 :: v63 :: v64 :: v65 :: v66 :: v67 :: v68 :: v69 :: v70 :: v71 :: v72 :: v73 :: v74 :: v75 :: v76 :: v77 :: v78 :: v79 :: v80 :: v81 :: v82 :: v83 :: v84 :: v85 :: v86 :: v87 :: v88 :: v89 :: v90 :: v91 :: v92 :: v93 :: v94 :: v95 :: v96 :: v97 :: v98 :: v99 :: v100 :: v101 :: v102 :: v103 :: v104 :: v105 :: v106 :: v107 :: v108 :: v109 :: v110 :: v111 :: v112 :: v113 :: v114 :: v115 :: v116 :: v117 :: v118 :: v119 :: v120 :: v121 :: v122 :: v123 :: v124 :: v125 :: v126 :: v127 :: v128 :: v129 :: v130 :: v131 :: v132 :: v133 :: v134 :: v135 :: v136 :: v137 :: v138 :: v139 :: v140 :: v141 :: v142 :: v143 :: v144 :: v145 :: v146 :: v147 :: v148 :: v149 :: v150 :: v151 :: v152 :: v153 :: v154 :: v155 :: v156 :: v157 :: v158 :: v159 :: v160 :: v161 :: v162 :: v163 :: v164 :: v165 :: v166 :: v167 :: v168 :: v169 :: v170 :: v171 :: v172 :: v173 :: v174 :: v175 :: v176 :: v177 :: v178 :: v179 :: v180 :: v181 :: v182 :: v183 :: v184 :: v185 :: v186 :: v187 :: v188 :: v189 :: v190 :: v191 :: v192 :: v193 :: v194 :: v195 :: []), []⟩ W := by
  have Hh := Lib.hid h
  have HhP1 := Lib.hid hP1
  have HhP2 := Lib.hid hP2
  have HhZ := Lib.hid hZ
  have Hh7 := Lib.hid h7
  have HhL2 := Lib.hid hL2
  have HK2 : Hid (K2 w W b3 np p d cc kw6) := Hh
  have HP1 := HhP1
  have HP2 := HhP2
  have HD : Hid (∀ x ∈ (d :: ((q1 :: qe1 :: ql1 :: blk (.slice a1 n1 c1)) ++ (q2 :: qe2 :: ql2 :: blk (.slice a2 n2 c2)))), w.heap.size ≤ x ∧ x ≠ b3 ∧ x ≠ b7) := Lib.hid (fun x hx => by
      simp only [List.mem_cons, List.mem_append] at hx
      rcases hx with rfl | hx | hx
      · exact ⟨h.s.lo.2.1, Ne.symm h.bd, by omega⟩
      · have e1 := hP1.lo x (by simpa using hx)
        have e2 := hZ x (by simpa using hx)
        omega
      · have e1 := hP2.lo x (by simpa using hx)
        have e2 := hb7.2.1 x (by simpa using hx)
        omega)
  have HC : Hid (∀ w', Frm (d :: ((q1 :: qe1 :: ql1 :: blk (.slice a1 n1 c1)) ++ (q2 :: qe2 :: ql2 :: blk (.slice a2 n2 c2)))) W w' → w'.cell? ⟨b3, 0, none⟩ = some (.pointer (some ⟨p, 0, none⟩)) ∧ w'.cell? ⟨b3, 1, none⟩ = some (.pointer (some ⟨np, 0, none⟩))) := Lib.hid fun w' g => cells2L (g.heap HK2.out.b (fun hx => ((HD.out _ hx).2.1) rfl))
  have HC7 : Hid (∀ w', Frm (d :: ((q1 :: qe1 :: ql1 :: blk (.slice a1 n1 c1)) ++ (q2 :: qe2 :: ql2 :: blk (.slice a2 n2 c2)))) W w' → w'.cell? ⟨b7, 0, none⟩ = some (.slice none 0 0) ∧ w'.cell? ⟨b7, 1, none⟩ = some (.int .i64 (-1)) ∧ w'.cell? ⟨b7, 2, none⟩ = some (.int .i64 0) ∧ w'.cell? ⟨b7, 3, none⟩ = some (.int .i64 (-1)) ∧ w'.cell? ⟨b7, 4, none⟩ = some (.int .i64 0) ∧ w'.cell? ⟨b7, 5, none⟩ = some (.slice (some ⟨g2, 0, none⟩) 2 2)) := Lib.hid fun w' g => cells6L (g.heap Hh7.out (fun hx => ((HD.out _ hx).2.2) rfl))
  have hg2d := hg2
  clear h hP1 hP2 hZ h7 hL2 Hh HhP1 HhP2
  conv => arg 2; whnf
  refine wp_seq_k ?_
  intro K0 hK0
  have HK0 := Lib.hid hK0
  clear hK0
  go_wp2_with fail
  refine wp_region_noPanic ?_
  refine wp_region_held_drew (S := fun w' => Frm (d :: ((q1 :: qe1 :: ql1 :: blk (.slice a1 n1 c1)) ++ (q2 :: qe2 :: ql2 :: blk (.slice a2 n2 c2)))) W w') (by kernel_rfl) ((Frm.refl _ _).drew) (fun hHeld => ?_)
  refine take_in (i := 0) (d := 99) (v := .pointer (some ⟨q1, 0, none⟩)) rfl rfl (by kernel_rfl) (by kernel_rfl) (by kernel_rfl) (fun _ _ _ h => h) (by kernel_rfl) (fun _ _ => rfl) (by assumption) ?_
  try simp only [Act.put, List.setIfInBounds_toArray, List.set_cons_zero, List.set_cons_succ]
  refine take_in (i := 1) (d := 100) (v := .bool false) rfl rfl (by kernel_rfl) (by kernel_rfl) (by kernel_rfl) (fun _ _ _ h => h) (by kernel_rfl) (fun _ _ => rfl) (by assumption) ?_
  try simp only [Act.put, List.setIfInBounds_toArray, List.set_cons_zero, List.set_cons_succ]
  refine take_in (i := 2) (d := 101) (v := .bool false) rfl rfl (by kernel_rfl) (by kernel_rfl) (by kernel_rfl) (fun _ _ _ h => h) (by kernel_rfl) (fun _ _ => rfl) (by assumption) ?_
  try simp only [Act.put, List.setIfInBounds_toArray, List.set_cons_zero, List.set_cons_succ]
  refine take_in (i := 3) (d := 102) (v := .pointer (some ⟨q2, 0, none⟩)) rfl rfl (by kernel_rfl) (by kernel_rfl) (by kernel_rfl) (fun _ _ _ h => h) (by kernel_rfl) (fun _ _ => rfl) (by assumption) ?_
  try simp only [Act.put, List.setIfInBounds_toArray, List.set_cons_zero, List.set_cons_succ]
  refine take_in (i := 4) (d := 103) (v := .bool false) rfl rfl (by kernel_rfl) (by kernel_rfl) (by kernel_rfl) (fun _ _ _ h => h) (by kernel_rfl) (fun _ _ => rfl) (by assumption) ?_
  try simp only [Act.put, List.setIfInBounds_toArray, List.set_cons_zero, List.set_cons_succ]
  refine take_in (i := 5) (d := 104) (v := .bool false) rfl rfl (by kernel_rfl) (by kernel_rfl) (by kernel_rfl) (fun _ _ _ h => h) (by kernel_rfl) (fun _ _ => rfl) (by assumption) ?_
  try simp only [Act.put, List.setIfInBounds_toArray, List.set_cons_zero, List.set_cons_succ]
  refine take_in (i := 6) (d := 105) (v := .bool false) rfl rfl (by kernel_rfl) (by kernel_rfl) (by kernel_rfl) (fun _ _ _ h => h) (by kernel_rfl) (fun _ _ => rfl) (by assumption) ?_
  try simp only [Act.put, List.setIfInBounds_toArray, List.set_cons_zero, List.set_cons_succ]
  refine take_in (i := 7) (d := 106) (v := .pointer (some ⟨b3, 0, none⟩)) rfl rfl (by kernel_rfl) (by kernel_rfl) (by kernel_rfl) (fun _ _ _ h => h) (by kernel_rfl) (fun _ _ => rfl) (by assumption) ?_
  try simp only [Act.put, List.setIfInBounds_toArray, List.set_cons_zero, List.set_cons_succ]
  refine take_in (i := 8) (d := 107) (v := .pointer (some ⟨p, 0, none⟩)) rfl rfl (by kernel_rfl) (by kernel_rfl) (by kernel_rfl) (fun _ _ _ h => h) (by kernel_rfl) (fun w' hS => by have hS' : Frm (d :: ((q1 :: qe1 :: ql1 :: blk (.slice a1 n1 c1)) ++ (q2 :: qe2 :: ql2 :: blk (.slice a2 n2 c2)))) W w' := hS; obtain ⟨z0, z1⟩ := HC.out w' hS'; go_simp) (by assumption) ?_
  try simp only [Act.put, List.setIfInBounds_toArray, List.set_cons_zero, List.set_cons_succ]
  refine take_in (i := 9) (d := 108) (v := .pointer (some ⟨b3, 1, none⟩)) rfl rfl (by kernel_rfl) (by kernel_rfl) (by kernel_rfl) (fun _ _ _ h => h) (by kernel_rfl) (fun _ _ => rfl) (by assumption) ?_
  try simp only [Act.put, List.setIfInBounds_toArray, List.set_cons_zero, List.set_cons_succ]
  refine take_in (i := 10) (d := 109) (v := .pointer (some ⟨np, 0, none⟩)) rfl rfl (by kernel_rfl) (by kernel_rfl) (by kernel_rfl) (fun _ _ _ h => h) (by kernel_rfl) (fun w' hS => by have hS' : Frm (d :: ((q1 :: qe1 :: ql1 :: blk (.slice a1 n1 c1)) ++ (q2 :: qe2 :: ql2 :: blk (.slice a2 n2 c2)))) W w' := hS; obtain ⟨z0, z1⟩ := HC.out w' hS'; go_simp) (by assumption) ?_
  try simp only [Act.put, List.setIfInBounds_toArray, List.set_cons_zero, List.set_cons_succ]
  refine take_in (i := 11) (d := 110) (v := .agg #[.slice none 0 0, .int .i64 (-1), .int .i64 0, .int .i64 (-1), .int .i64 0, .slice (some ⟨g2, 0, none⟩) 2 2]) rfl rfl (by kernel_rfl) (by kernel_rfl) (by kernel_rfl) (fun _ _ _ h => h) (by kernel_rfl) (fun w' hS => by have hS' : Frm (d :: ((q1 :: qe1 :: ql1 :: blk (.slice a1 n1 c1)) ++ (q2 :: qe2 :: ql2 :: blk (.slice a2 n2 c2)))) W w' := hS; obtain ⟨z0, z1, z2, z3, z4, z5⟩ := HC7.out w' hS'; go_simp) (by assumption) ?_
  try simp only [Act.put, List.setIfInBounds_toArray, List.set_cons_zero, List.set_cons_succ]
  refine wpAnyH_ready (rs := [12]) (by kernel_rfl) (by simp) ?_
  refine AllReadyH.cons rfl (fun K hK => ?_) AllReadyH.nil
  go_simp
  go_at_call 22
  refine (kk3 (g := 0) (HK2.out.frm0 ((Frm.refl _ _).drew)).s (HhL2.out.frm0 ((Frm.refl _ _).drew)) hg2d).mono ?_
  rintro e w12 ⟨rfl, hF, hS⟩
  have sw12 : Frm (d :: ((q1 :: qe1 :: ql1 :: blk (.slice a1 n1 c1)) ++ (q2 :: qe2 :: ql2 :: blk (.slice a2 n2 c2)))) W w12 := Frm.trans ((Frm.refl (d :: ((q1 :: qe1 :: ql1 :: blk (.slice a1 n1 c1)) ++ (q2 :: qe2 :: ql2 :: blk (.slice a2 n2 c2)))) W).drew) (hF.weak (fun x hx => by simp only [List.mem_cons, List.not_mem_nil, or_false] at hx; rw [hx]; exact List.mem_cons_self ..))
  replace HK2 := Lib.hid ((HK2.out.frm0 ((Frm.refl _ _).drew)).stepd hF hS)
  replace HP1 := Lib.hid ((HP1.out.frm ((Frm.refl [] W).drew) (by simp)).frm hF (fun z hz => by have := HP1.out.lo z hz; simp; omega))
  replace HP2 := Lib.hid ((HP2.out.frm ((Frm.refl [] W).drew) (by simp)).frm hF (fun z hz => by have := HP2.out.lo z hz; simp; omega))
  clear hF hS
  refine hK.out _ _ (by exact sw12) (fun hHeld => ?_)
  clear hK K
  try change wpAnyH _ _ _ _ _ _ _ (Act.put _ (some 111) _) _
  try simp only [Act.put, List.setIfInBounds_toArray, List.set_cons_zero, List.set_cons_succ]
  refine take_in (i := 13) (d := 112) (v := .bool false) rfl rfl (by kernel_rfl) (by kernel_rfl) (by kernel_rfl) (fun _ _ _ h => h) (by kernel_rfl) (fun _ _ => rfl) (by assumption) ?_
  try simp only [Act.put, List.setIfInBounds_toArray, List.set_cons_zero, List.set_cons_succ]
  refine take_in (i := 14) (d := 113) (v := .bool false) rfl rfl (by kernel_rfl) (by kernel_rfl) (by kernel_rfl) (fun _ _ _ h => h) (by kernel_rfl) (fun _ _ => rfl) (by assumption) ?_
  try simp only [Act.put, List.setIfInBounds_toArray, List.set_cons_zero, List.set_cons_succ]
  refine take_in (i := 15) (d := 114) (v := .bool false) rfl rfl (by kernel_rfl) (by kernel_rfl) (by kernel_rfl) (fun _ _ _ h => h) (by kernel_rfl) (fun _ _ => rfl) (by assumption) ?_
  try simp only [Act.put, List.setIfInBounds_toArray, List.set_cons_zero, List.set_cons_succ]
  refine take_in (i := 16) (d := 115) (v := .agg #[.pointer (some ⟨p, 0, none⟩), .pointer (some ⟨np, 0, none⟩)]) rfl rfl (by kernel_rfl) (by kernel_rfl) (by kernel_rfl) (fun _ _ _ h => h) (by kernel_rfl) (fun w' hS => by have hS' : Frm (d :: ((q1 :: qe1 :: ql1 :: blk (.slice a1 n1 c1)) ++ (q2 :: qe2 :: ql2 :: blk (.slice a2 n2 c2)))) W w' := hS; obtain ⟨z0, z1⟩ := HC.out w' hS'; go_simp) (by assumption) ?_
  try simp only [Act.put, List.setIfInBounds_toArray, List.set_cons_zero, List.set_cons_succ]
  refine wpAnyH_ready (rs := [17]) (by kernel_rfl) (by simp) ?_
  refine AllReadyH.cons rfl (fun K hK => ?_) AllReadyH.nil
  go_simp
  go_at_call 41
  refine (kd5 HK2.out.s).mono ?_
  rintro e w13 ⟨rfl, hF, hS⟩
  have sw13 : Frm (d :: ((q1 :: qe1 :: ql1 :: blk (.slice a1 n1 c1)) ++ (q2 :: qe2 :: ql2 :: blk (.slice a2 n2 c2)))) W w13 := Frm.trans sw12 (hF.weak (fun x hx => by simp only [List.mem_cons, List.not_mem_nil, or_false] at hx; rw [hx]; exact List.mem_cons_self ..))
  replace HK2 := Lib.hid (HK2.out.stepd hF hS)
  replace HP1 := Lib.hid ((HP1.out).frm hF (fun z hz => by have := HP1.out.lo z hz; simp; omega))
  replace HP2 := Lib.hid ((HP2.out).frm hF (fun z hz => by have := HP2.out.lo z hz; simp; omega))
  clear hF hS
  refine hK.out _ _ (by exact sw13) (fun hHeld => ?_)
  clear hK K
  try change wpAnyH _ _ _ _ _ _ _ (Act.put _ (some 116) _) _
  try simp only [Act.put, List.setIfInBounds_toArray, List.set_cons_zero, List.set_cons_succ]
  refine take_in (i := 18) (d := 117) (v := .bool false) rfl rfl (by kernel_rfl) (by kernel_rfl) (by kernel_rfl) (fun _ _ _ h => h) (by kernel_rfl) (fun _ _ => rfl) (by assumption) ?_
  try simp only [Act.put, List.setIfInBounds_toArray, List.set_cons_zero, List.set_cons_succ]
  refine take_in (i := 19) (d := 118) (v := .bool false) rfl rfl (by kernel_rfl) (by kernel_rfl) (by kernel_rfl) (fun _ _ _ h => h) (by kernel_rfl) (fun _ _ => rfl) (by assumption) ?_
  try simp only [Act.put, List.setIfInBounds_toArray, List.set_cons_zero, List.set_cons_succ]
  refine take_in (i := 20) (d := 119) (v := .bool false) rfl rfl (by kernel_rfl) (by kernel_rfl) (by kernel_rfl) (fun _ _ _ h => h) (by kernel_rfl) (fun _ _ => rfl) (by assumption) ?_
  try simp only [Act.put, List.setIfInBounds_toArray, List.set_cons_zero, List.set_cons_succ]
  refine take_in (i := 21) (d := 120) (v := .pointer (some ⟨b3, 0, none⟩)) rfl rfl (by kernel_rfl) (by kernel_rfl) (by kernel_rfl) (fun _ _ _ h => h) (by kernel_rfl) (fun _ _ => rfl) (by assumption) ?_
  try simp only [Act.put, List.setIfInBounds_toArray, List.set_cons_zero, List.set_cons_succ]
  refine take_in (i := 22) (d := 121) (v := .pointer (some ⟨p, 0, none⟩)) rfl rfl (by kernel_rfl) (by kernel_rfl) (by kernel_rfl) (fun _ _ _ h => h) (by kernel_rfl) (fun w' hS => by have hS' : Frm (d :: ((q1 :: qe1 :: ql1 :: blk (.slice a1 n1 c1)) ++ (q2 :: qe2 :: ql2 :: blk (.slice a2 n2 c2)))) W w' := hS; obtain ⟨z0, z1⟩ := HC.out w' hS'; go_simp) (by assumption) ?_
  try simp only [Act.put, List.setIfInBounds_toArray, List.set_cons_zero, List.set_cons_succ]
  refine take_in (i := 23) (d := 122) (v := .pointer (some ⟨b3, 1, none⟩)) rfl rfl (by kernel_rfl) (by kernel_rfl) (by kernel_rfl) (fun _ _ _ h => h) (by kernel_rfl) (fun _ _ => rfl) (by assumption) ?_
  try simp only [Act.put, List.setIfInBounds_toArray, List.set_cons_zero, List.set_cons_succ]
  refine take_in (i := 24) (d := 123) (v := .pointer (some ⟨np, 0, none⟩)) rfl rfl (by kernel_rfl) (by kernel_rfl) (by kernel_rfl) (fun _ _ _ h => h) (by kernel_rfl) (fun w' hS => by have hS' : Frm (d :: ((q1 :: qe1 :: ql1 :: blk (.slice a1 n1 c1)) ++ (q2 :: qe2 :: ql2 :: blk (.slice a2 n2 c2)))) W w' := hS; obtain ⟨z0, z1⟩ := HC.out w' hS'; go_simp) (by assumption) ?_
  try simp only [Act.put, List.setIfInBounds_toArray, List.set_cons_zero, List.set_cons_succ]
  refine wpAnyH_ready (rs := [25]) (by kernel_rfl) (by simp) ?_
  refine AllReadyH.cons rfl (fun K hK => ?_) AllReadyH.nil
  go_simp
  have sa : Frm (d :: ((q1 :: qe1 :: ql1 :: blk (.slice a1 n1 c1)) ++ (q2 :: qe2 :: ql2 :: blk (.slice a2 n2 c2)))) W ((w13).alloc (.cells #[.int .i64 1, .int .i64 2] 3)) := (sw13).alloc _
  have hfa : Frm [] (w13) ((w13).alloc (.cells #[.int .i64 1, .int .i64 2] 3)) := (Frm.refl _ _).alloc _
  have hgd : (w13).heap.size ≠ d := by have := (HK2.out).s.lt; simp at this ⊢; omega
  have HLI := Lib.hid (li_new (k := .i64) (l := [1, 2]) (n := 2) rfl (heap_alloc_new (w13) (.cells #[.int .i64 1, .int .i64 2] 3)))
  replace HK2 := Lib.hid (HK2.out.frm0 hfa)
  replace HP1 := Lib.hid (HP1.out.frm hfa (by simp))
  replace HP2 := Lib.hid (HP2.out.frm hfa (by simp))
  clear hfa
  refine hK.out _ _ (by exact sa) (fun hHeld => ?_)
  clear hK K
  try change wpAnyH _ _ _ _ _ _ _ (Act.put _ (some 124) _) _
  try simp only [Act.put, List.setIfInBounds_toArray, List.set_cons_zero, List.set_cons_succ]
  refine wpAnyH_ready (rs := [26]) (by kernel_rfl) (by simp) ?_
  refine AllReadyH.cons rfl (fun K hK => ?_) AllReadyH.nil
  go_simp
  go_at_call 40
  refine (state_any (-1) (-1) (-1) 2).mono ?_
  rintro e w14 ⟨rfl, hF⟩
  have sw14 : Frm (d :: ((q1 :: qe1 :: ql1 :: blk (.slice a1 n1 c1)) ++ (q2 :: qe2 :: ql2 :: blk (.slice a2 n2 c2)))) W w14 := Frm.trans sa hF.nil
  replace HK2 := Lib.hid (HK2.out.frm0 hF)
  replace HLI := Lib.hid (HLI.out.frm0 hF)
  replace HP1 := Lib.hid (HP1.out.frm hF (by simp))
  replace HP2 := Lib.hid (HP2.out.frm hF (by simp))
  clear hF
  refine hK.out _ _ (by exact sw14) (fun hHeld => ?_)
  clear hK K
  try change wpAnyH _ _ _ _ _ _ _ (Act.put _ (some 125) _) _
  try simp only [Act.put, List.setIfInBounds_toArray, List.set_cons_zero, List.set_cons_succ]
  refine wpAnyH_ready (rs := [27]) (by kernel_rfl) (by simp) ?_
  refine AllReadyH.cons rfl (fun K hK => ?_) AllReadyH.nil
  go_simp
  go_at_call 22
  refine (kk4 (g2 := 0) HK2.out.s HLI.out hgd).mono ?_
  rintro e w15 ⟨rfl, hF, hS⟩
  have sw15 : Frm (d :: ((q1 :: qe1 :: ql1 :: blk (.slice a1 n1 c1)) ++ (q2 :: qe2 :: ql2 :: blk (.slice a2 n2 c2)))) W w15 := Frm.trans sw14 (hF.weak (fun x hx => by simp only [List.mem_cons, List.not_mem_nil, or_false] at hx; rw [hx]; exact List.mem_cons_self ..))
  replace HK2 := Lib.hid (HK2.out.stepd hF hS)
  replace HP1 := Lib.hid ((HP1.out).frm hF (fun z hz => by have := HP1.out.lo z hz; simp; omega))
  replace HP2 := Lib.hid ((HP2.out).frm hF (fun z hz => by have := HP2.out.lo z hz; simp; omega))
  clear hF hS
  refine hK.out _ _ (by exact sw15) (fun hHeld => ?_)
  clear hK K
  try change wpAnyH _ _ _ _ _ _ _ (Act.put _ (some 126) _) _
  try simp only [Act.put, List.setIfInBounds_toArray, List.set_cons_zero, List.set_cons_succ]
  refine take_in (i := 28) (d := 127) (v := .bool false) rfl rfl (by kernel_rfl) (by kernel_rfl) (by kernel_rfl) (fun _ _ _ h => h) (by kernel_rfl) (fun _ _ => rfl) (by assumption) ?_
  try simp only [Act.put, List.setIfInBounds_toArray, List.set_cons_zero, List.set_cons_succ]
  refine take_in (i := 29) (d := 128) (v := .bool false) rfl rfl (by kernel_rfl) (by kernel_rfl) (by kernel_rfl) (fun _ _ _ h => h) (by kernel_rfl) (fun _ _ => rfl) (by assumption) ?_
  try simp only [Act.put, List.setIfInBounds_toArray, List.set_cons_zero, List.set_cons_succ]
  refine take_in (i := 30) (d := 129) (v := .bool false) rfl rfl (by kernel_rfl) (by kernel_rfl) (by kernel_rfl) (fun _ _ _ h => h) (by kernel_rfl) (fun _ _ => rfl) (by assumption) ?_
  try simp only [Act.put, List.setIfInBounds_toArray, List.set_cons_zero, List.set_cons_succ]
  refine take_in (i := 31) (d := 130) (v := .agg #[.pointer (some ⟨p, 0, none⟩), .pointer (some ⟨np, 0, none⟩)]) rfl rfl (by kernel_rfl) (by kernel_rfl) (by kernel_rfl) (fun _ _ _ h => h) (by kernel_rfl) (fun w' hS => by have hS' : Frm (d :: ((q1 :: qe1 :: ql1 :: blk (.slice a1 n1 c1)) ++ (q2 :: qe2 :: ql2 :: blk (.slice a2 n2 c2)))) W w' := hS; obtain ⟨z0, z1⟩ := HC.out w' hS'; go_simp) (by assumption) ?_
  try simp only [Act.put, List.setIfInBounds_toArray, List.set_cons_zero, List.set_cons_succ]
  refine take_in (i := 32) (d := 131) (v := .pointer (some ⟨q1, 0, none⟩)) rfl rfl (by kernel_rfl) (by kernel_rfl) (by kernel_rfl) (fun _ _ _ h => h) (by kernel_rfl) (fun _ _ => rfl) (by assumption) ?_
  try simp only [Act.put, List.setIfInBounds_toArray, List.set_cons_zero, List.set_cons_succ]
  refine wpAnyH_ready (rs := [33]) (by kernel_rfl) (by simp) ?_
  refine AllReadyH.cons rfl (fun K hK => ?_) AllReadyH.nil
  go_simp
  go_at_call 43
  refine (kl1 HK2.out.s HP1.out (by omega) (by omega)).mono ?_
  rintro e w16 ⟨rfl, hF, hS⟩
  have sw16 : Frm (d :: ((q1 :: qe1 :: ql1 :: blk (.slice a1 n1 c1)) ++ (q2 :: qe2 :: ql2 :: blk (.slice a2 n2 c2)))) W w16 := Frm.trans sw15 (hF.weak (fun x hx => by
    rcases List.mem_cons.1 hx with rfl | hx
    · exact List.mem_cons_self ..
    · exact List.mem_cons_of_mem _ (List.mem_append_left _ hx)))
  replace HK2 := Lib.hid (HK2.out.step hF hS (fun x hx => by
    have := HD.out x (by
      rcases List.mem_cons.1 hx with rfl | hx
      · exact List.mem_cons_self ..
      · exact List.mem_cons_of_mem _ (List.mem_append_left _ hx))
    exact ⟨this.1, this.2.1⟩))
  replace HP2 := Lib.hid (HP2.out.frm hF (fun z hz he => by
    have e1 := HP2.out.lo z hz
    rcases List.mem_cons.1 he with rfl | he
    · omega
    · have := HhZ.out z he; omega))
  clear hF hS
  refine hK.out _ _ (by exact sw16) (fun hHeld => ?_)
  clear hK K
  try change wpAnyH _ _ _ _ _ _ _ (Act.put _ (some 132) _) _
  try simp only [Act.put, List.setIfInBounds_toArray, List.set_cons_zero, List.set_cons_succ]
  refine take_in (i := 34) (d := 133) (v := .bool false) rfl rfl (by kernel_rfl) (by kernel_rfl) (by kernel_rfl) (fun _ _ _ h => h) (by kernel_rfl) (fun _ _ => rfl) (by assumption) ?_
  try simp only [Act.put, List.setIfInBounds_toArray, List.set_cons_zero, List.set_cons_succ]
  refine take_in (i := 35) (d := 134) (v := .bool false) rfl rfl (by kernel_rfl) (by kernel_rfl) (by kernel_rfl) (fun _ _ _ h => h) (by kernel_rfl) (fun _ _ => rfl) (by assumption) ?_
  try simp only [Act.put, List.setIfInBounds_toArray, List.set_cons_zero, List.set_cons_succ]
  refine take_in (i := 36) (d := 135) (v := .bool false) rfl rfl (by kernel_rfl) (by kernel_rfl) (by kernel_rfl) (fun _ _ _ h => h) (by kernel_rfl) (fun _ _ => rfl) (by assumption) ?_
  try simp only [Act.put, List.setIfInBounds_toArray, List.set_cons_zero, List.set_cons_succ]
  refine take_in (i := 37) (d := 136) (v := .agg #[.pointer (some ⟨p, 0, none⟩), .pointer (some ⟨np, 0, none⟩)]) rfl rfl (by kernel_rfl) (by kernel_rfl) (by kernel_rfl) (fun _ _ _ h => h) (by kernel_rfl) (fun w' hS => by have hS' : Frm (d :: ((q1 :: qe1 :: ql1 :: blk (.slice a1 n1 c1)) ++ (q2 :: qe2 :: ql2 :: blk (.slice a2 n2 c2)))) W w' := hS; obtain ⟨z0, z1⟩ := HC.out w' hS'; go_simp) (by assumption) ?_
  try simp only [Act.put, List.setIfInBounds_toArray, List.set_cons_zero, List.set_cons_succ]
  refine take_in (i := 38) (d := 137) (v := .pointer (some ⟨q2, 0, none⟩)) rfl rfl (by kernel_rfl) (by kernel_rfl) (by kernel_rfl) (fun _ _ _ h => h) (by kernel_rfl) (fun _ _ => rfl) (by assumption) ?_
  try simp only [Act.put, List.setIfInBounds_toArray, List.set_cons_zero, List.set_cons_succ]
  refine wpAnyH_ready (rs := [39]) (by kernel_rfl) (by simp) ?_
  refine AllReadyH.cons rfl (fun K hK => ?_) AllReadyH.nil
  go_simp
  go_at_call 43
  refine (kl2 HK2.out.s HP2.out (by omega) (by omega)).mono ?_
  rintro e w17 ⟨rfl, hF, hS⟩
  have sw17 : Frm (d :: ((q1 :: qe1 :: ql1 :: blk (.slice a1 n1 c1)) ++ (q2 :: qe2 :: ql2 :: blk (.slice a2 n2 c2)))) W w17 := Frm.trans sw16 (hF.weak (fun x hx => by
    rcases List.mem_cons.1 hx with rfl | hx
    · exact List.mem_cons_self ..
    · exact List.mem_cons_of_mem _ (List.mem_append_right _ hx)))
  replace HK2 := Lib.hid (HK2.out.step hF hS (fun x hx => by
    have := HD.out x (by
      rcases List.mem_cons.1 hx with rfl | hx
      · exact List.mem_cons_self ..
      · exact List.mem_cons_of_mem _ (List.mem_append_right _ hx))
    exact ⟨this.1, this.2.1⟩))
  clear hF hS
  refine hK.out _ _ (by exact sw17) (fun hHeld => ?_)
  clear hK K
  try change wpAnyH _ _ _ _ _ _ _ (Act.put _ (some 138) _) _
  try simp only [Act.put, List.setIfInBounds_toArray, List.set_cons_zero, List.set_cons_succ]
  refine take_in (i := 40) (d := 139) (v := .bool false) rfl rfl (by kernel_rfl) (by kernel_rfl) (by kernel_rfl) (fun _ _ _ h => h) (by kernel_rfl) (fun _ _ => rfl) (by assumption) ?_
  try simp only [Act.put, List.setIfInBounds_toArray, List.set_cons_zero, List.set_cons_succ]
  refine take_in (i := 41) (d := 140) (v := .bool false) rfl rfl (by kernel_rfl) (by kernel_rfl) (by kernel_rfl) (fun _ _ _ h => h) (by kernel_rfl) (fun _ _ => rfl) (by assumption) ?_
  try simp only [Act.put, List.setIfInBounds_toArray, List.set_cons_zero, List.set_cons_succ]
  refine wpAnyH_done (by kernel_rfl) ?_ _
  refine NoPanic.normal ?_
  clear HC HC7
  go_wp2_with fail
  refine HK0.out _ _ ?_
  exact knC _ _ _ _ _ _ _ _ _ _ _ _ _ _ _ _ _ _ _ _ _ _ _ _ _ _ _ _ _ _ _ _ _ _ _ _ _ _ _ _ _ _ _ _ _ _ _ _ _ _ _ _ _ _ _ _ _ _ _ _ _ _ _ _ _ _ _ _ _ _ _ _ _ _ _ _ _ _ _ _ _ _ _ _ _ _ _ _ _ _ _ _ _ _ _ _ _ _ _ _ _ _ _ _ _ _ _ _ _ _ _ _ _ _ _ _ _ _ _ _ _ _ _ _ _ _ _ _ _ _ _ _ _ _ _ _ _ _ _ _ _ _ _ _ _ _ _ _ _ _ _ _ _ _ _ _ _ _ _ _ _ _ _ _ _ _ _ _ _ _ _ _ _ _ _ _ _ _ _ _ _ _ _ _ _ _ _ _ _ _ _ _ _ _ _ HK2.out h2
set_option maxRecDepth 100000 in
set_option maxHeartbeats 16000000 in
theorem knB1 {w W : World} {b3 np p d cc q1 qe1 ql1 n1 c1 q2 qe2 ql2 n2 c2 B1 B2 : Nat} {a1 a2 : Option Addr} {b7 : Nat} (v0 v1 v2 v4 v8 v9 v10 v11 v12 v13 v14 v15 v16 v17 v18 v19 v20 v21 v22 v23 v24 v25 v26 v27 v28 v29 v30 v31 v32 v33 v34 v35 v36 v37 v38 v39 v40 v41 v42 v43 v44 v45 v46 v47 v48 v49 v50 v51 v52 v53 v54 v55 v56 v57 v58 v59 v60 v61 v62 v63 v64 v65 v66 v67 v68 v69 v70 v71 v72 v73 v74 v75 v76 v77 v78 v79 v80 v81 v82 v83 v84 v85 v86 v87 v88 v89 v90 v91 v92 v93 v94 v95 v96 v97 v98 v99 v100 v101 v102 v103 v104 v105 v106 v107 v108 v109 v110 v111 v112 v113 v114 v115 v116 v117 v118 v119 v120 v121 v122 v123 v124 v125 v126 v127 v128 v129 v130 v131 v132 v133 v134 v135 v136 v137 v138 v139 v140 v141 v142 v143 v144 v145 v146 v147 v148 v149 v150 v151 v152 v153 v154 v155 v156 v157 v158 v159 v160 v161 v162 v163 v164 v165 v166 v167 v168 v169 v170 v171 v172 v173 v174 v175 v176 v177 v178 v179 v180 v181 v182 v183 v184 v185 v186 v187 v188 v189 v190 v191 v192 v193 v194 v195 : Value) (h : K2 w W b3 np p d cc kw6) (hP1 : Pk 3 w.heap.size B1 W q1 qe1 ql1 a1 n1 c1 (pkM kw4 1 1 1) (pkG kw4 1 1 1)) (hP2 : Pk 3 w.heap.size B2 W q2 qe2 ql2 a2 n2 c2 (pkM kw5 2 1 1) (pkG kw5 2 1 1)) (h2 : 2 ≤ w.heap.size) (hZ : ∀ z ∈ q1 :: qe1 :: ql1 :: blk (.slice a1 n1 c1), z < B2) (hb1 : b3 < B1) (hnp : np < B1) (hdB : d < B1) (h12 : B1 ≤ B2) (hB1 : w.heap.size ≤ B1) (h7 : W.heap[b7]? = some (.cells #[.slice none 0 0, .int .i64 (-1), .int .i64 0, .int .i64 (-1), .int .i64 0, .slice none 0 0] 25 (0, 0))) (hb7 : b7 ≠ b3 ∧ (∀ z ∈ q2 :: qe2 :: ql2 :: blk (.slice a2 n2 c2), z < b7) ∧ B2 ≤ b7) (hb7p : p ≠ b7) :
    Code.wp Tryz.prog (knT 9) (bodyPost Tryz.prog Tryz.f8 (Ret (.bool true) (fun w' => Frm [] w w'))) ⟨List.toArray (v0 :: v1 :: v2 :: .pointer (some ⟨b3, 0, none⟩) :: v4 :: .pointer (some ⟨q1, 0, none⟩) :: .pointer (some ⟨q2, 0, none⟩) :: .pointer (some ⟨b7, 0, none⟩) :: v8 :: v9 :: v10 :: v11 :: v12 :: v13 :: v14 :: v15 :: v16 :: v17 :: v18 :: v19 :: v20 :: v21 :: v22 :: v23 :: v24 :: v25 :: v26 :: v27 :: v28 :: v29 :: v30 :: v31 :: v32 :: v33 :: v34 :: v35 :: v36 :: v37 :: v38 :: v39 :: v40 :: v41 :: v42 :: v43 :: v44 :: v45 :: v46 :: v47 :: v48 :: v49 :: v50 :: v51 :: v52 :: v53 :: v54 :: v55 :: v56 :: v57 :: v58 :: v59 :: v60 :: v61 :: v62 :: v63 :: v64 :: v65 :: v66 :: v67 :: v68 :: v69 :: v70 :: v71 :: v72 :: v73 :: v74 :: v75 :: v76 :: v77 :: v78 :: v79 :: v80 :: v81 :: v82 :: v83 :: v84 :: v85 :: v86 :: v87 :: v88 :: v89 :: v90 :: v91 :: v92 :: v93 :: v94 :: v95 :: v96 :: v97 :: v98 :: v99 :: v100 :: v101 :: v102 :: v103 :: v104 :: v105 :: v106 :: v107 :: v108 :: v109 :: v110 :: v111 :: v112 :: v113 :: v114 :: v115 :: v116 :: v117 :: v118 :: v119 :: v120 :: v121 :: v122 :: v123 :: v124 :: v125 :: v126 :: v127 :: v128 :: v129 :: v130 :: v131 :: v132 :: v133 :: v134 :: v135 :: v136 :: v137 :: v138 :: v139 :: v140 :: v141 :: v142 :: v143 :: v144 :: v145 :: v146 :: v147 :: v148 :: v149 :: v150 :: v151 :: v152 :: v153 :: v154 :: v155 :: v156 :: v157 :: v158 :: v159 :: v160 :: v161 :: v162 :: v163 :: v164 :: v165 :: v166 :: v167 :: v168 :: v169 :: v170 :: v171 :: v172 :: v173 :: v174 :: v175 :: v176 :: v177 :: v178 :: v179 :: v180 :: v181 :: v182 :: v183 :: v184 :: v185 :: v186 :: v187 :: v188 :: v189 :: v190 :: v191 :: v192 :: v193 :: v194 :: v195 :: []), []⟩ W := by
  have HK2 := Lib.hid h
  have HhP1 := Lib.hid hP1
  have HhP2 := Lib.hid hP2
  have HhZ := Lib.hid hZ
  have Hh7 := Lib.hid h7
  obtain ⟨s0, s1, s2, s3, s4, s5⟩ := cells6L h7
  have hl7 := lt_of_heap h7
  have f0 : W.frozen? ⟨b7, 0, none⟩ = false := frozen_of_heap h7
  have f1 : W.frozen? ⟨b7, 1, none⟩ = false := frozen_of_heap h7
  have f2 : W.frozen? ⟨b7, 2, none⟩ = false := frozen_of_heap h7
  have f3 : W.frozen? ⟨b7, 3, none⟩ = false := frozen_of_heap h7
  have f4 : W.frozen? ⟨b7, 4, none⟩ = false := frozen_of_heap h7
  have f5 : W.frozen? ⟨b7, 5, none⟩ = false := frozen_of_heap h7
  clear h hP1 hP2 hZ h7
  conv => arg 2; whnf
  refine wp_seq_k ?_
  intro K0 hK0
  have HK0 := Lib.hid hK0
  clear hK0
  go_wp2_with fail
  obtain ⟨V, hV⟩ : ∃ V, V = (W.setCell ⟨b7, 5, none⟩ (.slice (some ⟨W.heap.size, 0, none⟩) 2 2)).alloc (.cells #[.int .i64 1, .int .i64 1, .int .i64 2, .int .i64 1] 108) := ⟨_, rfl⟩
  have hFV : Frm [b7] W V := by rw [hV]; exact ((Frm.refl _ _).setCell _ _ (.inl (by simp))).alloc _
  have h7 : V.heap[b7]? = some (.cells #[.slice none 0 0, .int .i64 (-1), .int .i64 0, .int .i64 (-1), .int .i64 0, .slice (some ⟨W.heap.size, 0, none⟩) 2 2] 25 (0, 0)) := by rw [hV]; exact heap_alloc_old _ (by have := heap_setCell_at (i := 5) (.slice (some ⟨W.heap.size, 0, none⟩) 2 2) Hh7.out; simpa using this)
  have h8 : V.heap[W.heap.size]? = some (.cells #[.int .i64 1, .int .i64 1, .int .i64 2, .int .i64 1] 108 (0, 0)) := by rw [hV]; exact heap_alloc_at _ (by simp)
  have hdl := HK2.out.s.lt.2.2
  rw [← hV]
  clear hV
  refine HK0.out _ _ ?_
  exact knB2 _ _ _ _ _ _ _ _ _ _ _ _ _ _ _ _ _ _ _ _ _ _ _ _ _ _ _ _ _ _ _ _ _ _ _ _ _ _ _ _ _ _ _ _ _ _ _ _ _ _ _ _ _ _ _ _ _ _ _ _ _ _ _ _ _ _ _ _ _ _ _ _ _ _ _ _ _ _ _ _ _ _ _ _ _ _ _ _ _ _ _ _ _ _ _ _ _ _ _ _ _ _ _ _ _ _ _ _ _ _ _ _ _ _ _ _ _ _ _ _ _ _ _ _ _ _ _ _ _ _ _ _ _ _ _ _ _ _ _ _ _ _ _ _ _ _ _ _ _ _ _ _ _ _ _ _ _ _ _ _ _ _ _ _ _ _ _ _ _ _ _ _ _ _ _ _ _ _ _ _ _ _ _ _ _ _ _ _ _ _ _ _ (HK2.out.step hFV ⟨HK2.out.s.mem.frm hFV (by simp; omega) (by simp; omega), HK2.out.s.nd.frmD hFV (by simp; omega), HK2.out.s.laid.frm hFV (by simp; omega), HK2.out.s.bnd, by have := HK2.out.s.lo; have := hFV.size; omega, HK2.out.s.len⟩ (fun x hx => by simp at hx; omega)) (HhP1.out.frm hFV (fun z hz he => by have := HhZ.out z hz; simp at he; omega)) (HhP2.out.frm hFV (fun z hz he => by have := hb7.2.1 z hz; simp at he; omega)) h2 HhZ.out hb1 hnp hdB h12 hB1 h7 hb7 (li2_new (l := [(1, 1), (2, 1)]) rfl h8) (by omega)
set_option maxRecDepth 100000 in
set_option maxHeartbeats 16000000 in
theorem knB {w W : World} {b3 np p d cc q1 qe1 ql1 n1 c1 q2 qe2 ql2 n2 c2 B1 B2 : Nat} {a1 a2 : Option Addr} (v0 v1 v2 v4 v7 v8 v9 v10 v11 v12 v13 v14 v15 v16 v17 v18 v19 v20 v21 v22 v23 v24 v25 v26 v27 v28 v29 v30 v31 v32 v33 v34 v35 v36 v37 v38 v39 v40 v41 v42 v43 v44 v45 v46 v47 v48 v49 v50 v51 v52 v53 v54 v55 v56 v57 v58 v59 v60 v61 v62 v63 v64 v65 v66 v67 v68 v69 v70 v71 v72 v73 v74 v75 v76 v77 v78 v79 v80 v81 v82 v83 v84 v85 v86 v87 v88 v89 v90 v91 v92 v93 v94 v95 v96 v97 v98 v99 v100 v101 v102 v103 v104 v105 v106 v107 v108 v109 v110 v111 v112 v113 v114 v115 v116 v117 v118 v119 v120 v121 v122 v123 v124 v125 v126 v127 v128 v129 v130 v131 v132 v133 v134 v135 v136 v137 v138 v139 v140 v141 v142 v143 v144 v145 v146 v147 v148 v149 v150 v151 v152 v153 v154 v155 v156 v157 v158 v159 v160 v161 v162 v163 v164 v165 v166 v167 v168 v169 v170 v171 v172 v173 v174 v175 v176 v177 v178 v179 v180 v181 v182 v183 v184 v185 v186 v187 v188 v189 v190 v191 v192 v193 v194 v195 : Value) (h : K2 w W b3 np p d cc kw6) (hP1 : Pk 3 w.heap.size B1 W q1 qe1 ql1 a1 n1 c1 (pkM kw4 1 1 1) (pkG kw4 1 1 1)) (hP2 : Pk 3 w.heap.size B2 W q2 qe2 ql2 a2 n2 c2 (pkM kw5 2 1 1) (pkG kw5 2 1 1)) (h2 : 2 ≤ w.heap.size) (hZ : ∀ z ∈ q1 :: qe1 :: ql1 :: blk (.slice a1 n1 c1), z < B2) (hb1 : b3 < B1) (hnp : np < B1) (hdB : d < B1) (h12 : B1 ≤ B2) (hB1 : w.heap.size ≤ B1) :
    Code.wp Tryz.prog (knT 8) (bodyPost Tryz.prog Tryz.f8 (Ret (.bool true) (fun w' => Frm [] w w'))) ⟨List.toArray (v0 :: v1 :: v2 :: .pointer (some ⟨b3, 0, none⟩) :: v4 :: .pointer (some ⟨q1, 0, none⟩) :: .pointer (some ⟨q2, 0, none⟩) :: v7 :: v8 :: v9 :: v10 :: v11 :: v12 :: v13 :: v14 :: v15 :: v16 :: v17 :: v18 :: v19 :: v20 :: v21 :: v22 :: v23 :: v24 :: v25 :: v26 :: v27 :: v28 :: v29 :: v30 :: v31 :: v32 :: v33 :: v34 :: v35 :: v36 :: v37 :: v38 :: v39 :: v40 :: v41 :: v42 :: v43 :: v44 :: v45 :: v46 :: v47 :: v48 :: v49 :: v50 :: v51 :: v52 :: v53 :: v54 :: v55 :: v56 :: v57 :: v58 :: v59 :: v60 :: v61 :: v62 :: v63 :: v64 :: v65 :: v66 :: v67 :: v68 :: v69 :: v70 :: v71 :: v72 :: v73 :: v74 :: v75 :: v76 :: v77 :: v78 :: v79 :: v80 :: v81 :: v82 :: v83 :: v84 :: v85 :: v86 :: v87 :: v88 :: v89 :: v90 :: v91 :: v92 :: v93 :: v94 :: v95 :: v96 :: v97 :: v98 :: v99 :: v100 :: v101 :: v102 :: v103 :: v104 :: v105 :: v106 :: v107 :: v108 :: v109 :: v110 :: v111 :: v112 :: v113 :: v114 :: v115 :: v116 :: v117 :: v118 :: v119 :: v120 :: v121 :: v122 :: v123 :: v124 :: v125 :: v126 :: v127 :: v128 :: v129 :: v130 :: v131 :: v132 :: v133 :: v134 :: v135 :: v136 :: v137 :: v138 :: v139 :: v140 :: v141 :: v142 :: v143 :: v144 :: v145 :: v146 :: v147 :: v148 :: v149 :: v150 :: v151 :: v152 :: v153 :: v154 :: v155 :: v156 :: v157 :: v158 :: v159 :: v160 :: v161 :: v162 :: v163 :: v164 :: v165 :: v166 :: v167 :: v168 :: v169 :: v170 :: v171 :: v172 :: v173 :: v174 :: v175 :: v176 :: v177 :: v178 :: v179 :: v180 :: v181 :: v182 :: v183 :: v184 :: v185 :: v186 :: v187 :: v188 :: v189 :: v190 :: v191 :: v192 :: v193 :: v194 :: v195 :: []), []⟩ W := by
  have HK2 := Lib.hid h
  have HhP1 := Lib.hid hP1
  have HhP2 := Lib.hid hP2
  have HhZ := Lib.hid hZ
  clear h hP1 hP2 hZ
  conv => arg 2; whnf
  refine wp_seq_k ?_
  intro K0 hK0
  have HK0 := Lib.hid hK0
  clear hK0
  go_wp2_with fail
  refine (state_any (-1) 0 (-1) 0).mono ?_
  rintro e w1 ⟨rfl, hF⟩
  have HF := Lib.hid hF
  clear hF
  go_wp2_with fail
  have hFV : Frm [] W (w1.alloc (.cells #[.slice none 0 0, .int .i64 (-1), .int .i64 0, .int .i64 (-1), .int .i64 0, .slice none 0 0] 25)) := HF.out.alloc _
  have hs := HF.out.size
  have hx3 := lt_of_heap HK2.out.b
  have hxp := HK2.out.s.lt.2.1
  refine HK0.out _ _ ?_
  exact knB1 _ _ _ _ _ _ _ _ _ _ _ _ _ _ _ _ _ _ _ _ _ _ _ _ _ _ _ _ _ _ _ _ _ _ _ _ _ _ _ _ _ _ _ _ _ _ _ _ _ _ _ _ _ _ _ _ _ _ _ _ _ _ _ _ _ _ _ _ _ _ _ _ _ _ _ _ _ _ _ _ _ _ _ _ _ _ _ _ _ _ _ _ _ _ _ _ _ _ _ _ _ _ _ _ _ _ _ _ _ _ _ _ _ _ _ _ _ _ _ _ _ _ _ _ _ _ _ _ _ _ _ _ _ _ _ _ _ _ _ _ _ _ _ _ _ _ _ _ _ _ _ _ _ _ _ _ _ _ _ _ _ _ _ _ _ _ _ _ _ _ _ _ _ _ _ _ _ _ _ _ _ _ _ _ _ _ _ _ _ _ _ _ (HK2.out.frm0 hFV) (HhP1.out.frm hFV (by simp)) (HhP2.out.frm hFV (by simp)) h2 HhZ.out hb1 hnp hdB h12 hB1 (heap_alloc_new _ _) ⟨by omega, (fun z hz => by have := HhP2.out.lt z hz; omega), by have := HhP2.out.lo q2 (by simp); have := HhP2.out.lt q2 (by simp); omega⟩ (by omega)
end Go.Proofs.YtjhidkjhfgbaeaaGreatDoor
