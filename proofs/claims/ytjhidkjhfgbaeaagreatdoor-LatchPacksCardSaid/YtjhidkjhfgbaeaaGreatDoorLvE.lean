/- known: from the second scene on (by gen_lvd.py). -/
import Derived.Test.YtjhidkjhfgbaeaaGreatDoorLvD
namespace Go.Proofs.YtjhidkjhfgbaeaaGreatDoor
open Go.ChangeShapes Go.WideShapes Go.ChangeAt Go.RowKit
set_option linter.unusedVariables false
set_option linter.unusedSimpArgs false
noncomputable def knT (k : Nat) : Code := dropS k (Tryz.f8.body.getD .skip)
set_option maxRecDepth 100000 in
set_option maxHeartbeats 16000000 in
theorem knC {w W : World} {b3 np p d cc : Nat} {ws : List Int} (v0 v1 v2 v4 v5 v6 v7 v8 v9 v10 v11 v12 v13 v14 v15 v16 v17 v18 v19 v20 v21 v22 v23 v24 v25 v26 v27 v28 v29 v30 v31 v32 v33 v34 v35 v36 v37 v38 v39 v40 v41 v42 v43 v44 v45 v46 v47 v48 v49 v50 v51 v52 v53 v54 v55 v56 v57 v58 v59 v60 v61 v62 v63 v64 v65 v66 v67 v68 v69 v70 v71 v72 v73 v74 v75 v76 v77 v78 v79 v80 v81 v82 v83 v84 v85 v86 v87 v88 v89 v90 v91 v92 v93 v94 v95 v96 v97 v98 v99 v100 v101 v102 v103 v104 v105 v106 v107 v108 v109 v110 v111 v112 v113 v114 v115 v116 v117 v118 v119 v120 v121 v122 v123 v124 v125 v126 v127 v128 v129 v130 v131 v132 v133 v134 v135 v136 v137 v138 v139 v140 v141 v142 v143 v144 v145 v146 v147 v148 v149 v150 v151 v152 v153 v154 v155 v156 v157 v158 v159 v160 v161 v162 v163 v164 v165 v166 v167 v168 v169 v170 v171 v172 v173 v174 v175 v176 v177 v178 v179 v180 v181 v182 v183 v184 v185 v186 v187 v188 v189 v190 v191 v192 v193 v194 v195 : Value) (h : K2 w W b3 np p d cc ws) (h2 : 2 ≤ w.heap.size) :
    Code.wp Tryz.prog (knT 11) (bodyPost Tryz.prog Tryz.f8 (Ret (.bool true) (fun w' => Frm [] w w'))) ⟨List.toArray (v0 :: v1 :: v2 :: .pointer (some ⟨b3, 0, none⟩) :: v4 :: v5 :: v6 :: v7 :: v8 :: v9 :: v10 :: v11 :: v12 :: v13 :: v14 :: v15 :: v16 :: v17 :: v18 :: v19 :: v20 :: v21 :: v22 :: v23 :: v24 :: v25 :: v26 :: v27 :: v28 :: v29 :: v30 :: v31 :: v32 :: v33 :: v34 :: v35 :: v36 :: v37 :: v38 :: v39 :: v40 :: v41 :: v42 :: v43 :: v44 :: v45 :: v46 :: v47 :: v48 :: v49 :: v50 :: v51 :: v52 :: v53 :: v54 :: v55 :: v56 :: v57 :: v58 :: v59 :: v60 :: v61 :: v62 :: v63 :: v64 :: v65 :: v66 :: v67 :: v68 :: v69 :: v70 :: v71 :: v72 :: v73 :: v74 :: v75 :: v76 :: v77 :: v78 :: v79 :: v80 :: v81 :: v82 :: v83 :: v84 :: v85 :: v86 :: v87 :: v88 :: v89 :: v90 :: v91 :: v92 :: v93 :: v94 :: v95 :: v96 :: v97 :: v98 :: v99 :: v100 :: v101 :: v102 :: v103 :: v104 :: v105 :: v106 :: v107 :: v108 :: v109 :: v110 :: v111 :: v112 :: v113 :: v114 :: v115 :: v116 :: v117 :: v118 :: v119 :: v120 :: v121 :: v122 :: v123 :: v124 :: v125 :: v126 :: v127 :: v128 :: v129 :: v130 :: v131 :: v132 :: v133 :: v134 :: v135 :: v136 :: v137 :: v138 :: v139 :: v140 :: v141 :: v142 :: v143 :: v144 :: v145 :: v146 :: v147 :: v148 :: v149 :: v150 :: v151 :: v152 :: v153 :: v154 :: v155 :: v156 :: v157 :: v158 :: v159 :: v160 :: v161 :: v162 :: v163 :: v164 :: v165 :: v166 :: v167 :: v168 :: v169 :: v170 :: v171 :: v172 :: v173 :: v174 :: v175 :: v176 :: v177 :: v178 :: v179 :: v180 :: v181 :: v182 :: v183 :: v184 :: v185 :: v186 :: v187 :: v188 :: v189 :: v190 :: v191 :: v192 :: v193 :: v194 :: v195 :: []), []⟩ W := by
  have HK := Lib.hid h
  clear h
  conv => arg 2; whnf
  go_wp2_with fail
  refine (news_any HK.out.s.laid (B := W.heap.size) (by have := HK.out.frm.size; omega) (Nat.le_refl _)).mono ?_
  rintro e w1 ⟨np', p', d', cc', rfl, hF, hS⟩
  have hb := hF.heap HK.out.b (by simp)
  obtain ⟨q0, q1⟩ := cells2L hb
  have z0 : w1.frozen? ⟨b3, 0, none⟩ = false := frozen_of_heap hb
  have z1 : w1.frozen? ⟨b3, 1, none⟩ = false := frozen_of_heap hb
  have hl := lt_of_heap hb
  obtain ⟨V, hV⟩ : ∃ V, V = (w1.setCell ⟨b3, 0, none⟩ (.pointer (some ⟨p', 0, none⟩))).setCell ⟨b3, 1, none⟩ (.pointer (some ⟨np', 0, none⟩)) := ⟨_, rfl⟩
  have hFV : Frm [b3] w1 V := by rw [hV]; exact ((Frm.refl _ _).setCell _ _ (.inl (by simp))).setCell _ _ (.inl (by simp))
  have hbV : V.heap[b3]? = some (.cells #[.pointer (some ⟨p', 0, none⟩), .pointer (some ⟨np', 0, none⟩)] 73 (0, 0)) := by rw [hV]; exact setCells2 hb _ _
  have hlo := hS.lo
  have hb3 := lt_of_heap HK.out.b
  have hb0 := HK.out.b0
  have hFW : Frm [] w V := (HK.out.frm.trans hF).trans_new hFV (fun x hx => .inr (by simp at hx; omega))
  have hSV : Scn 3 V w.heap.size np' p' d' cc' zs := ⟨hS.mem.frm hFV (by simp; omega) (by simp; omega), hS.nd.frmD hFV (by simp; omega), hS.laid.frm hFV (by simp; omega), hS.bnd, by have := hFW.size; omega, hS.len⟩
  have HK2 : Hid (K2 w V b3 np' p' d' cc' zs) := Lib.hid ⟨hFW, hbV, hSV, by omega, hb0⟩
  clear hF hS hb hFV hbV hSV HK hFW hlo hb3 hb0
  go_wp2_with fail
  rw [← hV]
  clear hV q0 q1 z0 z1 hl
  generalize np' = np at HK2 ⊢
  generalize p' = p at HK2 ⊢
  generalize d' = d at HK2 ⊢
  generalize cc' = cc at HK2 ⊢
  obtain ⟨x0, y0, y1⟩ := HK2.out.cells
  go_wp2_with fail
  refine (kd6 HK2.out.s).mono ?_
  rintro e w2 ⟨rfl, hF, hS⟩
  replace HK2 := Lib.hid (HK2.out.stepd hF hS)
  clear hF hS
  clear x0 y0 y1
  obtain ⟨x0, y0, y1⟩ := HK2.out.cells
  go_wp2_with fail
  refine (kd7 HK2.out.s).mono ?_
  rintro e w3 ⟨rfl, hF, hS⟩
  replace HK2 := Lib.hid (HK2.out.stepd hF hS)
  clear hF hS
  clear x0 y0 y1
  obtain ⟨x0, y0, y1⟩ := HK2.out.cells
  go_wp2_with fail
  have hdl := HK2.out.s.lt
  have hsz := HK2.out.frm.size
  refine (kp3 HK2.out.s).mono ?_
  rintro e w4 ⟨q3, qe3, ql3, a3, n3, c3, rfl, hF, hS, hP⟩
  replace HK2 := Lib.hid (HK2.out.stepd hF hS)
  have HP3 := Lib.hid hP
  have hz3 := hF.size
  have HX0 := Lib.hid x0
  clear hF hS hP
  clear x0 y0 y1
  obtain ⟨x0, y0, y1⟩ := HK2.out.cells
  have HC : Hid (∀ w', Frm [d] w4 w' → w'.cell? ⟨b3, 0, none⟩ = some (.pointer (some ⟨p, 0, none⟩)) ∧ w'.cell? ⟨b3, 1, none⟩ = some (.pointer (some ⟨np, 0, none⟩))) := Lib.hid fun w' g => cells2L (g.heap HK2.out.b (by simpa using HK2.out.bd))
  have HWS : Hid (∀ w', Frm [d] w4 w' → Pk 3 w.heap.size w3.heap.size w' q3 qe3 ql3 a3 n3 c3 (pkM kx2 0 3 3) (pkG kx2 0 3 3)) := Lib.hid fun w' g => HP3.out.frm g (fun z hz => by have := HP3.out.lo z hz; simp; omega)
  go_wp2_with fail
  clear x0 y0 y1
  refine wp_region_noPanic ?_
  refine wp_region_held_drew (S := fun w' => Frm [d] w4 w') (by kernel_rfl) ((Frm.refl _ _).drew) (fun hHeld => ?_)
  refine take_in (i := 0) (d := 159) (v := .pointer (some ⟨q3, 0, none⟩)) rfl rfl (by kernel_rfl) (by kernel_rfl) (by kernel_rfl) (fun _ _ _ h => h) (by kernel_rfl) (fun _ _ => rfl) (by assumption) ?_
  try simp only [Act.put, List.setIfInBounds_toArray, List.set_cons_zero, List.set_cons_succ]
  refine take_in (i := 1) (d := 160) (v := .bool false) rfl rfl (by kernel_rfl) (by kernel_rfl) (by kernel_rfl) (fun _ _ _ h => h) (by kernel_rfl) (fun _ _ => rfl) (by assumption) ?_
  try simp only [Act.put, List.setIfInBounds_toArray, List.set_cons_zero, List.set_cons_succ]
  refine take_in (i := 2) (d := 161) (v := .bool false) rfl rfl (by kernel_rfl) (by kernel_rfl) (by kernel_rfl) (fun _ _ _ h => h) (by kernel_rfl) (fun _ _ => rfl) (by assumption) ?_
  try simp only [Act.put, List.setIfInBounds_toArray, List.set_cons_zero, List.set_cons_succ]
  refine take_in (i := 3) (d := 162) (v := .pointer (some ⟨b3, 0, none⟩)) rfl rfl (by kernel_rfl) (by kernel_rfl) (by kernel_rfl) (fun _ _ _ h => h) (by kernel_rfl) (fun _ _ => rfl) (by assumption) ?_
  try simp only [Act.put, List.setIfInBounds_toArray, List.set_cons_zero, List.set_cons_succ]
  refine take_in (i := 4) (d := 163) (v := .pointer (some ⟨p, 0, none⟩)) rfl rfl (by kernel_rfl) (by kernel_rfl) (by kernel_rfl) (fun _ _ _ h => h) (by kernel_rfl) (fun w' hS => by have hS' : Frm [d] w4 w' := hS; obtain ⟨z0, z1⟩ := HC.out w' hS'; go_simp) (by assumption) ?_
  try simp only [Act.put, List.setIfInBounds_toArray, List.set_cons_zero, List.set_cons_succ]
  refine take_in (i := 5) (d := 164) (v := .pointer (some ⟨b3, 1, none⟩)) rfl rfl (by kernel_rfl) (by kernel_rfl) (by kernel_rfl) (fun _ _ _ h => h) (by kernel_rfl) (fun _ _ => rfl) (by assumption) ?_
  try simp only [Act.put, List.setIfInBounds_toArray, List.set_cons_zero, List.set_cons_succ]
  refine take_in (i := 6) (d := 165) (v := .pointer (some ⟨np, 0, none⟩)) rfl rfl (by kernel_rfl) (by kernel_rfl) (by kernel_rfl) (fun _ _ _ h => h) (by kernel_rfl) (fun w' hS => by have hS' : Frm [d] w4 w' := hS; obtain ⟨z0, z1⟩ := HC.out w' hS'; go_simp) (by assumption) ?_
  try simp only [Act.put, List.setIfInBounds_toArray, List.set_cons_zero, List.set_cons_succ]
  refine wpAnyH_ready (rs := [7]) (by kernel_rfl) (by simp) ?_
  refine AllReadyH.cons rfl (fun K hK => ?_) AllReadyH.nil
  go_simp
  have sa : Frm [d] w4 ((w4.drew).alloc (.cells #[.int .i64 1] 3)) := (((Frm.refl [d] w4).drew)).alloc _
  have hfa : Frm [] (w4.drew) ((w4.drew).alloc (.cells #[.int .i64 1] 3)) := (Frm.refl _ _).alloc _
  have hgd : (w4.drew).heap.size ≠ d := by have := ((HK2.out.frm0 ((Frm.refl _ _).drew))).s.lt; simp at this ⊢; omega
  have HLI := Lib.hid (li_new (k := .i64) (l := [1]) (n := 1) rfl (heap_alloc_new (w4.drew) (.cells #[.int .i64 1] 3)))
  replace HK2 := Lib.hid ((HK2.out.frm0 ((Frm.refl _ _).drew)).frm0 hfa)
  clear hfa
  refine hK.out _ _ (by exact sa) (fun hHeld => ?_)
  clear hK K
  try change wpAnyH _ _ _ _ _ _ _ (Act.put _ (some 166) _) _
  try simp only [Act.put, List.setIfInBounds_toArray, List.set_cons_zero, List.set_cons_succ]
  refine wpAnyH_ready (rs := [8]) (by kernel_rfl) (by simp) ?_
  refine AllReadyH.cons rfl (fun K hK => ?_) AllReadyH.nil
  go_simp
  go_at_call 40
  refine (state_any 0 (-1) 0 1).mono ?_
  rintro e w5 ⟨rfl, hF⟩
  have sw5 : Frm [d] w4 w5 := Frm.trans sa hF.nil
  replace HK2 := Lib.hid (HK2.out.frm0 hF)
  replace HLI := Lib.hid (HLI.out.frm0 hF)
  clear hF
  refine hK.out _ _ (by exact sw5) (fun hHeld => ?_)
  clear hK K
  try change wpAnyH _ _ _ _ _ _ _ (Act.put _ (some 167) _) _
  try simp only [Act.put, List.setIfInBounds_toArray, List.set_cons_zero, List.set_cons_succ]
  refine wpAnyH_ready (rs := [9]) (by kernel_rfl) (by simp) ?_
  refine AllReadyH.cons rfl (fun K hK => ?_) AllReadyH.nil
  go_simp
  go_at_call 22
  refine (kk5 (g2 := 0) HK2.out.s HLI.out hgd).mono ?_
  rintro e w6 ⟨rfl, hF, hS⟩
  have sw6 : Frm [d] w4 w6 := Frm.trans sw5 hF
  replace HK2 := Lib.hid (HK2.out.stepd hF hS)
  clear hF hS
  refine hK.out _ _ (by exact sw6) (fun hHeld => ?_)
  clear hK K
  try change wpAnyH _ _ _ _ _ _ _ (Act.put _ (some 168) _) _
  try simp only [Act.put, List.setIfInBounds_toArray, List.set_cons_zero, List.set_cons_succ]
  refine take_in (i := 10) (d := 169) (v := .bool false) rfl rfl (by kernel_rfl) (by kernel_rfl) (by kernel_rfl) (fun _ _ _ h => h) (by kernel_rfl) (fun _ _ => rfl) (by assumption) ?_
  try simp only [Act.put, List.setIfInBounds_toArray, List.set_cons_zero, List.set_cons_succ]
  refine take_in (i := 11) (d := 170) (v := .bool false) rfl rfl (by kernel_rfl) (by kernel_rfl) (by kernel_rfl) (fun _ _ _ h => h) (by kernel_rfl) (fun _ _ => rfl) (by assumption) ?_
  try simp only [Act.put, List.setIfInBounds_toArray, List.set_cons_zero, List.set_cons_succ]
  refine wpAnyH_done (by kernel_rfl) ?_ _
  refine NoPanic.normal ?_
  replace HP3 := Lib.hid (HWS.out _ sw6)
  clear HC HLI hgd sa HWS
  obtain ⟨x0, y0, y1⟩ := HK2.out.cells
  go_wp2_with fail
  have hdl2 := HK2.out.s.lt
  refine (kp4 HK2.out.s).mono ?_
  rintro e w7 ⟨q4, qe4, ql4, a4, n4, c4, rfl, hF, hS, hP⟩
  replace HK2 := Lib.hid (HK2.out.stepd hF hS)
  replace HP3 := Lib.hid (HP3.out.frm hF (fun z hz => by have := HP3.out.lo z hz; simp; omega))
  clear hF hS hP
  clear x0 y0 y1
  obtain ⟨x0, y0, y1⟩ := HK2.out.cells
  go_wp2_with fail
  refine (state_any (-1) 0 (-1) 0).mono ?_
  rintro e w8 ⟨rfl, hF⟩
  replace HK2 := Lib.hid (HK2.out.frm0 hF)
  replace HP3 := Lib.hid (HP3.out.frm hF (by simp))
  clear hF
  clear x0 y0 y1
  obtain ⟨x0, y0, y1⟩ := HK2.out.cells
  go_wp2_with fail
  obtain ⟨V2, hV2⟩ : ∃ V2, V2 = (w8.alloc (.cells #[.slice none 0 0, .int .i64 (-1), .int .i64 0, .int .i64 (-1), .int .i64 0, .slice (some ⟨w8.heap.size + 1, 0, none⟩) 1 1] 25)).alloc (.cells #[.int .i64 2, .int .i64 1] 108) := ⟨_, rfl⟩
  have hFV : Frm [] w8 V2 := by rw [hV2]; exact ((Frm.refl _ _).alloc _).alloc _
  have h7 : V2.heap[w8.heap.size]? = some (.cells #[.slice none 0 0, .int .i64 (-1), .int .i64 0, .int .i64 (-1), .int .i64 0, .slice (some ⟨w8.heap.size + 1, 0, none⟩) 1 1] 25 (0, 0)) := by rw [hV2]; exact heap_alloc_old _ (heap_alloc_new _ _)
  have h8 : V2.heap[w8.heap.size + 1]? = some (.cells #[.int .i64 2, .int .i64 1] 108 (0, 0)) := by rw [hV2]; exact heap_alloc_at _ (by simp)
  have HL2 := Lib.hid (li2_new (l := [(2, 1)]) (n := 1) rfl h8)
  rw [← hV2]
  clear hV2 h8
  have hd7 : d < w8.heap.size := HK2.out.s.lt.2.2
  replace HK2 := Lib.hid (HK2.out.frm0 hFV)
  replace HP3 := Lib.hid (HP3.out.frm hFV (by simp))
  have H7 := Lib.hid h7
  clear h7 hFV
  refine (kd8 HK2.out.s).mono ?_
  rintro e w9 ⟨rfl, hF, hS⟩
  replace HK2 := Lib.hid (HK2.out.stepd hF hS)
  have h7 := hF.heap H7.out (by simp; omega)
  obtain ⟨s0, s1, s2, s3, s4, s5⟩ := cells6L h7
  have hl7 := lt_of_heap h7
  replace HL2 := Lib.hid (HL2.out.frm hF (by simp; omega))
  replace HP3 := Lib.hid (HP3.out.frm hF (fun z hz => by have := HP3.out.lo z hz; simp; omega))
  clear hF hS H7 h7
  clear x0 y0 y1
  obtain ⟨x0, y0, y1⟩ := HK2.out.cells
  go_wp2_with fail
  refine (kk6 (g := 0) HK2.out.s HL2.out (by omega)).mono ?_
  rintro e w10 ⟨rfl, hF, hS⟩
  replace HK2 := Lib.hid (HK2.out.stepd hF hS)
  replace HP3 := Lib.hid (HP3.out.frm hF (fun z hz => by have := HP3.out.lo z hz; simp; omega))
  clear hF hS s0 s1 s2 s3 s4 s5 hl7 HL2
  clear x0 y0 y1
  obtain ⟨x0, y0, y1⟩ := HK2.out.cells
  go_wp2_with fail
  refine (kl3 HK2.out.s HP3.out (by omega) (by omega)).mono ?_
  rintro e w11 ⟨rfl, hF, hS⟩
  have HF := Lib.hid (HK2.out.frm.trans_new hF (fun x hx => .inr (by
      simp only [List.mem_cons] at hx
      rcases hx with rfl | hx
      · exact HK2.out.s.lo.2.1
      · have := HP3.out.lo x (by simpa using hx); omega)))
  clear hF hS
  go_wp2
  go_ret
  exact ⟨rfl, HF.out⟩
end Go.Proofs.YtjhidkjhfgbaeaaGreatDoor
