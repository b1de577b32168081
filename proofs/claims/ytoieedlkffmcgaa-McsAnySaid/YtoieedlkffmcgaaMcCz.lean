/- McsAny: the ways of a round: a copy (by gen_mcaz.py). -/
import Derived.Test.YtoieedlkffmcgaaMcAz
import Derived.Deep.RegionHeld3
import Derived.Test.YtoieedlkffmcgaaMcAl
import Derived.Deep.CutRange
namespace Go.Proofs.Ytoieedlkffmcgaa
open Go.ChangeShapes Go.WideShapes Go.ChangeAt Go.RowKit
set_option linter.unusedVariables false
set_option linter.unusedSimpArgs false

section
variable {b t nq p d c bn g oo cg nl : Nat} {ws : List Int} {a1 a2 : Option Addr} {c1 c2 m : Nat} {en : Nat → En}
theorem mk_100 (w : World) : (Instr.makeSlice 28 (.int .i64 100) (.int .i64 100)).run Try.prog w = .ok (.slice (some ⟨w.heap.size, 0, none⟩) 100 100) (w.alloc (.cells (u64s (List.replicate 100 0)).toArray 40)) := make_u64 100 (by decide) w
/-- Whatever a step of a program comes to, on another arena. -/
theorem step_en {W : World} {p d c q : Nat} {ws : List Int} {back e : Bool} {b t L k : Nat} {s o : Int} (hM : MemAt W p d c ws) (hpos : ∀ x ∈ ws, 0 ≤ x) (hP : PgR W q back b t L k s o e) (hd : q ≠ d) (hp : q ≠ p) :
    Calls Try.prog (fStep back) #[.pointer (some ⟨q, 0, none⟩), .iface 29 (.pointer (some ⟨p, 0, none⟩))] W (fun e0 w' => ∃ (x : Bool) (y : Int), Ret (.tuple #[.bool x, .int .i64 y]) (fun w' => Frm [d, q] W w') e0 w') := by
  cases e with
  | true => exact (Step_over (p := p) hP).mono fun _ _ hh => ⟨_, _, hh.1, hh.2.nil⟩
  | false =>
    obtain ⟨met, hPg, hk0⟩ := id hP
    obtain ⟨e', s', o', ws', wait, no, hst, hok, hpos, hln⟩ := (hk0 rfl).1.stp b t L k ws hpos
    exact (Step_any hM hP hd hp hst hok).mono fun _ _ hh => ⟨_, _, hh.1, hh.2.1⟩
set_option maxRecDepth 100000 in
set_option maxHeartbeats 1000000 in
/-- A copy of a program takes its place. -/
theorem any_copy {w0 W : World} {i : Nat} {Q : Exit → Act → World → Prop} (v0 v1 v2 v3 v4 v5 v6 v7 v8 v9 v10 v11 v12 v15 v16 v17 v18 v19 v20 v22 v23 v24 v25 v26 v27 v28 v29 v30 v31 v32 v33 v34 v35 v36 v37 v38 v39 v40 v41 v42 v43 v44 v45 v46 v47 v48 v49 v50 v51 v52 v53 v54 v55 v56 v57 v58 v59 v60 v61 v62 v63 v64 v65 v66 v67 v68 v69 v70 v71 v72 v73 v74 v75 v76 v77 v78 v79 v80 v81 v82 v83 v84 v85 v86 v87 v88 v89 v90 v91 v92 v93 v94 v95 v96 v97 v98 v99 v100 v101 v102 v103 v104 v105 v106 v107 v108 v109 v110 v111 v112 v113 v114 v115 v116 v117 v118 v119 v120 v121 v122 v123 v124 v125 v126 v127 v128 v129 v130 v131 v132 v133 v134 v135 v136 v137 v138 v139 v140 v141 v142 v143 v144 v145 v146 v147 v148 v149 v150 v151 v152 v153 v154 v155 v156 v157 v158 v159 v160 v161 v162 v163 v164 v165 v166 v167 v168 v169 v170 v171 v172 v173 v174 v175 v176 v177 v178 v179 v180 v181 v182 v183 v184 v185 v186 v187 v188 v189 v190 v191 v192 v193 v194 v195 v196 v197 v198 v199 v200 v201 v202 v203 v204 v205 v206 v207 v208 v209 v210 : Value)
    (hF : Frm [] w0 W) (hG : Ga w0.heap.size W b t nq p d c bn g oo cg nl ws a1 c1 a2 c2 m en) (hi : i < m) (hm : m ≤ 1000)
    (hQ : ∀ (u22 u23 u150 u151 u152 u153 u154 u155 u156 u157 u158 u159 u160 u161 u162 u163 u164 u165 u166 u167 u168 u169 u170 u171 u172 u173 u174 u175 u176 u177 u178 u179 u180 u181 u182 u183 u184 u185 u186 : Value) (w' : World), Rq w0 b t nq p d c bn g oo cg nl a1 c1 a2 c2 m w' →
      Q (.exit 1) ⟨List.toArray (v0 :: v1 :: v2 :: v3 :: v4 :: v5 :: v6 :: v7 :: v8 :: v9 :: v10 :: v11 :: v12 :: .slice a1 m c1 :: .slice a2 m c2 :: v15 :: v16 :: v17 :: v18 :: v19 :: v20 :: .int .i64 (i : Int) :: u22 :: u23 :: v24 :: v25 :: v26 :: v27 :: v28 :: v29 :: v30 :: v31 :: v32 :: v33 :: v34 :: v35 :: v36 :: v37 :: v38 :: v39 :: v40 :: v41 :: v42 :: v43 :: v44 :: v45 :: v46 :: v47 :: v48 :: v49 :: v50 :: v51 :: v52 :: v53 :: v54 :: v55 :: v56 :: v57 :: v58 :: v59 :: v60 :: v61 :: v62 :: v63 :: v64 :: v65 :: v66 :: v67 :: v68 :: v69 :: v70 :: v71 :: v72 :: v73 :: v74 :: v75 :: v76 :: v77 :: v78 :: v79 :: v80 :: v81 :: v82 :: v83 :: v84 :: v85 :: v86 :: v87 :: v88 :: v89 :: v90 :: v91 :: v92 :: v93 :: v94 :: v95 :: v96 :: v97 :: v98 :: v99 :: v100 :: v101 :: v102 :: v103 :: v104 :: v105 :: v106 :: v107 :: v108 :: v109 :: v110 :: v111 :: v112 :: v113 :: v114 :: v115 :: v116 :: v117 :: v118 :: v119 :: v120 :: v121 :: v122 :: v123 :: v124 :: v125 :: v126 :: v127 :: v128 :: v129 :: v130 :: v131 :: v132 :: v133 :: v134 :: v135 :: v136 :: v137 :: v138 :: v139 :: v140 :: v141 :: v142 :: v143 :: v144 :: v145 :: v146 :: v147 :: v148 :: v149 :: u150 :: u151 :: u152 :: u153 :: u154 :: u155 :: u156 :: u157 :: u158 :: u159 :: u160 :: u161 :: u162 :: u163 :: u164 :: u165 :: u166 :: u167 :: u168 :: u169 :: u170 :: u171 :: u172 :: u173 :: u174 :: u175 :: u176 :: u177 :: u178 :: u179 :: u180 :: u181 :: u182 :: u183 :: u184 :: u185 :: u186 :: v187 :: v188 :: v189 :: v190 :: v191 :: v192 :: v193 :: v194 :: v195 :: v196 :: v197 :: v198 :: v199 :: v200 :: v201 :: v202 :: v203 :: v204 :: v205 :: v206 :: v207 :: v208 :: v209 :: v210 :: []), []⟩ w') :
    Code.wp Try.prog (pieceA 23) Q ⟨List.toArray (v0 :: v1 :: v2 :: v3 :: v4 :: v5 :: v6 :: v7 :: v8 :: v9 :: v10 :: v11 :: v12 :: .slice a1 m c1 :: .slice a2 m c2 :: v15 :: v16 :: v17 :: v18 :: v19 :: v20 :: .int .i64 (i : Int) :: v22 :: v23 :: v24 :: v25 :: v26 :: v27 :: v28 :: v29 :: v30 :: v31 :: v32 :: v33 :: v34 :: v35 :: v36 :: v37 :: v38 :: v39 :: v40 :: v41 :: v42 :: v43 :: v44 :: v45 :: v46 :: v47 :: v48 :: v49 :: v50 :: v51 :: v52 :: v53 :: v54 :: v55 :: v56 :: v57 :: v58 :: v59 :: v60 :: v61 :: v62 :: v63 :: v64 :: v65 :: v66 :: v67 :: v68 :: v69 :: v70 :: v71 :: v72 :: v73 :: v74 :: v75 :: v76 :: v77 :: v78 :: v79 :: v80 :: v81 :: v82 :: v83 :: v84 :: v85 :: v86 :: v87 :: v88 :: v89 :: v90 :: v91 :: v92 :: v93 :: v94 :: v95 :: v96 :: v97 :: v98 :: v99 :: v100 :: v101 :: v102 :: v103 :: v104 :: v105 :: v106 :: v107 :: v108 :: v109 :: v110 :: v111 :: v112 :: v113 :: v114 :: v115 :: v116 :: v117 :: v118 :: v119 :: v120 :: v121 :: v122 :: v123 :: v124 :: v125 :: v126 :: v127 :: v128 :: v129 :: v130 :: v131 :: v132 :: v133 :: v134 :: v135 :: v136 :: v137 :: v138 :: v139 :: v140 :: v141 :: v142 :: v143 :: v144 :: v145 :: v146 :: v147 :: v148 :: v149 :: v150 :: v151 :: v152 :: v153 :: v154 :: v155 :: v156 :: v157 :: v158 :: v159 :: v160 :: v161 :: v162 :: v163 :: v164 :: v165 :: v166 :: v167 :: v168 :: v169 :: v170 :: v171 :: v172 :: v173 :: v174 :: v175 :: v176 :: v177 :: v178 :: v179 :: v180 :: v181 :: v182 :: v183 :: v184 :: v185 :: v186 :: v187 :: v188 :: v189 :: v190 :: v191 :: v192 :: v193 :: v194 :: v195 :: v196 :: v197 :: v198 :: v199 :: v200 :: v201 :: v202 :: v203 :: v204 :: v205 :: v206 :: v207 :: v208 :: v209 :: v210 :: []), []⟩ W := by
  obtain ⟨gp, rfl, hgp, hgpl, hzp, hcp⟩ := hG.pr.at_ hi
  obtain ⟨gr, rfl, hgr, hgrl, hzr, hcr⟩ := hG.rn.at_ hi
  obtain ⟨x, hx⟩ : ∃ x, en i = x := ⟨_, rfl⟩
  obtain ⟨L, k, back, s, o, e, q⟩ := x
  have hp0 := hcp i hi 0 (.iface (Ip back) (.pointer (some ⟨q, 0, none⟩))) (by rw [hx]; rfl)
  have hr7 := hcr i hi 7 (.bool e) (by rw [hx]; rfl)
  have hP := hG.ps i hi
  have hgdi := (hG.row1).2.2.2.2 i hi
  have hrdi := (hG.row2).2.2.2.2 i hi
  have hqlow := hG.qlow i hi
  rw [hx] at hP hgdi hrdi hqlow
  simp only [bkG, List.mem_singleton] at hgdi hrdi
  change w0.heap.size ≤ q at hqlow
  have hql : q < W.heap.size := hP.1.lt
  simp only [Nat.mul_one, Nat.add_zero] at hp0
  have hin : (i : Int) < (m : Int) := by omega
  have hwz := hF.size
  have HF := Lib.hid hF
  have HG := Lib.hid hG
  have HQ := Lib.hid hQ
  have HX := Lib.hid hx
  have HP := Lib.hid hP
  have HP0 := Lib.hid hp0
  have HR7 := Lib.hid hr7
  have HZP := Lib.hid hzp
  have m1 := m_Copy back q
  have h1 := c_Copy back
  clear hF hG hQ hx hP hcp hcr hzp hzr hr7
  conv => arg 2; whnf
  try dsimp only
  go_wp2_with fail
  refine (Copy_any HP.out.1).mono ?_
  rintro e0 w1 ⟨q', rfl, g1, hR1, hq'⟩
  have HG1 := Lib.hid g1
  have HR1 := Lib.hid hR1
  have hz1 := g1.size
  clear g1 hR1 m1 h1 hp0
  have hmk := mk_100
  go_wp2_with fail
  have hrd := rd_new w1 100
  refine (made_any hrd (by simp) (by simp)).mono ?_
  rintro e0 w2 ⟨pp, dd, cc, rfl, g2, hM, hpp, hdd⟩
  have hF2 : Frm [] w1 w2 := ((Frm.refl _ _).alloc _).trans g2
  simp only [World.size_alloc] at hpp hdd
  have HM := Lib.hid hM
  have HF2 := Lib.hid (HG1.out.trans hF2)
  have HR2 := Lib.hid (HR1.out.frm hF2 (by simp))
  have HPP := Lib.hid (HP.out.1.frm (HG1.out.trans hF2) (by simp))
  have hq'l := HR1.out.lt
  have hz2 := hF2.size
  clear g2 hM hF2 hrd hmk
  go_upto_region 27 with fail
  have hgpl2 : gp < w2.heap.size := by omega
  have hgrl2 : gr < w2.heap.size := by omega
  have hgpd : gp ≠ dd := by omega
  have hgrd : gr ≠ dd := by omega
  have HK1 := Lib.hid (fun w' (hf : Frm [] w2 w') => ((HF2.out.trans hf).cell hgpl (by simp)).trans HP0.out)
  have HK2 := Lib.hid (fun w' (hf : Frm [] w2 w') => ((HF2.out.trans hf).cell hgrl (by simp)).trans HR7.out)
  refine wp_region_noPanic ?_
  refine wp_region_held_drew (S := fun w' => Frm [dd, q] w2 w') (by kernel_rfl) ((Frm.refl _ _).drew) (fun hHeld => ?_)
  refine take_in (i := 0) (d := 159) (v := .pointer (some ⟨pp, 0, none⟩)) rfl rfl (by kernel_rfl) (by kernel_rfl) (by kernel_rfl) (fun _ _ _ h => h) (by kernel_rfl) (fun _ _ => rfl) (by assumption) ?_
  try simp only [Act.put, List.setIfInBounds_toArray, List.set_cons_zero, List.set_cons_succ]
  refine take_in (i := 1) (d := 160) (v := .bool false) rfl rfl (by kernel_rfl) (by kernel_rfl) (by kernel_rfl) (fun _ _ _ h => h) (by kernel_rfl) (fun w' hS => by go_simp) (by assumption) ?_
  try simp only [Act.put, List.setIfInBounds_toArray, List.set_cons_zero, List.set_cons_succ]
  refine take_in (i := 2) (d := 161) (v := .bool false) rfl rfl (by kernel_rfl) (by kernel_rfl) (by kernel_rfl) (fun _ _ _ h => h) (by kernel_rfl) (fun _ _ => rfl) (by assumption) ?_
  try simp only [Act.put, List.setIfInBounds_toArray, List.set_cons_zero, List.set_cons_succ]
  refine take_in (i := 3) (d := 162) (v := .slice (some ⟨gp, 0, none⟩) m c1) rfl rfl (by kernel_rfl) (by kernel_rfl) (by kernel_rfl) (fun _ _ _ h => h) (by kernel_rfl) (fun _ _ => rfl) (by assumption) ?_
  try simp only [Act.put, List.setIfInBounds_toArray, List.set_cons_zero, List.set_cons_succ]
  refine take_in (i := 4) (d := 163) (v := .int .i64 (i : Int)) rfl rfl (by kernel_rfl) (by kernel_rfl) (by kernel_rfl) (fun _ _ _ h => h) (by kernel_rfl) (fun _ _ => rfl) (by assumption) ?_
  try simp only [Act.put, List.setIfInBounds_toArray, List.set_cons_zero, List.set_cons_succ]
  refine take_in (i := 5) (d := 164) (v := .pointer (some ⟨gp, i, none⟩)) rfl rfl (by kernel_rfl) (by kernel_rfl) (by kernel_rfl) (fun _ _ _ h => h) (by kernel_rfl) (fun w' hS => by go_simp) (by assumption) ?_
  try simp only [Act.put, List.setIfInBounds_toArray, List.set_cons_zero, List.set_cons_succ]
  refine take_in (i := 6) (d := 165) (v := .iface (Ip back) (.pointer (some ⟨q, 0, none⟩))) rfl rfl (by kernel_rfl) (by kernel_rfl) (by kernel_rfl) (fun _ _ _ h => h) (by kernel_rfl) (fun w' hS => by have hS' : Frm [dd, q] w2 w' := hS; have hh := (hS'.cell hgpl2 (by simp; exact ⟨hgpd, Ne.symm hgdi⟩)).trans (HK1.out w2 (Frm.refl _ _)); go_simp) (by assumption) ?_
  try simp only [Act.put, List.setIfInBounds_toArray, List.set_cons_zero, List.set_cons_succ]
  refine take_in (i := 7) (d := 166) (v := .pointer (some ⟨pp, 0, none⟩)) rfl rfl (by kernel_rfl) (by kernel_rfl) (by kernel_rfl) (fun _ _ _ h => h) (by kernel_rfl) (fun _ _ => rfl) (by assumption) ?_
  try simp only [Act.put, List.setIfInBounds_toArray, List.set_cons_zero, List.set_cons_succ]
  refine take_in (i := 8) (d := 167) (v := .iface 29 (.pointer (some ⟨pp, 0, none⟩))) rfl rfl (by kernel_rfl) (by kernel_rfl) (by kernel_rfl) (fun _ _ _ h => h) (by kernel_rfl) (fun w' hS => by go_simp) (by assumption) ?_
  try simp only [Act.put, List.setIfInBounds_toArray, List.set_cons_zero, List.set_cons_succ]
  refine take_in (i := 9) (d := 168) (v := .slice (some ⟨gr, 0, none⟩) m c2) rfl rfl (by kernel_rfl) (by kernel_rfl) (by kernel_rfl) (fun _ _ _ h => h) (by kernel_rfl) (fun _ _ => rfl) (by assumption) ?_
  try simp only [Act.put, List.setIfInBounds_toArray, List.set_cons_zero, List.set_cons_succ]
  refine take_in (i := 10) (d := 169) (v := .int .i64 (i : Int)) rfl rfl (by kernel_rfl) (by kernel_rfl) (by kernel_rfl) (fun _ _ _ h => h) (by kernel_rfl) (fun _ _ => rfl) (by assumption) ?_
  try simp only [Act.put, List.setIfInBounds_toArray, List.set_cons_zero, List.set_cons_succ]
  refine take_in (i := 11) (d := 170) (v := .pointer (some ⟨gr, i * 8, none⟩)) rfl rfl (by kernel_rfl) (by kernel_rfl) (by kernel_rfl) (fun _ _ _ h => h) (by kernel_rfl) (fun w' hS => by go_simp) (by assumption) ?_
  try simp only [Act.put, List.setIfInBounds_toArray, List.set_cons_zero, List.set_cons_succ]
  refine take_in (i := 12) (d := 171) (v := .pointer (some ⟨gr, i * 8 + 7, none⟩)) rfl rfl (by kernel_rfl) (by kernel_rfl) (by kernel_rfl) (fun _ _ _ h => h) (by kernel_rfl) (fun w' hS => by go_simp) (by assumption) ?_
  try simp only [Act.put, List.setIfInBounds_toArray, List.set_cons_zero, List.set_cons_succ]
  refine take_in (i := 13) (d := 172) (v := .bool e) rfl rfl (by kernel_rfl) (by kernel_rfl) (by kernel_rfl) (fun _ _ _ h => h) (by kernel_rfl) (fun w' hS => by have hS' : Frm [dd, q] w2 w' := hS; have hh := (hS'.cell hgrl2 (by simp; exact ⟨hgrd, Ne.symm hrdi⟩)).trans (HK2.out w2 (Frm.refl _ _)); go_simp) (by assumption) ?_
  try simp only [Act.put, List.setIfInBounds_toArray, List.set_cons_zero, List.set_cons_succ]
  refine wpAnyH_ready (rs := [14]) (by kernel_rfl) (by simp) ?_
  refine AllReadyH.cons rfl (fun K hK => ?_) AllReadyH.nil
  go_simp
  refine (steps_any (HM.out.frm (D := []) (by (repeat' (first | assumption | exact Frm.refl _ _ | apply Frm.drew | apply Frm.drewN | apply Frm.alloc))) (by simp) (by simp)) (HPP.out.frm (D := []) (by (repeat' (first | assumption | exact Frm.refl _ _ | apply Frm.drew | apply Frm.drewN | apply Frm.alloc))) (by simp)) (by omega) (by omega) (by omega) (Stn.nil _ _ _ _)).mono ?_
  rintro e0 w3 ⟨rfl, hA⟩
  have s3 : Frm [dd, q] w2 w3 := Frm.trans (by (repeat' (first | assumption | exact Frm.refl _ _ | apply Frm.drew | apply Frm.drewN | apply Frm.alloc))) hA.1
  have HA := Lib.hid hA.2
  clear hA
  refine hK.out _ _ (by exact s3) (fun hHeld => ?_)
  clear hK K
  try change wpAnyH _ _ _ _ _ _ _ (Act.put _ (some 173) _) _
  try simp only [Act.put, List.setIfInBounds_toArray, List.set_cons_zero, List.set_cons_succ]
  refine take_in (i := 15) (d := 174) (v := .bool false) rfl rfl (by kernel_rfl) (by kernel_rfl) (by kernel_rfl) (fun _ _ _ h => h) (by kernel_rfl) (fun w' hS => by go_simp) (by assumption) ?_
  try simp only [Act.put, List.setIfInBounds_toArray, List.set_cons_zero, List.set_cons_succ]
  refine take_in (i := 16) (d := 175) (v := .bool false) rfl rfl (by kernel_rfl) (by kernel_rfl) (by kernel_rfl) (fun _ _ _ h => h) (by kernel_rfl) (fun _ _ => rfl) (by assumption) ?_
  try simp only [Act.put, List.setIfInBounds_toArray, List.set_cons_zero, List.set_cons_succ]
  refine wpAnyH_done (by kernel_rfl) ?_ _
  refine NoPanic.normal ?_
  have HS3 := Lib.hid s3
  have hz3 := s3.size
  have m2 := m_Step back q
  have h2 := c_Step back
  have hc3 : w3.cell? ⟨gp, i, none⟩ = some (.iface (Ip back) (.pointer (some ⟨q, 0, none⟩))) := (s3.cell hgpl2 (by simp; exact ⟨hgpd, Ne.symm hgdi⟩)).trans (HK1.out w2 (Frm.refl _ _))
  clear s3
  go_wp2_with fail
  refine (step_en HA.out.1 (fun x hx => by rw [(List.mem_replicate.1 hx).2]; exact Int.le_refl _) HA.out.2 (by omega) (by omega)).mono ?_
  rintro e0 w4 ⟨y0, y1, rfl, g4⟩
  have hq'd : q' ∉ [dd, q] := by simp; omega
  have f4 : Frm [q] W w4 := (HF2.out.nil.trans_new (HS3.out.trans g4) (by intro y hy; simp at hy; rcases hy with rfl | rfl; exact .inr (by omega); exact .inl (by simp)))
  have hR4 : PgR w4 q' back b t L k s o e := (HR2.out.frm HS3.out hq'd).frm g4 hq'd
  have hGE := HG.out.copy hi (w2 := w4) (q' := q') (by rw [HX.out]; exact f4) (by rw [HX.out]; exact ⟨hR4, HP.out.2⟩) hq' hwz rfl
  rw [HX.out] at hGE
  have hFE : Frm [] w0 w4 := HF.out.trans_new f4 (by intro y hy; simp at hy; subst hy; exact .inr hqlow)
  have hFE2 : Frm [] w0 (w4.setCell ⟨gp, i, none⟩ (.iface (Ip back) (.pointer (some ⟨q', 0, none⟩)))) := hFE.setCell _ _ (.inr hgp)
  have hGE2 : Ga w0.heap.size (w4.setCell ⟨gp, i, none⟩ (.iface (Ip back) (.pointer (some ⟨q', 0, none⟩)))) b t nq p d c bn g oo cg nl ws (some ⟨gp, 0, none⟩) c1 (some ⟨gr, 0, none⟩) c2 m (upd en i ⟨L, k, back, s, o, e, q'⟩) := by
    have e1 : i * 1 = i := Nat.mul_one i
    rw [e1] at hGE; exact hGE
  have HE := Lib.hid (And.intro hFE2 hGE2)
  have hc4 : w4.cell? ⟨gp, i, none⟩ = some (.iface (Ip back) (.pointer (some ⟨q, 0, none⟩))) := (f4.cell hgpl (by simp; exact Ne.symm hgdi)).trans HP0.out
  have hz4 : w4.frozen? ⟨gp, i, none⟩ = false := (f4.frozen hgpl (by simp; exact Ne.symm hgdi)).trans (HZP.out i)
  clear hc3 m2 h2 g4 f4 hR4 hGE hFE hFE2 hGE2
  go_wp2
  exact HQ.out _ _ _ _ _ _ _ _ _ _ _ _ _ _ _ _ _ _ _ _ _ _ _ _ _ _ _ _ _ _ _ _ _ _ _ _ _ _ _ _ ⟨_, _, HE.out.1, HE.out.2⟩
end
end Go.Proofs.Ytoieedlkffmcgaa
