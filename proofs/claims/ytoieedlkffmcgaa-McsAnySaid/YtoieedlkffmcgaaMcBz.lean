/- McsAny: the ways of a round: a new program that there is not; a step (by gen_mcaz.py). -/
import Derived.Test.YtoieedlkffmcgaaMcAz
import Derived.Deep.RegionHeld3
import Derived.Deep.CutRange
namespace Go.Proofs.Ytoieedlkffmcgaa
open Go.ChangeShapes Go.WideShapes Go.ChangeAt Go.RowKit
set_option linter.unusedVariables false
set_option linter.unusedSimpArgs false

section
variable {b t nq p d c bn g oo cg nl : Nat} {ws : List Int} {a1 a2 : Option Addr} {c1 c2 m : Nat} {en : Nat → En}
set_option maxRecDepth 100000 in
set_option maxHeartbeats 1000000 in
/-- A new program that there is not. -/
theorem any_not {w0 W : World} {x0 x1 x2 : Int} {ba : Nat} {back : Bool} {Q : Exit → Act → World → Prop} (v0 v1 v2 v3 v4 v5 v6 v7 v8 v10 v11 v13 v14 v15 v17 v18 v19 v20 v21 v22 v23 v24 v25 v26 v27 v28 v29 v30 v31 v32 v33 v34 v35 v36 v37 v38 v39 v40 v41 v42 v43 v44 v45 v46 v47 v48 v49 v50 v51 v52 v53 v54 v55 v56 v57 v58 v59 v60 v61 v62 v63 v64 v65 v66 v67 v68 v69 v70 v71 v72 v73 v74 v75 v76 v77 v78 v79 v80 v81 v82 v83 v84 v85 v86 v87 v88 v89 v90 v91 v92 v93 v94 v95 v96 v97 v98 v99 v100 v101 v102 v103 v104 v105 v106 v107 v108 v109 v110 v111 v112 v113 v114 v115 v116 v117 v118 v119 v120 v121 v122 v123 v124 v125 v126 v127 v128 v129 v130 v131 v132 v133 v134 v135 v136 v137 v138 v139 v140 v141 v142 v143 v144 v145 v146 v147 v148 v149 v150 v151 v152 v153 v154 v155 v156 v157 v158 v159 v160 v161 v162 v163 v164 v165 v166 v167 v168 v169 v170 v171 v172 v173 v174 v175 v176 v177 v178 v179 v180 v181 v182 v183 v184 v185 v186 v187 v188 v189 v190 v191 v192 v193 v194 v195 v196 v197 v198 v199 v200 v201 v202 v203 v204 v205 v206 v207 v208 v209 v210 : Value)
    (hF : Frm [] w0 W) (hG : Ga w0.heap.size W b t nq p d c bn g oo cg nl ws a1 c1 a2 c2 m en) (hba : W.heap[ba]? = some (.cells #[.int .i64 x0, .int .i64 x1, .int .i64 x2] 50 (0, 0)))
    (hB : ∀ w', Frm [] W w' → Calls Try.prog 11 #[.pointer (some ⟨nq, 0, none⟩), .int .i64 x1, .int .i64 x2, .bool back] w' (Ret (.tuple #[.nilIface, .int .i64 2]) (fun w2 => Frm [] w' w2)))
    (hN : ∀ w', Calls Try.prog 12 #[.agg #[.int .i64 b, .int .i64 t], .int .i64 x1, .int .i64 x2, .bool back] w' (Ret (.tuple #[.agg #[.int .i64 0, .int .i64 0, .int .i64 0, .int .i64 0, .bool false, .int .i64 0, .int .u64 0, .bool false], .int .i64 2]) (fun w2 => Frm [] w' w2)))
    (hb : (x0 == 1) = back)
    (hQ : ∀ (u17 u18 u19 u20 u92 u93 u94 u95 u96 u97 u98 u99 u100 u101 u102 u103 u104 u105 u106 u107 u108 u109 u110 u111 u112 u113 u114 u115 u116 u117 u118 u119 u120 u121 u122 u123 u124 u125 u126 u127 : Value) (w' : World), Rq w0 b t nq p d c bn g oo cg nl a1 c1 a2 c2 m w' →
      Q (.exit 1) ⟨List.toArray (v0 :: v1 :: v2 :: v3 :: v4 :: v5 :: v6 :: v7 :: v8 :: .pointer (some ⟨nq, 0, none⟩) :: v10 :: v11 :: .pointer (some ⟨bn, 0, none⟩) :: v13 :: v14 :: v15 :: .pointer (some ⟨ba, 0, none⟩) :: u17 :: u18 :: u19 :: u20 :: v21 :: v22 :: v23 :: v24 :: v25 :: v26 :: v27 :: v28 :: v29 :: v30 :: v31 :: v32 :: v33 :: v34 :: v35 :: v36 :: v37 :: v38 :: v39 :: v40 :: v41 :: v42 :: v43 :: v44 :: v45 :: v46 :: v47 :: v48 :: v49 :: v50 :: v51 :: v52 :: v53 :: v54 :: v55 :: v56 :: v57 :: v58 :: v59 :: v60 :: v61 :: v62 :: v63 :: v64 :: v65 :: v66 :: v67 :: v68 :: v69 :: v70 :: v71 :: v72 :: v73 :: v74 :: v75 :: v76 :: v77 :: v78 :: v79 :: v80 :: v81 :: v82 :: v83 :: v84 :: v85 :: v86 :: v87 :: v88 :: v89 :: v90 :: v91 :: u92 :: u93 :: u94 :: u95 :: u96 :: u97 :: u98 :: u99 :: u100 :: u101 :: u102 :: u103 :: u104 :: u105 :: u106 :: u107 :: u108 :: u109 :: u110 :: u111 :: u112 :: u113 :: u114 :: u115 :: u116 :: u117 :: u118 :: u119 :: u120 :: u121 :: u122 :: u123 :: u124 :: u125 :: u126 :: u127 :: v128 :: v129 :: v130 :: v131 :: v132 :: v133 :: v134 :: v135 :: v136 :: v137 :: v138 :: v139 :: v140 :: v141 :: v142 :: v143 :: v144 :: v145 :: v146 :: v147 :: v148 :: v149 :: v150 :: v151 :: v152 :: v153 :: v154 :: v155 :: v156 :: v157 :: v158 :: v159 :: v160 :: v161 :: v162 :: v163 :: v164 :: v165 :: v166 :: v167 :: v168 :: v169 :: v170 :: v171 :: v172 :: v173 :: v174 :: v175 :: v176 :: v177 :: v178 :: v179 :: v180 :: v181 :: v182 :: v183 :: v184 :: v185 :: v186 :: v187 :: v188 :: v189 :: v190 :: v191 :: v192 :: v193 :: v194 :: v195 :: v196 :: v197 :: v198 :: v199 :: v200 :: v201 :: v202 :: v203 :: v204 :: v205 :: v206 :: v207 :: v208 :: v209 :: v210 :: []), []⟩ w') :
    Code.wp Try.prog (pieceA 14) Q ⟨List.toArray (v0 :: v1 :: v2 :: v3 :: v4 :: v5 :: v6 :: v7 :: v8 :: .pointer (some ⟨nq, 0, none⟩) :: v10 :: v11 :: .pointer (some ⟨bn, 0, none⟩) :: v13 :: v14 :: v15 :: .pointer (some ⟨ba, 0, none⟩) :: v17 :: v18 :: v19 :: v20 :: v21 :: v22 :: v23 :: v24 :: v25 :: v26 :: v27 :: v28 :: v29 :: v30 :: v31 :: v32 :: v33 :: v34 :: v35 :: v36 :: v37 :: v38 :: v39 :: v40 :: v41 :: v42 :: v43 :: v44 :: v45 :: v46 :: v47 :: v48 :: v49 :: v50 :: v51 :: v52 :: v53 :: v54 :: v55 :: v56 :: v57 :: v58 :: v59 :: v60 :: v61 :: v62 :: v63 :: v64 :: v65 :: v66 :: v67 :: v68 :: v69 :: v70 :: v71 :: v72 :: v73 :: v74 :: v75 :: v76 :: v77 :: v78 :: v79 :: v80 :: v81 :: v82 :: v83 :: v84 :: v85 :: v86 :: v87 :: v88 :: v89 :: v90 :: v91 :: v92 :: v93 :: v94 :: v95 :: v96 :: v97 :: v98 :: v99 :: v100 :: v101 :: v102 :: v103 :: v104 :: v105 :: v106 :: v107 :: v108 :: v109 :: v110 :: v111 :: v112 :: v113 :: v114 :: v115 :: v116 :: v117 :: v118 :: v119 :: v120 :: v121 :: v122 :: v123 :: v124 :: v125 :: v126 :: v127 :: v128 :: v129 :: v130 :: v131 :: v132 :: v133 :: v134 :: v135 :: v136 :: v137 :: v138 :: v139 :: v140 :: v141 :: v142 :: v143 :: v144 :: v145 :: v146 :: v147 :: v148 :: v149 :: v150 :: v151 :: v152 :: v153 :: v154 :: v155 :: v156 :: v157 :: v158 :: v159 :: v160 :: v161 :: v162 :: v163 :: v164 :: v165 :: v166 :: v167 :: v168 :: v169 :: v170 :: v171 :: v172 :: v173 :: v174 :: v175 :: v176 :: v177 :: v178 :: v179 :: v180 :: v181 :: v182 :: v183 :: v184 :: v185 :: v186 :: v187 :: v188 :: v189 :: v190 :: v191 :: v192 :: v193 :: v194 :: v195 :: v196 :: v197 :: v198 :: v199 :: v200 :: v201 :: v202 :: v203 :: v204 :: v205 :: v206 :: v207 :: v208 :: v209 :: v210 :: []), []⟩ W := by
  have HF := Lib.hid hF
  have HG := Lib.hid hG
  have HA := Lib.hid hba
  have HQ := Lib.hid hQ
  have HB := Lib.hid hB
  have HN := Lib.hid hN
  obtain ⟨c0, c1', c2'⟩ : W.cell? ⟨ba, 0, none⟩ = some (.int .i64 x0) ∧ W.cell? ⟨ba, 1, none⟩ = some (.int .i64 x1) ∧ W.cell? ⟨ba, 2, none⟩ = some (.int .i64 x2) :=
    ⟨by rw [cell_of_heap hba]; rfl, by rw [cell_of_heap hba]; rfl, by rw [cell_of_heap hba]; rfl⟩
  clear hF hG hba hQ hB hN
  conv => arg 2; whnf
  go_wp2_with fail
  refine (HB.out _ (Frm.refl _ _)).mono ?_
  rintro e w1 ⟨rfl, g1⟩
  have hnn := g1.heap HG.out.nn (by simp)
  have hba := g1.heap HA.out (by simp)
  obtain ⟨n0, n1⟩ := cells2 hnn
  clear c0 c1' c2'
  obtain ⟨c0, c1', c2'⟩ : w1.cell? ⟨ba, 0, none⟩ = some (.int .i64 x0) ∧ w1.cell? ⟨ba, 1, none⟩ = some (.int .i64 x1) ∧ w1.cell? ⟨ba, 2, none⟩ = some (.int .i64 x2) :=
    ⟨by rw [cell_of_heap hba]; rfl, by rw [cell_of_heap hba]; rfl, by rw [cell_of_heap hba]; rfl⟩
  have HG1 := Lib.hid g1
  clear hnn hba g1
  go_wp2_with fail
  refine (HN.out _).mono ?_
  rintro e w2 ⟨rfl, g2⟩
  have HG2 := Lib.hid (HG1.out.trans g2)
  clear n0 n1 c0 c1' c2' g2
  go_wp2
  exact HQ.out _ _ _ _ _ _ _ _ _ _ _ _ _ _ _ _ _ _ _ _ _ _ _ _ _ _ _ _ _ _ _ _ _ _ _ _ _ _ _ _ _ ⟨_, _, (HF.out.trans HG2.out).alloc _, (HG.out.frm0 HG2.out).frm0 ((Frm.refl _ _).alloc _)⟩
theorem wpx_mem {w0 : World} {b t nq p d c bn g oo cg nl : Nat} {ws : List Int} {a1 a2 : Option Addr} {c1 c2 m : Nat} {en : Nat → En} {W : World} (h : Ga w0.heap.size W b t nq p d c bn g oo cg nl ws a1 c1 a2 c2 m en) (t64 : t ≤ 64) (fit : b + 6 * t ≤ 65536) (n0 : 0 < nl) {i : Nat} (hi : i < m) {L k : Nat} {back : Bool} {s o : Int} {e : Bool} {q : Nat} (hx : en i = ⟨L, k, back, s, o, e, q⟩) :
    ∃ ws' s' o' e', (∀ x ∈ ws', 0 ≤ x) ∧ ws'.length = ws.length ∧ ∀ w', Frm [] W w' → Calls Try.prog 13 #[.iface (Ip back) (.pointer (some ⟨q, 0, none⟩)), .agg #[.int .i64 b, .int .i64 t, .int .i64 (L : Nat), .int .i64 (k : Nat), .bool back, .int .i64 s, .int .u64 o, .bool e], .pointer (some ⟨p, 0, none⟩), .slice (some ⟨g, oo, none⟩) nl cg] w'
      (fun e0 w2 => ∃ g' o2 c', Ret (.tuple #[.agg #[.int .i64 b, .int .i64 t, .int .i64 (L : Nat), .int .i64 (k : Nat), .bool back, .int .i64 s', .int .u64 o', .bool e'], .slice (some ⟨g', o2, none⟩) nl c', .bool true]) (fun w2 => Aftr p d c q back b t L k w' ws' s' o' e' w2 ∧ Rd w2 (.slice (some ⟨g', o2, none⟩) nl c') (u64s ws') ∧ (g' = g ∨ w'.heap.size ≤ g')) e0 w2) := by
  obtain ⟨hP, hkt⟩ := h.ps i hi
  have hq1 := h.qne hi
  have hgq := h.gf.2.2.2 i hi
  rw [hx] at hP hkt hq1 hgq
  have rdf : ∀ w', Frm [] W w' → Rd w' (.slice (some ⟨g, oo, none⟩) nl cg) (u64s ws) := fun w' hf => h.rd.frm hf (by simp)
  cases e with
  | true => exact ⟨ws, s, o, true, h.pos, rfl, fun w' hf => does_over (h.mem.frm hf (by simp) (by simp)) (hP.frm hf (by simp)) h.len (rdf w' hf) h.gf.1 hgq hq1.2.1 t64 fit hkt⟩
  | false =>
    obtain ⟨met, hPg, hk0⟩ := id hP
    obtain ⟨e', s', o', ws', wait, no, hst, hok, hpos, hln⟩ := (hk0 rfl).1.stp b t L k ws h.pos
    exact ⟨ws', s', o', e', hpos, hln, fun w' hf => does_any (h.mem.frm hf (by simp) (by simp)) (hP.frm hf (by simp)) h.len n0 (rdf w' hf) h.gf.1 hgq hq1.1 hq1.2.1 t64 fit hkt hst hok hln⟩
theorem setc8 (w : World) (g o : Nat) (y0 y1 y2 y3 y4 y5 y6 y7 : Value) : w.setCells g o [y0, y1, y2, y3, y4, y5, y6, y7] = (((((((w.setCell ⟨g, o, none⟩ y0).setCell ⟨g, o + 1, none⟩ y1).setCell ⟨g, o + 2, none⟩ y2).setCell ⟨g, o + 3, none⟩ y3).setCell ⟨g, o + 4, none⟩ y4).setCell ⟨g, o + 5, none⟩ y5).setCell ⟨g, o + 6, none⟩ y6).setCell ⟨g, o + 7, none⟩ y7 := rfl
set_option maxRecDepth 100000 in
set_option maxHeartbeats 1000000 in
/-- A step of a program. -/
theorem any_step {w0 W : World} {i : Nat} {Q : Exit → Act → World → Prop} (v1 v2 v3 v4 v5 v6 v7 v8 v9 v10 v12 v15 v16 v17 v18 v19 v20 v22 v23 v24 v25 v26 v27 v28 v29 v30 v31 v32 v33 v34 v35 v36 v37 v38 v39 v40 v41 v42 v43 v44 v45 v46 v47 v48 v49 v50 v51 v52 v53 v54 v55 v56 v57 v58 v59 v60 v61 v62 v63 v64 v65 v66 v67 v68 v69 v70 v71 v72 v73 v74 v75 v76 v77 v78 v79 v80 v81 v82 v83 v84 v85 v86 v87 v88 v89 v90 v91 v92 v93 v94 v95 v96 v97 v98 v99 v100 v101 v102 v103 v104 v105 v106 v107 v108 v109 v110 v111 v112 v113 v114 v115 v116 v117 v118 v119 v120 v121 v122 v123 v124 v125 v126 v127 v128 v129 v130 v131 v132 v133 v134 v135 v136 v137 v138 v139 v140 v141 v142 v143 v144 v145 v146 v147 v148 v149 v150 v151 v152 v153 v154 v155 v156 v157 v158 v159 v160 v161 v162 v163 v164 v165 v166 v167 v168 v169 v170 v171 v172 v173 v174 v175 v176 v177 v178 v179 v180 v181 v182 v183 v184 v185 v186 v187 v188 v189 v190 v191 v192 v193 v194 v195 v196 v197 v198 v199 v200 v201 v202 v203 v204 v205 v206 v207 v208 v209 v210 : Value)
    (hF : Frm [] w0 W) (hG : Ga w0.heap.size W b t nq p d c bn g oo cg nl ws a1 c1 a2 c2 m en) (t64 : t ≤ 64) (fit : b + 6 * t ≤ 65536) (n0 : 0 < nl) (hi : i < m) (hm : m ≤ 1000)
    (hQ : ∀ (u24 u25 u26 u187 u188 u189 u190 u191 u192 u193 u194 u195 u196 u197 u198 u199 u200 u201 u202 u203 u204 u205 u206 u207 u208 : Value) (g' o2 cg' : Nat) (w' : World), Rq w0 b t nq p d c bn g' o2 cg' nl a1 c1 a2 c2 m w' →
      Q .normal ⟨List.toArray (.slice (some ⟨g', o2, none⟩) nl cg' :: v1 :: v2 :: v3 :: v4 :: v5 :: v6 :: v7 :: v8 :: v9 :: v10 :: .pointer (some ⟨p, 0, none⟩) :: v12 :: .slice a1 m c1 :: .slice a2 m c2 :: v15 :: v16 :: v17 :: v18 :: v19 :: v20 :: .int .i64 (i : Int) :: v22 :: v23 :: u24 :: u25 :: u26 :: v27 :: v28 :: v29 :: v30 :: v31 :: v32 :: v33 :: v34 :: v35 :: v36 :: v37 :: v38 :: v39 :: v40 :: v41 :: v42 :: v43 :: v44 :: v45 :: v46 :: v47 :: v48 :: v49 :: v50 :: v51 :: v52 :: v53 :: v54 :: v55 :: v56 :: v57 :: v58 :: v59 :: v60 :: v61 :: v62 :: v63 :: v64 :: v65 :: v66 :: v67 :: v68 :: v69 :: v70 :: v71 :: v72 :: v73 :: v74 :: v75 :: v76 :: v77 :: v78 :: v79 :: v80 :: v81 :: v82 :: v83 :: v84 :: v85 :: v86 :: v87 :: v88 :: v89 :: v90 :: v91 :: v92 :: v93 :: v94 :: v95 :: v96 :: v97 :: v98 :: v99 :: v100 :: v101 :: v102 :: v103 :: v104 :: v105 :: v106 :: v107 :: v108 :: v109 :: v110 :: v111 :: v112 :: v113 :: v114 :: v115 :: v116 :: v117 :: v118 :: v119 :: v120 :: v121 :: v122 :: v123 :: v124 :: v125 :: v126 :: v127 :: v128 :: v129 :: v130 :: v131 :: v132 :: v133 :: v134 :: v135 :: v136 :: v137 :: v138 :: v139 :: v140 :: v141 :: v142 :: v143 :: v144 :: v145 :: v146 :: v147 :: v148 :: v149 :: v150 :: v151 :: v152 :: v153 :: v154 :: v155 :: v156 :: v157 :: v158 :: v159 :: v160 :: v161 :: v162 :: v163 :: v164 :: v165 :: v166 :: v167 :: v168 :: v169 :: v170 :: v171 :: v172 :: v173 :: v174 :: v175 :: v176 :: v177 :: v178 :: v179 :: v180 :: v181 :: v182 :: v183 :: v184 :: v185 :: v186 :: u187 :: u188 :: u189 :: u190 :: u191 :: u192 :: u193 :: u194 :: u195 :: u196 :: u197 :: u198 :: u199 :: u200 :: u201 :: u202 :: u203 :: u204 :: u205 :: u206 :: u207 :: u208 :: v209 :: v210 :: []), []⟩ w') :
    Code.wp Try.prog (pieceA 31) Q ⟨List.toArray (.slice (some ⟨g, oo, none⟩) nl cg :: v1 :: v2 :: v3 :: v4 :: v5 :: v6 :: v7 :: v8 :: v9 :: v10 :: .pointer (some ⟨p, 0, none⟩) :: v12 :: .slice a1 m c1 :: .slice a2 m c2 :: v15 :: v16 :: v17 :: v18 :: v19 :: v20 :: .int .i64 (i : Int) :: v22 :: v23 :: v24 :: v25 :: v26 :: v27 :: v28 :: v29 :: v30 :: v31 :: v32 :: v33 :: v34 :: v35 :: v36 :: v37 :: v38 :: v39 :: v40 :: v41 :: v42 :: v43 :: v44 :: v45 :: v46 :: v47 :: v48 :: v49 :: v50 :: v51 :: v52 :: v53 :: v54 :: v55 :: v56 :: v57 :: v58 :: v59 :: v60 :: v61 :: v62 :: v63 :: v64 :: v65 :: v66 :: v67 :: v68 :: v69 :: v70 :: v71 :: v72 :: v73 :: v74 :: v75 :: v76 :: v77 :: v78 :: v79 :: v80 :: v81 :: v82 :: v83 :: v84 :: v85 :: v86 :: v87 :: v88 :: v89 :: v90 :: v91 :: v92 :: v93 :: v94 :: v95 :: v96 :: v97 :: v98 :: v99 :: v100 :: v101 :: v102 :: v103 :: v104 :: v105 :: v106 :: v107 :: v108 :: v109 :: v110 :: v111 :: v112 :: v113 :: v114 :: v115 :: v116 :: v117 :: v118 :: v119 :: v120 :: v121 :: v122 :: v123 :: v124 :: v125 :: v126 :: v127 :: v128 :: v129 :: v130 :: v131 :: v132 :: v133 :: v134 :: v135 :: v136 :: v137 :: v138 :: v139 :: v140 :: v141 :: v142 :: v143 :: v144 :: v145 :: v146 :: v147 :: v148 :: v149 :: v150 :: v151 :: v152 :: v153 :: v154 :: v155 :: v156 :: v157 :: v158 :: v159 :: v160 :: v161 :: v162 :: v163 :: v164 :: v165 :: v166 :: v167 :: v168 :: v169 :: v170 :: v171 :: v172 :: v173 :: v174 :: v175 :: v176 :: v177 :: v178 :: v179 :: v180 :: v181 :: v182 :: v183 :: v184 :: v185 :: v186 :: v187 :: v188 :: v189 :: v190 :: v191 :: v192 :: v193 :: v194 :: v195 :: v196 :: v197 :: v198 :: v199 :: v200 :: v201 :: v202 :: v203 :: v204 :: v205 :: v206 :: v207 :: v208 :: v209 :: v210 :: []), []⟩ W := by
  obtain ⟨gp, rfl, hgp, hgpl, hzp, hcp⟩ := hG.pr.at_ hi
  obtain ⟨gr, rfl, hgr, hgrl, hzr, hcr⟩ := hG.rn.at_ hi
  obtain ⟨x, hx⟩ : ∃ x, en i = x := ⟨_, rfl⟩
  obtain ⟨L, k, back, s, o, e, q⟩ := x
  obtain ⟨ws', s', o', e', hpos, hln, hdo⟩ := wpx_mem hG t64 fit n0 hi hx
  have hq1 := hG.qne hi
  have hp0 := hcp i hi 0 (.iface (Ip back) (.pointer (some ⟨q, 0, none⟩))) (by rw [hx]; rfl)
  have hr : ∀ j v, (rvE b t ⟨L, k, back, s, o, e, q⟩)[j]? = some v → W.cell? ⟨gr, i * 8 + j, none⟩ = some v := fun j v hv => hcr i hi j v (by rw [hx]; exact hv)
  have hr0 := hr 0 _ rfl
  have hr1 := hr 1 _ rfl
  have hr2 := hr 2 _ rfl
  have hr3 := hr 3 _ rfl
  have hr4 := hr 4 _ rfl
  have hr5 := hr 5 _ rfl
  have hr6 := hr 6 _ rfl
  have hr7 := hr 7 _ rfl
  have hql := (hG.ps i hi).lt
  have hqlow := hG.qlow i hi
  have hgdi := (hG.row1).2.2.2.2 i hi
  have hrdi := (hG.row2).2.2.2.2 i hi
  have hgd := (hG.row1).2.1
  have hrd := (hG.row2).2.1
  rw [hx] at hq1 hql hqlow hgdi hrdi
  change q < W.heap.size at hql
  change w0.heap.size ≤ q at hqlow
  simp only [bkG, List.mem_singleton] at hgdi hrdi hgd hrd
  have hld := hG.mem.dlt
  have hlow := hG.low
  have hgl := hG.glt
  simp only [Nat.mul_one, Nat.add_zero] at hp0 hr0
  have HF := Lib.hid hF
  have HG := Lib.hid hG
  have HQ := Lib.hid hQ
  have HX := Lib.hid hx
  have HPOS := Lib.hid hpos
  have HLN := Lib.hid hln
  have HDO := Lib.hid hdo
  have HK1 := Lib.hid (fun w' (hf : Frm [d, q] W w') => (hf.cell hgpl (by simp; exact ⟨Ne.symm hgd, Ne.symm hgdi⟩)).trans hp0)
  have HK2 := Lib.hid (fun w' (hf : Frm [d, q] W w') => And.intro ((hf.cell hgrl (by simp; exact ⟨Ne.symm hrd, Ne.symm hrdi⟩)).trans hr0) (And.intro ((hf.cell hgrl (by simp; exact ⟨Ne.symm hrd, Ne.symm hrdi⟩)).trans hr1) (And.intro ((hf.cell hgrl (by simp; exact ⟨Ne.symm hrd, Ne.symm hrdi⟩)).trans hr2) (And.intro ((hf.cell hgrl (by simp; exact ⟨Ne.symm hrd, Ne.symm hrdi⟩)).trans hr3) (And.intro ((hf.cell hgrl (by simp; exact ⟨Ne.symm hrd, Ne.symm hrdi⟩)).trans hr4) (And.intro ((hf.cell hgrl (by simp; exact ⟨Ne.symm hrd, Ne.symm hrdi⟩)).trans hr5) (And.intro ((hf.cell hgrl (by simp; exact ⟨Ne.symm hrd, Ne.symm hrdi⟩)).trans hr6) ((hf.cell hgrl (by simp; exact ⟨Ne.symm hrd, Ne.symm hrdi⟩)).trans hr7))))))))
  have HRR := Lib.hid hr
  have HZR := Lib.hid hzr
  have hin : (i : Int) < (m : Int) := by omega
  have hwz := hF.size
  clear hF hG hQ hx hpos hln hdo hcp hcr hzp hzr hp0 hr hr0 hr1 hr2 hr3 hr4 hr5 hr6 hr7
  conv => arg 2; whnf
  try dsimp only
  go_upto_region 31 with fail
  go_cut [24, 25, 26] from 187 to 201 (fun s24 s25 s26 wx => ∃ b24 g' o2 cg' w1 : _, s24 = .pointer (some ⟨b24, 0, none⟩) ∧ s25 = .slice (some ⟨g', o2, none⟩) nl cg' ∧ s26 = .bool true ∧ W.heap.size ≤ b24 ∧ b24 ≠ g' ∧ wx.heap[b24]? = some (.cells #[.int .i64 b, .int .i64 t, .int .i64 (L : Nat), .int .i64 (k : Nat), .bool back, .int .i64 s', .int .u64 o', .bool e'] 42 (0, 0)) ∧ (∃ wa : World, Frm [] W wa ∧ Aftr p d c q back b t L k wa ws' s' o' e' w1 ∧ Rd w1 (.slice (some ⟨g', o2, none⟩) nl cg') (u64s ws') ∧ (g' = g ∨ wa.heap.size ≤ g')) ∧ Frm [b24] w1 wx ∧ Frm [d, q] W wx)
  case first =>
    refine wp_region_noPanic ?_
    refine wp_region_held_drew (S := fun w' => Frm [d, q] W w') (by kernel_rfl) ((Frm.refl _ _).drew) (fun hHeld => ?_)
    refine take_in (i := 0) (d := 188) (v := .slice (some ⟨gp, 0, none⟩) m c1) rfl rfl (by kernel_rfl) (by kernel_rfl) (by kernel_rfl) (fun _ _ _ h => h) (by kernel_rfl) (fun _ _ => rfl) (by assumption) ?_
    try simp only [Act.put, List.setIfInBounds_toArray, List.set_cons_zero, List.set_cons_succ]
    refine take_in (i := 1) (d := 189) (v := .int .i64 (i : Int)) rfl rfl (by kernel_rfl) (by kernel_rfl) (by kernel_rfl) (fun _ _ _ h => h) (by kernel_rfl) (fun _ _ => rfl) (by assumption) ?_
    try simp only [Act.put, List.setIfInBounds_toArray, List.set_cons_zero, List.set_cons_succ]
    refine take_in (i := 2) (d := 190) (v := .pointer (some ⟨gp, i, none⟩)) rfl rfl (by kernel_rfl) (by kernel_rfl) (by kernel_rfl) (fun _ _ _ h => h) (by kernel_rfl) (fun w' hS => by go_simp) (by assumption) ?_
    try simp only [Act.put, List.setIfInBounds_toArray, List.set_cons_zero, List.set_cons_succ]
    refine take_in (i := 3) (d := 191) (v := .iface (Ip back) (.pointer (some ⟨q, 0, none⟩))) rfl rfl (by kernel_rfl) (by kernel_rfl) (by kernel_rfl) (fun _ _ _ h => h) (by kernel_rfl) (fun w' hS => by have hS' : Frm [d, q] W w' := hS; have hh := HK1.out w' hS'; go_simp) (by assumption) ?_
    try simp only [Act.put, List.setIfInBounds_toArray, List.set_cons_zero, List.set_cons_succ]
    refine take_in (i := 4) (d := 192) (v := .slice (some ⟨gr, 0, none⟩) m c2) rfl rfl (by kernel_rfl) (by kernel_rfl) (by kernel_rfl) (fun _ _ _ h => h) (by kernel_rfl) (fun _ _ => rfl) (by assumption) ?_
    try simp only [Act.put, List.setIfInBounds_toArray, List.set_cons_zero, List.set_cons_succ]
    refine take_in (i := 5) (d := 193) (v := .int .i64 (i : Int)) rfl rfl (by kernel_rfl) (by kernel_rfl) (by kernel_rfl) (fun _ _ _ h => h) (by kernel_rfl) (fun _ _ => rfl) (by assumption) ?_
    try simp only [Act.put, List.setIfInBounds_toArray, List.set_cons_zero, List.set_cons_succ]
    refine take_in (i := 6) (d := 194) (v := .pointer (some ⟨gr, i * 8, none⟩)) rfl rfl (by kernel_rfl) (by kernel_rfl) (by kernel_rfl) (fun _ _ _ h => h) (by kernel_rfl) (fun w' hS => by go_simp) (by assumption) ?_
    try simp only [Act.put, List.setIfInBounds_toArray, List.set_cons_zero, List.set_cons_succ]
    refine take_in (i := 7) (d := 195) (v := .agg #[.int .i64 b, .int .i64 t, .int .i64 (L : Nat), .int .i64 (k : Nat), .bool back, .int .i64 s, .int .u64 o, .bool e]) rfl rfl (by kernel_rfl) (by kernel_rfl) (by kernel_rfl) (fun _ _ _ h => h) (by kernel_rfl) (fun w' hS => by have hS' : Frm [d, q] W w' := hS; obtain ⟨c0, c1', c2', c3, c4, c5, c6, c7⟩ := HK2.out w' hS'; go_simp) (by assumption) ?_
    try simp only [Act.put, List.setIfInBounds_toArray, List.set_cons_zero, List.set_cons_succ]
    refine take_in (i := 8) (d := 196) (v := .pointer (some ⟨p, 0, none⟩)) rfl rfl (by kernel_rfl) (by kernel_rfl) (by kernel_rfl) (fun _ _ _ h => h) (by kernel_rfl) (fun _ _ => rfl) (by assumption) ?_
    try simp only [Act.put, List.setIfInBounds_toArray, List.set_cons_zero, List.set_cons_succ]
    refine take_in (i := 9) (d := 197) (v := .slice (some ⟨g, oo, none⟩) nl cg) rfl rfl (by kernel_rfl) (by kernel_rfl) (by kernel_rfl) (fun _ _ _ h => h) (by kernel_rfl) (fun _ _ => rfl) (by assumption) ?_
    try simp only [Act.put, List.setIfInBounds_toArray, List.set_cons_zero, List.set_cons_succ]
    refine wpAnyH_ready (rs := [10, 15]) (by kernel_rfl) (by simp) ?_
    refine AllReadyH.cons rfl (fun K hK => ?_) (AllReadyH.cons rfl (fun K hK => ?_) AllReadyH.nil)
    · go_simp
      refine (HDO.out _ (by (repeat' (first | assumption | exact Frm.refl _ _ | apply Frm.drew | apply Frm.drewN | apply Frm.alloc)))).mono ?_
      rintro e0 x1 ⟨g', o2, cg', rfl, hA, hrd', hgg⟩
      have s1 : Frm [d, q] W x1 := Frm.trans (by (repeat' (first | assumption | exact Frm.refl _ _ | apply Frm.drew | apply Frm.drewN | apply Frm.alloc))) hA.1
      have hgx : x1.heap.size ≠ g' := by have := hrd'.cells.1; omega
      have hx1z := s1.size
      have HWA := Lib.hid (show ∃ wa : World, Frm [] W wa ∧ Aftr p d c q back b t L k wa ws' s' o' e' x1 ∧ Rd x1 (.slice (some ⟨g', o2, none⟩) nl cg') (u64s ws') ∧ (g' = g ∨ wa.heap.size ≤ g') from ⟨_, (by (repeat' (first | assumption | exact Frm.refl _ _ | apply Frm.drew | apply Frm.drewN | apply Frm.alloc))), hA, hrd', hgg⟩)
      clear hA hrd' hgg
      refine hK.out _ _ (by exact s1) (fun hHeld => ?_)
      clear hK K
      try change wpAnyH _ _ _ _ _ _ _ (Act.put _ (some 198) _) _
      try simp only [Act.put, List.setIfInBounds_toArray, List.set_cons_zero, List.set_cons_succ]
      refine take_in (i := 11) (d := 187) (v := .tuple #[.agg #[.int .i64 b, .int .i64 t, .int .i64 (L : Nat), .int .i64 (k : Nat), .bool back, .int .i64 s', .int .u64 o', .bool e'], .slice (some ⟨g', o2, none⟩) nl cg', .bool true]) rfl rfl (by kernel_rfl) (by kernel_rfl) (by kernel_rfl) (fun _ _ _ h => h) (by kernel_rfl) (fun _ _ => rfl) (by assumption) ?_
      try simp only [Act.put, List.setIfInBounds_toArray, List.set_cons_zero, List.set_cons_succ]
      refine take_in (i := 12) (d := 199) (v := .agg #[.int .i64 b, .int .i64 t, .int .i64 (L : Nat), .int .i64 (k : Nat), .bool back, .int .i64 s', .int .u64 o', .bool e']) rfl rfl (by kernel_rfl) (by kernel_rfl) (by kernel_rfl) (fun _ _ _ h => h) (by kernel_rfl) (fun _ _ => rfl) (by assumption) ?_
      try simp only [Act.put, List.setIfInBounds_toArray, List.set_cons_zero, List.set_cons_succ]
      refine take_in (i := 13) (d := 200) (v := .slice (some ⟨g', o2, none⟩) nl cg') rfl rfl (by kernel_rfl) (by kernel_rfl) (by kernel_rfl) (fun _ _ _ h => h) (by kernel_rfl) (fun _ _ => rfl) (by assumption) ?_
      try simp only [Act.put, List.setIfInBounds_toArray, List.set_cons_zero, List.set_cons_succ]
      refine take_in (i := 14) (d := 201) (v := .bool true) rfl rfl (by kernel_rfl) (by kernel_rfl) (by kernel_rfl) (fun _ _ _ h => h) (by kernel_rfl) (fun _ _ => rfl) (by assumption) ?_
      try simp only [Act.put, List.setIfInBounds_toArray, List.set_cons_zero, List.set_cons_succ]
      refine wpAnyH_ready (rs := [15]) (by kernel_rfl) (by simp) ?_
      refine AllReadyH.cons rfl (fun K hK => ?_) AllReadyH.nil
      go_simp
      have s2 : Frm [d, q] W (x1.alloc (.cells #[.int .i64 0, .int .i64 0, .int .i64 0, .int .i64 0, .bool false, .int .i64 0, .int .u64 0, .bool false] 42)) := s1.alloc _
      refine hK.out _ _ (by exact s2) (fun hHeld => ?_)
      clear hK K
      try change wpAnyH _ _ _ _ _ _ _ (Act.put _ (some 24) _) _
      try simp only [Act.put, List.setIfInBounds_toArray, List.set_cons_zero, List.set_cons_succ]
      refine wpAnyH_ready (rs := [16]) (by kernel_rfl) (by simp) ?_
      refine AllReadyH.cons rfl (fun K hK => ?_) AllReadyH.nil
      have hz8 := heap_alloc_new x1 (.cells #[.int .i64 0, .int .i64 0, .int .i64 0, .int .i64 0, .bool false, .int .i64 0, .int .u64 0, .bool false] 42)
      obtain ⟨r0, r1, r2, r3, r4, r5, r6, r7⟩ := cells8 hz8
      have fz := fun i => frozen_of_heap (i := i) hz8
      go_simp
      refine hK.out _ _ (s1.alloc _) (fun hHeld => ?_)
      clear hK K
      try simp only [Act.put, List.setIfInBounds_toArray, List.set_cons_zero, List.set_cons_succ]
      refine take_in (i := 17) (d := 25) (v := .slice (some ⟨g', o2, none⟩) nl cg') rfl rfl (by kernel_rfl) (by kernel_rfl) (by kernel_rfl) (fun _ _ _ h => h) (by kernel_rfl) (fun _ _ => rfl) (by assumption) ?_
      try simp only [Act.put, List.setIfInBounds_toArray, List.set_cons_zero, List.set_cons_succ]
      refine take_in (i := 18) (d := 26) (v := .bool true) rfl rfl (by kernel_rfl) (by kernel_rfl) (by kernel_rfl) (fun _ _ _ h => h) (by kernel_rfl) (fun _ _ => rfl) (by assumption) ?_
      try simp only [Act.put, List.setIfInBounds_toArray, List.set_cons_zero, List.set_cons_succ]
      refine wpAnyH_done (by kernel_rfl) ?_ _
      refine NoPanic.normal ?_
      clear r0 r1 r2 r3 r4 r5 r6 r7 fz hz8
      go_wp2
      go_meet
      exact ⟨x1.heap.size, g', o2, cg', x1, rfl, rfl, rfl, hx1z, hgx, heap_alloc_new _ _, HWA.out, (Frm.refl _ _).alloc _, s1.alloc _⟩
    · go_simp
      have s0 : Frm [d, q] W (W.drew.alloc (.cells #[.int .i64 0, .int .i64 0, .int .i64 0, .int .i64 0, .bool false, .int .i64 0, .int .u64 0, .bool false] 42)) := ((Frm.refl _ _).drew).alloc _
      refine hK.out _ _ (by exact s0) (fun hHeld => ?_)
      clear hK K
      try change wpAnyH _ _ _ _ _ _ _ (Act.put _ (some 24) _) _
      try simp only [Act.put, List.setIfInBounds_toArray, List.set_cons_zero, List.set_cons_succ]
      refine wpAnyH_ready (rs := [10]) (by kernel_rfl) (by simp) ?_
      refine AllReadyH.cons rfl (fun K hK => ?_) AllReadyH.nil
      go_simp
      refine (HDO.out _ (by (repeat' (first | assumption | exact Frm.refl _ _ | apply Frm.drew | apply Frm.drewN | apply Frm.alloc)))).mono ?_
      rintro e0 x1 ⟨g', o2, cg', rfl, hA, hrd', hgg⟩
      have s1 : Frm [d, q] W x1 := Frm.trans (by (repeat' (first | assumption | exact Frm.refl _ _ | apply Frm.drew | apply Frm.drewN | apply Frm.alloc))) hA.1
      have hz8 : x1.heap[W.heap.size]? = some (.cells #[.int .i64 0, .int .i64 0, .int .i64 0, .int .i64 0, .bool false, .int .i64 0, .int .u64 0, .bool false] 42 (0, 0)) := hA.1.heap (heap_alloc_new W.drew (.cells #[.int .i64 0, .int .i64 0, .int .i64 0, .int .i64 0, .bool false, .int .i64 0, .int .u64 0, .bool false] 42)) (by simp; omega)
      have hgx : W.heap.size ≠ g' := by
        rcases hgg with h | h
        · omega
        · simp at h; omega
      have hx1z := s1.size
      have HWA := Lib.hid (show ∃ wa : World, Frm [] W wa ∧ Aftr p d c q back b t L k wa ws' s' o' e' x1 ∧ Rd x1 (.slice (some ⟨g', o2, none⟩) nl cg') (u64s ws') ∧ (g' = g ∨ wa.heap.size ≤ g') from ⟨_, (by (repeat' (first | assumption | exact Frm.refl _ _ | apply Frm.drew | apply Frm.drewN | apply Frm.alloc))), hA, hrd', hgg⟩)
      clear hA hrd' hgg
      refine hK.out _ _ (by exact s1) (fun hHeld => ?_)
      clear hK K
      try change wpAnyH _ _ _ _ _ _ _ (Act.put _ (some 198) _) _
      try simp only [Act.put, List.setIfInBounds_toArray, List.set_cons_zero, List.set_cons_succ]
      refine take_in (i := 11) (d := 187) (v := .tuple #[.agg #[.int .i64 b, .int .i64 t, .int .i64 (L : Nat), .int .i64 (k : Nat), .bool back, .int .i64 s', .int .u64 o', .bool e'], .slice (some ⟨g', o2, none⟩) nl cg', .bool true]) rfl rfl (by kernel_rfl) (by kernel_rfl) (by kernel_rfl) (fun _ _ _ h => h) (by kernel_rfl) (fun _ _ => rfl) (by assumption) ?_
      try simp only [Act.put, List.setIfInBounds_toArray, List.set_cons_zero, List.set_cons_succ]
      refine take_in (i := 12) (d := 199) (v := .agg #[.int .i64 b, .int .i64 t, .int .i64 (L : Nat), .int .i64 (k : Nat), .bool back, .int .i64 s', .int .u64 o', .bool e']) rfl rfl (by kernel_rfl) (by kernel_rfl) (by kernel_rfl) (fun _ _ _ h => h) (by kernel_rfl) (fun _ _ => rfl) (by assumption) ?_
      try simp only [Act.put, List.setIfInBounds_toArray, List.set_cons_zero, List.set_cons_succ]
      refine take_in (i := 13) (d := 200) (v := .slice (some ⟨g', o2, none⟩) nl cg') rfl rfl (by kernel_rfl) (by kernel_rfl) (by kernel_rfl) (fun _ _ _ h => h) (by kernel_rfl) (fun _ _ => rfl) (by assumption) ?_
      try simp only [Act.put, List.setIfInBounds_toArray, List.set_cons_zero, List.set_cons_succ]
      refine take_in (i := 14) (d := 201) (v := .bool true) rfl rfl (by kernel_rfl) (by kernel_rfl) (by kernel_rfl) (fun _ _ _ h => h) (by kernel_rfl) (fun _ _ => rfl) (by assumption) ?_
      try simp only [Act.put, List.setIfInBounds_toArray, List.set_cons_zero, List.set_cons_succ]
      refine wpAnyH_ready (rs := [16]) (by kernel_rfl) (by simp) ?_
      refine AllReadyH.cons rfl (fun K hK => ?_) AllReadyH.nil
      obtain ⟨r0, r1, r2, r3, r4, r5, r6, r7⟩ := cells8 hz8
      have fz := fun i => frozen_of_heap (i := i) hz8
      go_simp
      refine hK.out _ _ (Frm.set8 s1 _ _ _ _ _ _ _ _ _ (.inr (Nat.le_refl _))) (fun hHeld => ?_)
      clear hK K
      try simp only [Act.put, List.setIfInBounds_toArray, List.set_cons_zero, List.set_cons_succ]
      refine take_in (i := 17) (d := 25) (v := .slice (some ⟨g', o2, none⟩) nl cg') rfl rfl (by kernel_rfl) (by kernel_rfl) (by kernel_rfl) (fun _ _ _ h => h) (by kernel_rfl) (fun _ _ => rfl) (by assumption) ?_
      try simp only [Act.put, List.setIfInBounds_toArray, List.set_cons_zero, List.set_cons_succ]
      refine take_in (i := 18) (d := 26) (v := .bool true) rfl rfl (by kernel_rfl) (by kernel_rfl) (by kernel_rfl) (fun _ _ _ h => h) (by kernel_rfl) (fun _ _ => rfl) (by assumption) ?_
      try simp only [Act.put, List.setIfInBounds_toArray, List.set_cons_zero, List.set_cons_succ]
      refine wpAnyH_done (by kernel_rfl) ?_ _
      refine NoPanic.normal ?_
      have hfin := setCells8 (b := W.heap.size) hz8 (.int .i64 b) (.int .i64 t) (.int .i64 (L : Nat)) (.int .i64 (k : Nat)) (.bool back) (.int .i64 s') (.int .u64 o') (.bool e')
      have s3 := Frm.set8 (Frm.refl [W.heap.size] x1) W.heap.size (.int .i64 b) (.int .i64 t) (.int .i64 (L : Nat)) (.int .i64 (k : Nat)) (.bool back) (.int .i64 s') (.int .u64 o') (.bool e') (.inl (by simp))
      have s4 := Frm.set8 s1 W.heap.size (.int .i64 b) (.int .i64 t) (.int .i64 (L : Nat)) (.int .i64 (k : Nat)) (.bool back) (.int .i64 s') (.int .u64 o') (.bool e') (.inr (Nat.le_refl _))
      have H9 := Lib.hid (And.intro hfin (And.intro s3 s4))
      clear r0 r1 r2 r3 r4 r5 r6 r7 fz hz8 hfin s3 s4
      go_wp2
      go_meet
      exact ⟨W.heap.size, g', o2, cg', x1, rfl, rfl, rfl, Nat.le_refl _, hgx, H9.out.1, HWA.out, H9.out.2.1, H9.out.2.2⟩
  case rest =>
    obtain ⟨b24, g', o2, cg', w1, rfl, rfl, rfl, hb24, hbg, hc24, ⟨wa, hwa, hA, hrd', hgg⟩, hfb, hfw⟩ := hcut
    have hA' : Aftr p d c (en i).q (en i).back b t (en i).L (en i).k wa ws' s' o' e' w1 := by rw [HX.out]; exact hA
    have hGE := HG.out.step hi hwa hA' HPOS.out HLN.out hrd' hgg hfb hb24 hbg rfl
    rw [HX.out] at hGE
    have hFE := Frm.setCells (a := w0) (b := gr) (.inr hgr) (rvE b t ⟨L, k, back, s', o', e', q⟩) (i * 8) _ (HF.out.trans_new hfw (by intro y hy; simp at hy; rcases hy with rfl | rfl; exact .inr hlow; exact .inr hqlow))
    have HE := Lib.hid (And.intro hFE hGE)
    obtain ⟨c0, c1', c2', c3, c4, c5, c6, c7⟩ := cells8 hc24
    have far : ∀ j v, (rvE b t ⟨L, k, back, s, o, e, q⟩)[j]? = some v → wc.cell? ⟨gr, i * 8 + j, none⟩ = some v := fun j v hv => (hfw.cell hgrl (by simp; exact ⟨Ne.symm hrd, Ne.symm hrdi⟩)).trans (HRR.out j v hv)
    have k0 := far 0 _ rfl
    have k1 := far 1 _ rfl
    have k2 := far 2 _ rfl
    have k3 := far 3 _ rfl
    have k4 := far 4 _ rfl
    have k5 := far 5 _ rfl
    have k6 := far 6 _ rfl
    have k7 := far 7 _ rfl
    have fz : ∀ j, wc.frozen? ⟨gr, j, none⟩ = false := fun j => (hfw.frozen hgrl (by simp; exact ⟨Ne.symm hrd, Ne.symm hrdi⟩)).trans (HZR.out j)
    simp only [Nat.add_zero] at k0
    have hbr : b24 ≠ gr := by omega
    clear hA hA' hGE hFE hrd' hgg hfb hfw hwa hc24 far HK1 HK2 HDO
    go_wp2
    exact HQ.out _ _ _ _ _ _ _ _ _ _ _ _ _ _ _ _ _ _ _ _ _ _ _ _ _ _ _ _ _ ⟨_, _, HE.out.1, HE.out.2⟩
end
end Go.Proofs.Ytoieedlkffmcgaa
