/- LatchBatches: the second loop (by gen_lwe.py). -/
import Derived.Test.YtjhidkjhfgbaeaaGreatDoorLwE
namespace Go.Proofs.YtjhidkjhfgbaeaaGreatDoor
open Go.ChangeShapes Go.WideShapes Go.ChangeAt Go.RowKit
set_option linter.unusedVariables false
set_option linter.unusedSimpArgs false
set_option maxRecDepth 100000 in
set_option maxHeartbeats 4000000 in
theorem btB2 {w W : World} {n cw c1 b1 G b21 m2 f2 p2 : Nat} {aw a1 e2 : Option Addr} {q : List Int} (v1 v2 v3 v4 v6 v7 v9 v10 v11 v12 v13 v14 v15 v17 v18 v19 v20 v22 v23 v24 v25 v26 v27 v28 v29 v30 v31 v32 v33 v34 v35 v36 v37 v38 v39 v40 v41 v42 v43 v44 v45 v46 v47 v48 v49 v50 v51 v52 v53 v54 v55 v56 v57 v58 v59 v60 v61 v62 v63 v64 v65 v66 v67 v68 v69 v70 v71 v72 v73 v74 v75 v76 v77 v78 v79 v80 v81 v82 v83 v84 v85 v86 v87 v88 v89 v90 v91 v92 v93 v94 v95 v96 v97 v98 v99 v100 v101 v102 v103 v104 v105 v106 v107 v108 v109 v110 v111 v112 v113 v114 v115 v116 v117 v118 v119 v120 v121 v122 v123 v124 v125 v126 v127 v128 v129 v130 v131 v132 v133 v134 v135 v136 v137 v138 v139 v140 v141 v142 v143 v144 v145 v146 v147 v148 v149 v150 v151 v152 v153 v154 v155 v156 v157 v158 v159 v160 v161 v162 v163 v164 v165 v166 v167 v168 v169 v170 v171 v172 v173 v174 v175 v176 v177 v178 v179 v180 v181 v182 v183 v184 v185 v186 v187 v188 v189 v190 v191 v192 v193 v194 v195 v196 v197 v198 v199 v200 v201 v202 v203 v204 v205 v206 v207 v208 v209 v210 v211 v212 v213 v214 : Value) (hF : Frm [] w W) (hL : Laid W) (hQ : Li .i64 W a1 n c1 b1 0 q) (hn : n ≤ 20) (hG : G ≤ n)
    (h21 : ∃ x0 x1 x2 x3 x4, W.heap[b21]? = some (.cells #[x0, x1, x2, x3, x4, .slice e2 m2 f2] 25 (0, 0))) (h2 : Li2 W e2 m2 f2 p2 0 (prq G (q.drop G))) :
    Code.wp Tryz.prog (btT 16) (bodyPost Tryz.prog Tryz.f7 (Ret (.bool true) (fun w' => Frm [] w w'))) ⟨List.toArray (.slice aw n cw :: v1 :: v2 :: v3 :: v4 :: .int .i64 0 :: v6 :: v7 :: .slice a1 n c1 :: v9 :: v10 :: v11 :: v12 :: v13 :: v14 :: v15 :: .int .i64 (G : Int) :: v17 :: v18 :: v19 :: v20 :: .pointer (some ⟨b21, 0, none⟩) :: v22 :: v23 :: v24 :: v25 :: v26 :: v27 :: v28 :: v29 :: v30 :: v31 :: v32 :: v33 :: v34 :: v35 :: v36 :: v37 :: v38 :: v39 :: v40 :: v41 :: v42 :: v43 :: v44 :: v45 :: v46 :: v47 :: v48 :: v49 :: v50 :: v51 :: v52 :: v53 :: v54 :: v55 :: v56 :: v57 :: v58 :: v59 :: v60 :: v61 :: v62 :: v63 :: v64 :: v65 :: v66 :: v67 :: v68 :: v69 :: v70 :: v71 :: v72 :: v73 :: v74 :: v75 :: v76 :: v77 :: v78 :: v79 :: v80 :: v81 :: v82 :: v83 :: v84 :: v85 :: v86 :: v87 :: v88 :: v89 :: v90 :: v91 :: v92 :: v93 :: v94 :: v95 :: v96 :: v97 :: v98 :: v99 :: v100 :: v101 :: v102 :: v103 :: v104 :: v105 :: v106 :: v107 :: v108 :: v109 :: v110 :: v111 :: v112 :: v113 :: v114 :: v115 :: v116 :: v117 :: v118 :: v119 :: v120 :: v121 :: v122 :: v123 :: v124 :: v125 :: v126 :: v127 :: v128 :: v129 :: v130 :: v131 :: v132 :: v133 :: v134 :: v135 :: v136 :: v137 :: v138 :: v139 :: v140 :: v141 :: v142 :: v143 :: v144 :: v145 :: v146 :: v147 :: v148 :: v149 :: v150 :: v151 :: v152 :: v153 :: v154 :: v155 :: v156 :: v157 :: v158 :: v159 :: v160 :: v161 :: v162 :: v163 :: v164 :: v165 :: v166 :: v167 :: v168 :: v169 :: v170 :: v171 :: v172 :: v173 :: v174 :: v175 :: v176 :: v177 :: v178 :: v179 :: v180 :: v181 :: v182 :: v183 :: v184 :: v185 :: v186 :: v187 :: v188 :: v189 :: v190 :: v191 :: v192 :: v193 :: v194 :: v195 :: v196 :: v197 :: v198 :: v199 :: v200 :: v201 :: v202 :: v203 :: v204 :: v205 :: v206 :: v207 :: v208 :: v209 :: v210 :: v211 :: v212 :: v213 :: v214 :: []), []⟩ W := by
  have hm2 : m2 = n - G := by rw [← h2.len, prq_len, List.length_drop, hQ.len]
  have e1 : ((m2 : Int) != (n : Int) - (G : Int)) = false := by simp; omega
  have H21 := Lib.hid h21
  obtain ⟨x0, x1, x2, x3, x4, h21⟩ := h21
  obtain ⟨c0, c1', c2, c3, c4, c5⟩ := cells6L h21
  have hbl := lt_of_heap h21
  have HF := Lib.hid hF
  have HL := Lib.hid hL
  have HQ := Lib.hid hQ
  have H2 := Lib.hid h2
  clear hF hL hQ h2 h21 hm2
  conv => arg 2; whnf
  refine wp_seq_k ?_
  intro K0 hK0
  have HK0 := Lib.hid hK0
  clear hK0
  go_wp2_with fail
  refine HK0.out _ _ ?_
  exact btC _ _ _ _ _ _ _ _ _ _ _ _ _ _ _ _ _ _ _ _ _ _ _ _ _ _ _ _ _ _ _ _ _ _ _ _ _ _ _ _ _ _ _ _ _ _ _ _ _ _ _ _ _ _ _ _ _ _ _ _ _ _ _ _ _ _ _ _ _ _ _ _ _ _ _ _ _ _ _ _ _ _ _ _ _ _ _ _ _ _ _ _ _ _ _ _ _ _ _ _ _ _ _ _ _ _ _ _ _ _ _ _ _ _ _ _ _ _ _ _ _ _ _ _ _ _ _ _ _ _ _ _ _ _ _ _ _ _ _ _ _ _ _ _ _ _ _ _ _ _ _ _ _ _ _ _ _ _ _ _ _ _ _ _ _ _ _ _ _ _ _ _ _ _ _ _ _ _ _ _ _ _ _ _ _ _ _ _ _ _ _ _ _ _ _ _ _ _ _ _ _ _ _ _ _ _ _ _ _ _ _ _ HF.out HL.out HQ.out hn hG H21.out H2.out
set_option maxRecDepth 100000 in
set_option maxHeartbeats 4000000 in
theorem btB1 {w W : World} {T np p d cc n cw c1 b1 G : Nat} {aw a1 : Option Addr} {q : List Int} {f : Nat → Int} {s : LS} (v1 v2 v3 v5 v7 v9 v10 v11 v12 v13 v14 v15 v17 v18 v19 v20 v21 v22 v23 v24 v25 v26 v27 v28 v29 v30 v31 v32 v33 v34 v35 v36 v37 v38 v39 v40 v41 v42 v43 v44 v45 v46 v47 v48 v49 v50 v51 v52 v53 v54 v55 v56 v57 v58 v59 v60 v61 v62 v63 v64 v65 v66 v67 v68 v69 v70 v71 v72 v73 v74 v75 v76 v77 v78 v79 v80 v81 v82 v83 v84 v85 v86 v87 v88 v89 v90 v91 v92 v93 v94 v95 v96 v97 v98 v99 v100 v101 v102 v103 v104 v105 v106 v107 v108 v109 v110 v111 v112 v113 v114 v115 v116 v117 v118 v119 v120 v121 v122 v123 v124 v125 v126 v127 v128 v129 v130 v131 v132 v133 v134 v135 v136 v137 v138 v139 v140 v141 v142 v143 v144 v145 v146 v147 v148 v149 v150 v151 v152 v153 v154 v155 v156 v157 v158 v159 v160 v161 v162 v163 v164 v165 v166 v167 v168 v169 v170 v171 v172 v173 v174 v175 v176 v177 v178 v179 v180 v181 v182 v183 v184 v185 v186 v187 v188 v189 v190 v191 v192 v193 v194 v195 v196 v197 v198 v199 v200 v201 v202 v203 v204 v205 v206 v207 v208 v209 v210 v211 v212 v213 v214 : Value) (hF : Frm [] w W) (hS : Scn T W w.heap.size np p d cc (rng (3 + 6 * T) f)) (hP : PE T n G q s f) (hT : 0 < T) (hQ : Li .i64 W a1 n c1 b1 0 q) (hqd : 0 < n → b1 ≠ d) (hn : n ≤ 20) (hG : G ≤ n) :
    Code.wp Tryz.prog (btT 15) (bodyPost Tryz.prog Tryz.f7 (Ret (.bool true) (fun w' => Frm [] w w'))) ⟨List.toArray (.slice aw n cw :: v1 :: v2 :: v3 :: .pointer (some ⟨np, 0, none⟩) :: v5 :: .pointer (some ⟨p, 0, none⟩) :: v7 :: .slice a1 n c1 :: v9 :: v10 :: v11 :: v12 :: v13 :: v14 :: v15 :: .int .i64 (G : Int) :: v17 :: v18 :: v19 :: v20 :: v21 :: v22 :: v23 :: v24 :: v25 :: v26 :: v27 :: v28 :: v29 :: v30 :: v31 :: v32 :: v33 :: v34 :: v35 :: v36 :: v37 :: v38 :: v39 :: v40 :: v41 :: v42 :: v43 :: v44 :: v45 :: v46 :: v47 :: v48 :: v49 :: v50 :: v51 :: v52 :: v53 :: v54 :: v55 :: v56 :: v57 :: v58 :: v59 :: v60 :: v61 :: v62 :: v63 :: v64 :: v65 :: v66 :: v67 :: v68 :: v69 :: v70 :: v71 :: v72 :: v73 :: v74 :: v75 :: v76 :: v77 :: v78 :: v79 :: v80 :: v81 :: v82 :: v83 :: v84 :: v85 :: v86 :: v87 :: v88 :: v89 :: v90 :: v91 :: v92 :: v93 :: v94 :: v95 :: v96 :: v97 :: v98 :: v99 :: v100 :: v101 :: v102 :: v103 :: v104 :: v105 :: v106 :: v107 :: v108 :: v109 :: v110 :: v111 :: v112 :: v113 :: v114 :: v115 :: v116 :: v117 :: v118 :: v119 :: v120 :: v121 :: v122 :: v123 :: v124 :: v125 :: v126 :: v127 :: v128 :: v129 :: v130 :: v131 :: v132 :: v133 :: v134 :: v135 :: v136 :: v137 :: v138 :: v139 :: v140 :: v141 :: v142 :: v143 :: v144 :: v145 :: v146 :: v147 :: v148 :: v149 :: v150 :: v151 :: v152 :: v153 :: v154 :: v155 :: v156 :: v157 :: v158 :: v159 :: v160 :: v161 :: v162 :: v163 :: v164 :: v165 :: v166 :: v167 :: v168 :: v169 :: v170 :: v171 :: v172 :: v173 :: v174 :: v175 :: v176 :: v177 :: v178 :: v179 :: v180 :: v181 :: v182 :: v183 :: v184 :: v185 :: v186 :: v187 :: v188 :: v189 :: v190 :: v191 :: v192 :: v193 :: v194 :: v195 :: v196 :: v197 :: v198 :: v199 :: v200 :: v201 :: v202 :: v203 :: v204 :: v205 :: v206 :: v207 :: v208 :: v209 :: v210 :: v211 :: v212 :: v213 :: v214 :: []), []⟩ W := by
  have h1 : (rng (3 + 6 * T) f)[1]? = some ((s.sh : Nat) : Int) := by rw [rng_get _ (by omega), hP.z1]
  have h64 := hS.nd.t64
  have hfit := (may_gd h64 hP.may).fit h64
  have h2 : (rng (3 + 6 * T) f)[2]? = some ((s.w1.toNat : Nat) : Int) := by rw [rng_get _ (by omega), hP.z2, (w1_nat hfit).1]
  have hlo := hS.lo
  have H := Look_any hS.mem hS.nd hS.laid (by omega) (by omega) (by rw [hS.len]; omega) hS.bnd.i _ _ h1 h2 hT
  rw [hP.look] at H
  have H := Lib.hid H
  have HF := Lib.hid hF
  have HS := Lib.hid hS
  have HQ := Lib.hid hQ
  clear hF hS hQ h1 h2 hP hfit
  conv => arg 2; whnf
  refine wp_seq_k ?_
  intro K0 hK0
  have HK0 := Lib.hid hK0
  clear hK0
  go_wp2_with fail
  refine H.out.mono ?_
  rintro e w1 ⟨a, n', k, a3, n3, k3, rfl, hF1, hM1, hR1, hR2⟩
  obtain ⟨gb2, hL2⟩ := hR2.li
  have HL2 := Lib.hid hL2
  have HF1 := Lib.hid hF1
  clear hF1 hL2 hM1 hR1 hR2
  go_wp2_with fail
  refine HK0.out _ _ ?_
  have hFY : Frm [] w1 (w1.alloc (.cells #[.slice a n' k, .int .i64 s.up, .int .i64 s.ex, .int .i64 s.wa, .int .i64 s.gr, .slice a3 n3 k3] 25)) := (Frm.refl _ _).alloc _
  have hFw := HF1.out.trans hFY.nil
  exact btB2 _ _ _ _ _ _ _ _ _ _ _ _ _ _ _ _ _ _ _ _ _ _ _ _ _ _ _ _ _ _ _ _ _ _ _ _ _ _ _ _ _ _ _ _ _ _ _ _ _ _ _ _ _ _ _ _ _ _ _ _ _ _ _ _ _ _ _ _ _ _ _ _ _ _ _ _ _ _ _ _ _ _ _ _ _ _ _ _ _ _ _ _ _ _ _ _ _ _ _ _ _ _ _ _ _ _ _ _ _ _ _ _ _ _ _ _ _ _ _ _ _ _ _ _ _ _ _ _ _ _ _ _ _ _ _ _ _ _ _ _ _ _ _ _ _ _ _ _ _ _ _ _ _ _ _ _ _ _ _ _ _ _ _ _ _ _ _ _ _ _ _ _ _ _ _ _ _ _ _ _ _ _ _ _ _ _ _ _ _ _ _ _ _ _ _ _ _ _ _ _ _ _ _ _ _ _ _ _ _ _ (HF.out.trans_new hFw (fun x hx => .inr (by simp at hx; omega))) (HS.out.laid.frm hFw (by simp; omega)) (HQ.out.frm hFw (by simpa using hqd)) hn hG ⟨_, _, _, _, _, heap_alloc_new _ _⟩ (HL2.out.frm0 hFY)
set_option maxRecDepth 100000 in
set_option maxHeartbeats 4000000 in
theorem btB {w W : World} {T np p d cc n cw c1 c2 G : Nat} {aw a1 a2 : Option Addr} {q : List Int} {f : Nat → Int} {s : LS} {en : Nat → Pm} {lo : Nat → Nat} (v1 v2 v3 v5 v7 v10 v11 v12 v13 v14 v15 v17 v18 v19 v20 v21 v22 v23 v24 v25 v26 v27 v28 v29 v30 v31 v32 v33 v34 v35 v36 v37 v38 v39 v40 v41 v42 v43 v44 v45 v46 v47 v48 v49 v50 v51 v52 v53 v54 v55 v56 v57 v58 v59 v60 v61 v62 v63 v64 v65 v66 v67 v68 v69 v70 v71 v72 v73 v74 v75 v76 v77 v78 v79 v80 v81 v82 v83 v84 v85 v86 v87 v88 v89 v90 v91 v92 v93 v94 v95 v96 v97 v98 v99 v100 v101 v102 v103 v104 v105 v106 v107 v108 v109 v110 v111 v112 v113 v114 v115 v116 v117 v118 v119 v120 v121 v122 v123 v124 v125 v126 v127 v128 v129 v130 v131 v132 v133 v134 v135 v136 v137 v138 v139 v140 v141 v142 v143 v144 v145 v146 v147 v148 v149 v150 v151 v152 v153 v154 v155 v156 v157 v158 v159 v160 v161 v162 v163 v164 v165 v166 v167 v168 v169 v170 v171 v172 v173 v174 v175 v176 v177 v178 v179 v180 v181 v182 v183 v184 v185 v186 v187 v188 v189 v190 v191 v192 v193 v194 v195 v196 v197 v198 v199 v200 v201 v202 v203 v204 v205 v206 v207 v208 v209 v210 v211 v212 v213 v214 : Value) (hF : Frm [] w W) (hS : Scn T W w.heap.size np p d cc (rng (3 + 6 * T) f)) (hP : PE T n G q s f) (hTn : T = n + 1)
    (hR : Row .i64 54 w.heap.size W a1 n c1 q) (hV : Gr 52 1 w.heap.size W a2 n c2 (fun i => pmV (en i))) (hK : ∀ i, i < n → PkE T w.heap.size (lo i) W (en i)) (hm : ∀ i, i < n → (en i).m.nx = 14 ∧ (en i).m.t = i + 1)
    (hup : ∀ i, i < n → ∀ z ∈ (en i).bl, z < lo (i + 1)) (hmo : ∀ i j, i ≤ j → lo i ≤ lo j) (h0 : np < lo 0 ∧ d < lo 0 ∧ w.heap.size ≤ lo 0) (hn : n ≤ 20) (hG : G ≤ n) :
    Code.wp Tryz.prog (btT 14) (bodyPost Tryz.prog Tryz.f7 (Ret (.bool true) (fun w' => Frm [] w w'))) ⟨List.toArray (.slice aw n cw :: v1 :: v2 :: v3 :: .pointer (some ⟨np, 0, none⟩) :: v5 :: .pointer (some ⟨p, 0, none⟩) :: v7 :: .slice a1 n c1 :: .slice a2 n c2 :: v10 :: v11 :: v12 :: v13 :: v14 :: v15 :: .int .i64 (G : Int) :: v17 :: v18 :: v19 :: v20 :: v21 :: v22 :: v23 :: v24 :: v25 :: v26 :: v27 :: v28 :: v29 :: v30 :: v31 :: v32 :: v33 :: v34 :: v35 :: v36 :: v37 :: v38 :: v39 :: v40 :: v41 :: v42 :: v43 :: v44 :: v45 :: v46 :: v47 :: v48 :: v49 :: v50 :: v51 :: v52 :: v53 :: v54 :: v55 :: v56 :: v57 :: v58 :: v59 :: v60 :: v61 :: v62 :: v63 :: v64 :: v65 :: v66 :: v67 :: v68 :: v69 :: v70 :: v71 :: v72 :: v73 :: v74 :: v75 :: v76 :: v77 :: v78 :: v79 :: v80 :: v81 :: v82 :: v83 :: v84 :: v85 :: v86 :: v87 :: v88 :: v89 :: v90 :: v91 :: v92 :: v93 :: v94 :: v95 :: v96 :: v97 :: v98 :: v99 :: v100 :: v101 :: v102 :: v103 :: v104 :: v105 :: v106 :: v107 :: v108 :: v109 :: v110 :: v111 :: v112 :: v113 :: v114 :: v115 :: v116 :: v117 :: v118 :: v119 :: v120 :: v121 :: v122 :: v123 :: v124 :: v125 :: v126 :: v127 :: v128 :: v129 :: v130 :: v131 :: v132 :: v133 :: v134 :: v135 :: v136 :: v137 :: v138 :: v139 :: v140 :: v141 :: v142 :: v143 :: v144 :: v145 :: v146 :: v147 :: v148 :: v149 :: v150 :: v151 :: v152 :: v153 :: v154 :: v155 :: v156 :: v157 :: v158 :: v159 :: v160 :: v161 :: v162 :: v163 :: v164 :: v165 :: v166 :: v167 :: v168 :: v169 :: v170 :: v171 :: v172 :: v173 :: v174 :: v175 :: v176 :: v177 :: v178 :: v179 :: v180 :: v181 :: v182 :: v183 :: v184 :: v185 :: v186 :: v187 :: v188 :: v189 :: v190 :: v191 :: v192 :: v193 :: v194 :: v195 :: v196 :: v197 :: v198 :: v199 :: v200 :: v201 :: v202 :: v203 :: v204 :: v205 :: v206 :: v207 :: v208 :: v209 :: v210 :: v211 :: v212 :: v213 :: v214 :: []), []⟩ W := by
  have h64 := hS.nd.t64
  have hwt := hP.wt
  have HP := Lib.hid hP
  have HWT := Lib.hid hwt
  have HM := Lib.hid hm
  have HUP := Lib.hid hup
  have HMO := Lib.hid hmo
  have HF := Lib.hid hF
  have HS := Lib.hid hS
  have HR := Lib.hid hR
  have HV := Lib.hid hV
  have HK := Lib.hid hK
  clear hF hS hR hV hK hP hwt hm hup hmo
  conv => arg 2; whnf
  refine wp_seq_k ?_
  intro K0 hK0
  have HK0 := Lib.hid hK0
  clear hK0
  go_wp2_with fail
  go_loopw [138] (fun i wr => ∃ j : Nat, j ≤ n ∧ i = .int .i64 (j : Int) ∧ Frm [] w wr ∧ Hid (Scn T wr w.heap.size np p d cc (rng (3 + 6 * T) f)) ∧ Hid (Row .i64 54 w.heap.size wr a1 n c1 q) ∧ Hid (Gr 52 1 w.heap.size wr a2 n c2 (fun i => pmV (en i))) ∧ Hid (∀ i, j ≤ i → i < n → PkE T w.heap.size (lo i) wr (en i))) (fun i _ => n - (intOf i).toNat)
  case atStart => exact ⟨0, Nat.zero_le _, rfl, HF.out, HS, HR, HV, Lib.hid (fun i _ hi => HK.out i hi)⟩
  case round =>
    clear HF HS HR HV HK
    obtain ⟨j, hj, rfl, hFr, HS, HR, HV, HK⟩ := hrel
    have HF := Lib.hid hFr
    clear hFr
    by_cases hlt : j < n
    · have hPk := HK.out j (Nat.le_refl _) hlt
      obtain ⟨hnx, hmt⟩ := HM.out j hlt
      obtain ⟨gv, rfl, hgB, hgl, _, hcell⟩ := HV.out.at_ hlt
      have cx := hcell j hlt 0 (.pointer (some ⟨(en j).q, 0, none⟩)) rfl
      simp only [Nat.mul_one, Nat.add_zero] at cx
      have i1 : ∀ W, (Instr.indexAt 50 (.slice (some ⟨gv, 0, none⟩) n c2) (.int .i64 (j : Int))).run Tryz.prog W = .ok (.pointer (some ⟨gv, j, none⟩)) W := fun W => by
        have h1 : (j : Int) < (n : Int) := by omega
        simp [go_sem, h1]
      have hlo := HS.out.lo
      have hlj := HMO.out 0 j (Nat.zero_le _)
      have hplo := hPk.lo
      have hwj := HWT.out j hlt
      have hwl : wtW 3 (2 * (j + 1) + 1) < 3 + 6 * T := by unfold wtW; omega
      have hMS : mstpO T (rng (3 + 6 * T) f) (en j).m (en j).g = if j < G then some ({ (en j).m with nx := 0 }, (en j).g, rng (3 + 6 * T) f, false, 0) else some ((en j).m, (en j).g, rng (3 + 6 * T) f, true, 0) := by
        unfold mstpO
        rw [if_neg (by omega), if_neg (by omega), if_pos hnx, hmt, rng_get _ hwl, hwj]
        by_cases hjG : j < G
        · simp [hjG, hmt]
        · simp [hjG, hmt]
      have hRA : RunAt wr p d cc w.heap.size (en j).q T (en j).qe (en j).ql (en j).a (en j).n (en j).c (en j).m.t 100 (rng (3 + 6 * T) f) (en j).m (en j).g wr := by
        have hq := hplo (en j).q (by simp)
        have hqe := hplo (en j).qe (by simp)
        have hql := hplo (en j).ql (by simp)
        exact ⟨⟨(en j).a, (en j).n, (en j).c, ⟨HS.out.mem, hPk.mv, hPk.wk, hPk.en, hPk.le⟩, fun x hx => .inl hx⟩, Frm.refl _ _, hPk.ok, HS.out.bnd, rfl, hPk.wkl, HS.out.laid, by omega, fun x hx => by have := hplo x (by simp [hx]); omega⟩
      have HRA := Lib.hid hRA
      have HPK := Lib.hid hPk
      -- what a step leaves
      have HAF : Hid (∀ w1 m', Frm (d :: (en j).bl) wr w1 → RunAt wr p d cc w.heap.size (en j).q T (en j).qe (en j).ql (en j).a (en j).n (en j).c (en j).m.t 102 (rng (3 + 6 * T) f) m' (en j).g w1 →
          Frm [] w w1 ∧ Scn T w1 w.heap.size np p d cc (rng (3 + 6 * T) f) ∧ Row .i64 54 w.heap.size w1 a1 n c1 q ∧ Gr 52 1 w.heap.size w1 (some ⟨gv, 0, none⟩) n c2 (fun i => pmV (en i)) ∧ ∀ i, j + 1 ≤ i → i < n → PkE T w.heap.size (lo i) w1 (en i)) := Lib.hid (by
        intro w1 m' hf hr
        obtain ⟨a9, n9, c9, hA9, -⟩ := hr.ex
        obtain ⟨csd, hcd, -⟩ := HS.out.mem.arr
        have hblo : ∀ z ∈ (en j).bl, lo j ≤ z := hplo
        refine ⟨HF.out.trans_new hf (fun x hx => .inr ?_), ⟨hA9.mem, HS.out.nd.frmD hf (fun hx => ?_), hr.laid, HS.out.bnd, ?_, HS.out.len⟩, HR.out.frm hf (fun x hx hd => ?_), HV.out.frm hf (fun x hx hd => ?_), fun i hi1 hi2 => (HK.out i (by omega) hi2).frm hf (fun z hz hd => ?_)⟩
        · rcases List.mem_cons.1 hx with rfl | hx
          · omega
          · have := hblo x hx; omega
        · rcases List.mem_cons.1 hx with hx | hx
          · omega
          · have := hblo _ hx; omega
        · have := hf.size; omega
        · obtain ⟨cs, hc⟩ := row_bty HR.out x hx
          rcases List.mem_cons.1 hd with rfl | hd
          · have := hc.symm.trans hcd; simp at this
          · exact pk_ne_ty HPK.out hc (by decide) (by decide) (by decide) (by decide) hd
        · obtain ⟨cs, hc⟩ := gr_bty HV.out x hx
          rcases List.mem_cons.1 hd with rfl | hd
          · have := hc.symm.trans hcd; simp at this
          · exact pk_ne_ty HPK.out hc (by decide) (by decide) (by decide) (by decide) hd
        · have hzi := (HK.out i (by omega) hi2).lo z hz
          have hm1 := HMO.out 0 i (Nat.zero_le _)
          have hm2 := HMO.out (j + 1) i hi1
          rcases List.mem_cons.1 hd with hd | hd
          · omega
          · have := HUP.out j hlt z hd; omega)
      clear hplo hwj hwl hcell hPk hRA
      by_cases hjG : j < G
      · rw [if_pos hjG] at hMS
        have HSt := Lib.hid (HRA.out.step (by decide) (mstpO_ok HRA.out.bnd hMS))
        have d1 : decide ((G : Int) ≤ (j : Int)) = false := by simp; omega
        have d2 : decide ((j : Int) < (G : Int)) = true := by simp; omega
        clear hMS
        go_wp2_with fail
        refine HSt.out.mono ?_
        rintro e w1 ⟨rfl, hR1⟩
        obtain ⟨a9, n9, c9, hA9, -⟩ := hR1.ex
        have HD := Lib.hid (Done_mv hA9.mv)
        have HX := Lib.hid (HAF.out w1 _ hR1.frm hR1)
        clear hR1 hA9
        go_wp2_with fail
        refine HD.out.mono ?_
        rintro e w2 ⟨rfl, rfl⟩
        go_wp2
        go_roundw
        case rel => exact ⟨j + 1, by omega, by go_num, HX.out.1, Lib.hid HX.out.2.1, Lib.hid HX.out.2.2.1, Lib.hid HX.out.2.2.2.1, Lib.hid HX.out.2.2.2.2⟩
        case measure => simp [intOf]; omega
      · rw [if_neg hjG] at hMS
        have HSt := Lib.hid (HRA.out.step (by decide) (mstpO_ok HRA.out.bnd hMS))
        have d1 : decide ((G : Int) ≤ (j : Int)) = true := by simp; omega
        have d2 : decide ((j : Int) < (G : Int)) = false := by simp; omega
        have hnb : ((en j).m.nx == 0) = false := by simp; omega
        clear hMS
        go_wp2_with fail
        refine HSt.out.mono ?_
        rintro e w1 ⟨rfl, hR1⟩
        obtain ⟨a9, n9, c9, hA9, -⟩ := hR1.ex
        have HD := Lib.hid (Done_mv hA9.mv)
        have HX := Lib.hid (HAF.out w1 _ hR1.frm hR1)
        clear hR1 hA9
        go_wp2_with fail
        refine HD.out.mono ?_
        rintro e w2 ⟨rfl, rfl⟩
        go_wp2
        go_roundw
        case rel => exact ⟨j + 1, by omega, by go_num, HX.out.1, Lib.hid HX.out.2.1, Lib.hid HX.out.2.2.1, Lib.hid HX.out.2.2.2.1, Lib.hid HX.out.2.2.2.2⟩
        case measure => simp [intOf]; omega
    · obtain rfl : j = n := by omega
      go_wp2_with fail
      refine HK0.out _ _ ?_
      obtain ⟨gb, hLi⟩ := HR.out.li
      obtain ⟨csd, hcd, -⟩ := HS.out.mem.arr
      exact btB1 _ _ _ _ _ _ _ _ _ _ _ _ _ _ _ _ _ _ _ _ _ _ _ _ _ _ _ _ _ _ _ _ _ _ _ _ _ _ _ _ _ _ _ _ _ _ _ _ _ _ _ _ _ _ _ _ _ _ _ _ _ _ _ _ _ _ _ _ _ _ _ _ _ _ _ _ _ _ _ _ _ _ _ _ _ _ _ _ _ _ _ _ _ _ _ _ _ _ _ _ _ _ _ _ _ _ _ _ _ _ _ _ _ _ _ _ _ _ _ _ _ _ _ _ _ _ _ _ _ _ _ _ _ _ _ _ _ _ _ _ _ _ _ _ _ _ _ _ _ _ _ _ _ _ _ _ _ _ _ _ _ _ _ _ _ _ _ _ _ _ _ _ _ _ _ _ _ _ _ _ _ _ _ _ _ _ _ _ _ _ _ _ _ _ _ _ _ _ _ _ _ _ _ _ _ _ _ _ _ _ HF.out HS.out HP.out (by omega) hLi (fun hj0 e => by
        have ha := hLi.ad hj0
        obtain ⟨cs, hc⟩ := row_bty HR.out gb (by rw [ha]; simp [blk])
        rw [e] at hc
        have := hc.symm.trans hcd
        simp at this) hn hG
end Go.Proofs.YtjhidkjhfgbaeaaGreatDoor
