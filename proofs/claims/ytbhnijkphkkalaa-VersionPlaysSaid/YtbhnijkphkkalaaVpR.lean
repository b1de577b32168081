/- VersionPlays: the ways of a round: a copy (by gen_vpn.py). -/
import Derived.Test.YtbhnijkphkkalaaVpP
import Derived.Deep.RegionHeld3
namespace Go.Proofs.Ytbhnijkphkkalaa
open Go.ChangeShapes Go.WideShapes Go.ChangeAt Go.RowKit
set_option linter.unusedVariables false
set_option linter.unusedSimpArgs false

section
variable {own : Nat → Nat} {p d c g oo cg nl : Nat} {ws : List Int} {a1 a2 : Option Addr} {c1 c2 m : Nat} {en : Nat → En}
set_option maxRecDepth 100000 in
set_option maxHeartbeats 1000000 in
/-- A copy of a program takes its place. -/
theorem any_copy {w0 W : World} {i : Nat} {Q : Exit → Act → World → Prop} (v0 v1 v2 v3 v4 v7 v8 v9 v10 v11 v12 v14 v15 v16 v17 v18 v19 v20 v21 v22 v23 v24 v25 v26 v27 v28 v29 v30 v31 v32 v33 v34 v35 v36 v37 v38 v39 v40 v41 v42 v43 v44 v45 v46 v47 v48 v49 v50 v51 v52 v53 v54 v55 v56 v57 v58 v59 v60 v61 v62 v63 v64 v65 v66 v67 v68 v69 v70 v71 v72 v73 v74 v75 v76 v77 v78 v79 v80 v81 v82 v83 v84 v85 v86 v87 v88 v89 v90 v91 v92 v93 v94 v95 v96 v97 v98 v99 v100 v101 v102 v103 v104 v105 v106 v107 v108 v109 v110 v111 v112 v113 v114 v115 v116 v117 v118 v119 v120 v121 v122 v123 v124 v125 v126 v127 v128 v129 v130 v131 v132 v133 v134 v135 v136 v137 v138 v139 v140 v141 v142 v143 v144 v145 v146 v147 v148 v149 v150 v151 v152 v153 v154 v155 v156 v157 v158 v159 v160 v161 v162 v163 v164 v165 v166 v167 v168 v169 v170 v171 v172 v173 v174 v175 v176 : Value)
    (hG : Gs w0 W own p d c g oo cg nl ws a1 c1 a2 c2 m en) (hi : i < m) (hm : m ≤ 1000)
    (hQ : ∀ (u14 u15 u88 u89 u90 u91 u92 u93 u94 u95 u96 u97 u98 u99 u100 u101 u102 u103 u104 u105 u106 u107 u108 u109 u110 u111 u112 u113 u114 : Value) (w' : World), Rq w0 p d c g oo cg nl a1 c1 a2 c2 m w' →
      Q (.exit 1) ⟨List.toArray (v0 :: v1 :: v2 :: v3 :: v4 :: .pointer (some ⟨p, 0, none⟩) :: .slice a1 m c1 :: v7 :: v8 :: v9 :: v10 :: v11 :: v12 :: .int .i64 (i : Int) :: u14 :: u15 :: v16 :: v17 :: v18 :: v19 :: v20 :: v21 :: v22 :: v23 :: v24 :: v25 :: v26 :: v27 :: v28 :: v29 :: v30 :: v31 :: v32 :: v33 :: v34 :: v35 :: v36 :: v37 :: v38 :: v39 :: v40 :: v41 :: v42 :: v43 :: v44 :: v45 :: v46 :: v47 :: v48 :: v49 :: v50 :: v51 :: v52 :: v53 :: v54 :: v55 :: v56 :: v57 :: v58 :: v59 :: v60 :: v61 :: v62 :: v63 :: v64 :: v65 :: v66 :: v67 :: v68 :: v69 :: v70 :: v71 :: v72 :: v73 :: v74 :: v75 :: v76 :: v77 :: v78 :: v79 :: v80 :: v81 :: v82 :: v83 :: v84 :: v85 :: v86 :: v87 :: u88 :: u89 :: u90 :: u91 :: u92 :: u93 :: u94 :: u95 :: u96 :: u97 :: u98 :: u99 :: u100 :: u101 :: u102 :: u103 :: u104 :: u105 :: u106 :: u107 :: u108 :: u109 :: u110 :: u111 :: u112 :: u113 :: u114 :: v115 :: v116 :: v117 :: v118 :: v119 :: v120 :: v121 :: v122 :: v123 :: v124 :: v125 :: v126 :: v127 :: v128 :: v129 :: v130 :: v131 :: v132 :: v133 :: v134 :: v135 :: v136 :: v137 :: v138 :: v139 :: v140 :: v141 :: v142 :: v143 :: v144 :: v145 :: v146 :: v147 :: v148 :: v149 :: v150 :: v151 :: v152 :: v153 :: v154 :: v155 :: v156 :: v157 :: v158 :: v159 :: v160 :: v161 :: v162 :: v163 :: v164 :: v165 :: v166 :: v167 :: v168 :: v169 :: v170 :: v171 :: v172 :: v173 :: v174 :: v175 :: v176 :: []), []⟩ w') :
    Code.wp Try.prog (pieceA 20) Q ⟨List.toArray (v0 :: v1 :: v2 :: v3 :: v4 :: .pointer (some ⟨p, 0, none⟩) :: .slice a1 m c1 :: v7 :: v8 :: v9 :: v10 :: v11 :: v12 :: .int .i64 (i : Int) :: v14 :: v15 :: v16 :: v17 :: v18 :: v19 :: v20 :: v21 :: v22 :: v23 :: v24 :: v25 :: v26 :: v27 :: v28 :: v29 :: v30 :: v31 :: v32 :: v33 :: v34 :: v35 :: v36 :: v37 :: v38 :: v39 :: v40 :: v41 :: v42 :: v43 :: v44 :: v45 :: v46 :: v47 :: v48 :: v49 :: v50 :: v51 :: v52 :: v53 :: v54 :: v55 :: v56 :: v57 :: v58 :: v59 :: v60 :: v61 :: v62 :: v63 :: v64 :: v65 :: v66 :: v67 :: v68 :: v69 :: v70 :: v71 :: v72 :: v73 :: v74 :: v75 :: v76 :: v77 :: v78 :: v79 :: v80 :: v81 :: v82 :: v83 :: v84 :: v85 :: v86 :: v87 :: v88 :: v89 :: v90 :: v91 :: v92 :: v93 :: v94 :: v95 :: v96 :: v97 :: v98 :: v99 :: v100 :: v101 :: v102 :: v103 :: v104 :: v105 :: v106 :: v107 :: v108 :: v109 :: v110 :: v111 :: v112 :: v113 :: v114 :: v115 :: v116 :: v117 :: v118 :: v119 :: v120 :: v121 :: v122 :: v123 :: v124 :: v125 :: v126 :: v127 :: v128 :: v129 :: v130 :: v131 :: v132 :: v133 :: v134 :: v135 :: v136 :: v137 :: v138 :: v139 :: v140 :: v141 :: v142 :: v143 :: v144 :: v145 :: v146 :: v147 :: v148 :: v149 :: v150 :: v151 :: v152 :: v153 :: v154 :: v155 :: v156 :: v157 :: v158 :: v159 :: v160 :: v161 :: v162 :: v163 :: v164 :: v165 :: v166 :: v167 :: v168 :: v169 :: v170 :: v171 :: v172 :: v173 :: v174 :: v175 :: v176 :: []), []⟩ W := by
  obtain ⟨gp, rfl, hgp, hgpl, hzp, hcp⟩ := hG.pr.at_ hi
  obtain ⟨x, hx⟩ : ∃ x, en i = x := ⟨_, rfl⟩
  obtain ⟨q, b, cb, P, Rv, rl⟩ := x
  have hp0 := hcp i hi 0 (.iface (Ip P.R) (.pointer (some ⟨q, 0, none⟩))) (by rw [hx]; rfl)
  have hE := hG.ps i hi
  rw [hx] at hE
  have hat : At W q b cb P := hE.at_
  have hok : Ok P := hE.ok
  have hnn : ∀ v ∈ P.buf, 0 ≤ v := hE.nn
  have hql := hat.lt
  have tgp := hG.o1 gp (by simp [bkG])
  have tq : own q = i + 4 := hE.oq
  have tb : own b = i + 4 := hE.ob
  have hgq : gp ≠ q := fun e => by rw [e] at tgp; omega
  have hgb : gp ≠ b := fun e => by rw [e] at tgp; omega
  simp only [Nat.mul_one, Nat.add_zero] at hp0
  have hin : (i : Int) < (m : Int) := by omega
  have hwz := hG.frm.size
  have HG := Lib.hid hG
  have HQ := Lib.hid hQ
  have HX := Lib.hid hx
  have HP0 := Lib.hid hp0
  have HZP := Lib.hid hzp
  have HM := Lib.hid hG.mem
  have HNN := Lib.hid hnn
  have HAT := Lib.hid hat
  have m1 := m_Copy P.R q
  have h1 := c_Copy P.R
  clear hG hQ hx hcp hzp hE hat hnn
  conv => arg 2; whnf
  try dsimp only
  go_wp2_with fail
  refine (Copy_any (HAT.out.frm0 (by (repeat' (first | assumption | exact Frm.refl _ _ | apply Frm.drew | apply Frm.drewN | apply Frm.alloc)))) hok).mono ?_
  rintro e0 w1 ⟨q', b', c', rfl, g1, hA1, hq', hb'⟩
  have HG1 := Lib.hid (show Frm [] W w1 from (Frm.trans (by (repeat' (first | assumption | exact Frm.refl _ _ | apply Frm.drew | apply Frm.drewN | apply Frm.alloc))) g1))
  have HA1 := Lib.hid hA1
  have hz1 := HG1.out.size
  have hl1 := hA1.lt
  clear g1 hA1 m1 h1 hp0
  go_wp2_with fail
  refine (copy_ok (HM.out.frm (D := []) (Frm.trans HG1.out (by (repeat' (first | assumption | exact Frm.refl _ _ | apply Frm.drew | apply Frm.drewN | apply Frm.alloc)))) (by simp) (by simp))).mono ?_
  rintro e0 w2 ⟨pp, dd, cc, rfl, g2, hM2, hpp, hdd⟩
  have HF2 := Lib.hid (show Frm [] w1 w2 from (Frm.trans (by (repeat' (first | assumption | exact Frm.refl _ _ | apply Frm.drew | apply Frm.drewN | apply Frm.alloc))) g2))
  have HM2 := Lib.hid hM2
  have hz2 := HF2.out.size
  have hdd1 : w1.heap.size ≤ dd := hdd
  have hpp1 : w1.heap.size ≤ pp := hpp
  clear g2 hM2 hpp hdd
  have HGW := Lib.hid (HG1.out.trans HF2.out)
  have hS : Sit w2 pp dd cc q b cb P ws := ⟨HM2.out, HAT.out.frm0 HGW.out, ⟨by omega, by omega, by omega, by omega⟩, hok, HG.out.pos, HNN.out⟩
  have HS := Lib.hid hS
  have hgd : gp ≠ dd := by omega
  have HK : Hid (∀ w', Frm [dd, q, b] w2 w' → w'.cell? ⟨gp, i, none⟩ = some (.iface (Ip P.R) (.pointer (some ⟨q, 0, none⟩))) ∧ w'.frozen? ⟨gp, i, none⟩ = false) := Lib.hid (fun w' hf =>
    ⟨(hf.cell (by omega) (by simp; exact ⟨hgd, hgq, hgb⟩)).trans ((HGW.out.cell hgpl (by simp)).trans HP0.out), (hf.frozen (by omega) (by simp; exact ⟨hgd, hgq, hgb⟩)).trans ((HGW.out.frozen hgpl (by simp)).trans (HZP.out i))⟩)
  clear hS
  go_wp2_with fail
  go_loopw [101, 102, 103, 104, 105, 106, 107, 108, 109, 110] (fun sj _ _ _ _ _ _ _ _ _ wr => ∃ (j : Nat) (P2 : Pg) (ws2 : List Int), j ≤ 5 ∧ sj = .int .i64 j ∧ P2.R = P.R ∧ Hid (Sit wr pp dd cc q b cb P2 ws2) ∧ Hid (Frm [dd, q, b] w2 wr)) (fun sj _ _ _ _ _ _ _ _ _ _ => 5 - (intOf sj).toNat)
  case atStart => exact ⟨0, P, ws, by omega, rfl, rfl, HS, Lib.hid (Frm.refl _ _)⟩
  case round =>
    clear HS
    obtain ⟨j, P2, ws2, hj, rfl, hR2, HS, HF⟩ := hrel
    obtain ⟨hc3, hz3⟩ := HK.out wr HF.out
    by_cases hlt : j < 5
    · have m2 := m_Step P.R q
      have h2 := c_Step P.R
      have hjl : (j : Int) < 5 := by omega
      go_wp2_with fail
      have hst := (HS.out.frm0 (w' := _) (by (repeat' (first | assumption | exact Frm.refl _ _ | apply Frm.drew | apply Frm.drewN | apply Frm.alloc)))).step
      rw [hR2] at hst
      refine hst.mono ?_
      rintro e0 w4 ⟨rfl, g4, hS4⟩
      have HF4 := Lib.hid (show Frm [dd, q, b] w2 w4 from HF.out.trans g4)
      have HS4 := Lib.hid hS4
      have hR4 : (stp P2 ws2).2.2.1.R = P.R := ((HS.out.ok.stp HS.out.nn HS.out.nb).2.2.2.2.1).trans hR2
      clear m2 h2 hst g4 hS4 HF HS hc3 hz3
      go_wp2
      go_roundw
      case rel => exact ⟨j + 1, _, _, by omega, by go_num, hR4, HS4, HF4⟩
      case measure => simp [intOf]; omega
    · have hj5 : j = 5 := by omega
      subst hj5
      have f4 : Frm [q, b] W wr := HGW.out.nil.trans_new HF.out (by
        simp only [List.mem_cons, List.not_mem_nil, or_false]
        rintro y (rfl | rfl | rfl)
        · exact .inr (by omega)
        · exact .inl (.inl rfl)
        · exact .inl (.inr rfl))
      have hA4 : At wr q' b' c' P := (HA1.out.frm0 HF2.out).frm HF.out (by simp; omega) (by simp; omega)
      have hGE := HG.out.copy hi (w2 := wr) (q' := q') (b' := b') (c' := c') (by rw [HX.out]; exact f4) (by rw [HX.out]; exact hA4) hq' hb' rfl
      rw [HX.out] at hGE
      have hGE2 : ∃ own', Gs w0 (wr.setCell ⟨gp, i, none⟩ (.iface (Ip P.R) (.pointer (some ⟨q', 0, none⟩)))) own' p d c g oo cg nl ws (some ⟨gp, 0, none⟩) c1 a2 c2 m (upd en i ⟨q', b', c', P, Rv, rl⟩) := by
        have e1 : i * 1 = i := Nat.mul_one i
        rw [e1] at hGE; exact hGE
      have HE := Lib.hid hGE2
      clear f4 hA4 hGE hGE2
      go_wp2
      obtain ⟨own', hE⟩ := HE.out
      exact HQ.out _ _ _ _ _ _ _ _ _ _ _ _ _ _ _ _ _ _ _ _ _ _ _ _ _ _ _ _ _ _ ⟨_, _, _, hE⟩
end
end Go.Proofs.Ytbhnijkphkkalaa
