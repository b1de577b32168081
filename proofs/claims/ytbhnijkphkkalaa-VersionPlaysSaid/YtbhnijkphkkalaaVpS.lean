/- VersionPlays: the ways of a round: a step (by gen_vpn.py). -/
import Derived.Test.YtbhnijkphkkalaaVpP
import Derived.Deep.RegionHeld3
namespace Go.Proofs.Ytbhnijkphkkalaa
open Go.ChangeShapes Go.WideShapes Go.ChangeAt Go.RowKit
set_option linter.unusedVariables false
set_option linter.unusedSimpArgs false

section
variable {own : Nat → Nat} {p d c g oo cg nl : Nat} {ws : List Int} {a1 a2 : Option Addr} {c1 c2 m : Nat} {en : Nat → En}
set_option maxRecDepth 100000 in
set_option maxHeartbeats 2000000 in
/-- A step of a program. -/
theorem any_step {w0 W : World} {i : Nat} {Q : Exit → Act → World → Prop} (v1 v2 v3 v4 v8 v9 v10 v11 v12 v14 v15 v16 v17 v18 v19 v20 v21 v22 v23 v24 v25 v26 v27 v28 v29 v30 v31 v32 v33 v34 v35 v36 v37 v38 v39 v40 v41 v42 v43 v44 v45 v46 v47 v48 v49 v50 v51 v52 v53 v54 v55 v56 v57 v58 v59 v60 v61 v62 v63 v64 v65 v66 v67 v68 v69 v70 v71 v72 v73 v74 v75 v76 v77 v78 v79 v80 v81 v82 v83 v84 v85 v86 v87 v88 v89 v90 v91 v92 v93 v94 v95 v96 v97 v98 v99 v100 v101 v102 v103 v104 v105 v106 v107 v108 v109 v110 v111 v112 v113 v114 v115 v116 v117 v118 v119 v120 v121 v122 v123 v124 v125 v126 v127 v128 v129 v130 v131 v132 v133 v134 v135 v136 v137 v138 v139 v140 v141 v142 v143 v144 v145 v146 v147 v148 v149 v150 v151 v152 v153 v154 v155 v156 v157 v158 v159 v160 v161 v162 v163 v164 v165 v166 v167 v168 v169 v170 v171 v172 v173 v174 v175 v176 : Value)
    (hG : Gs w0 W own p d c g oo cg nl ws a1 c1 a2 c2 m en) (n0 : 0 < nl) (hnl : nl ≤ 65536) (hi : i < m) (hm : m ≤ 1000)
    (hQ : ∀ (u16 u17 u18 u19 u20 u21 u22 u23 u115 u116 u117 u118 u119 u120 u121 u122 u123 u124 u125 u126 u127 u128 u129 u130 u131 u132 u133 u134 u135 u136 u137 u138 u139 u140 u141 u142 u143 u144 u145 u146 u147 u148 u149 u150 u151 u152 u153 u154 u155 u156 u157 u158 u159 u160 u161 u162 u163 u164 u165 u166 u167 u168 u169 u170 u171 u172 u173 u174 : Value) (g' o2 cg' : Nat) (w' : World), Rq w0 p d c g' o2 cg' nl a1 c1 a2 c2 m w' →
      Q .normal ⟨List.toArray (.slice (some ⟨g', o2, none⟩) nl cg' :: v1 :: v2 :: v3 :: v4 :: .pointer (some ⟨p, 0, none⟩) :: .slice a1 m c1 :: .slice a2 m c2 :: v8 :: v9 :: v10 :: v11 :: v12 :: .int .i64 (i : Int) :: v14 :: v15 :: u16 :: u17 :: u18 :: u19 :: u20 :: u21 :: u22 :: u23 :: v24 :: v25 :: v26 :: v27 :: v28 :: v29 :: v30 :: v31 :: v32 :: v33 :: v34 :: v35 :: v36 :: v37 :: v38 :: v39 :: v40 :: v41 :: v42 :: v43 :: v44 :: v45 :: v46 :: v47 :: v48 :: v49 :: v50 :: v51 :: v52 :: v53 :: v54 :: v55 :: v56 :: v57 :: v58 :: v59 :: v60 :: v61 :: v62 :: v63 :: v64 :: v65 :: v66 :: v67 :: v68 :: v69 :: v70 :: v71 :: v72 :: v73 :: v74 :: v75 :: v76 :: v77 :: v78 :: v79 :: v80 :: v81 :: v82 :: v83 :: v84 :: v85 :: v86 :: v87 :: v88 :: v89 :: v90 :: v91 :: v92 :: v93 :: v94 :: v95 :: v96 :: v97 :: v98 :: v99 :: v100 :: v101 :: v102 :: v103 :: v104 :: v105 :: v106 :: v107 :: v108 :: v109 :: v110 :: v111 :: v112 :: v113 :: v114 :: u115 :: u116 :: u117 :: u118 :: u119 :: u120 :: u121 :: u122 :: u123 :: u124 :: u125 :: u126 :: u127 :: u128 :: u129 :: u130 :: u131 :: u132 :: u133 :: u134 :: u135 :: u136 :: u137 :: u138 :: u139 :: u140 :: u141 :: u142 :: u143 :: u144 :: u145 :: u146 :: u147 :: u148 :: u149 :: u150 :: u151 :: u152 :: u153 :: u154 :: u155 :: u156 :: u157 :: u158 :: u159 :: u160 :: u161 :: u162 :: u163 :: u164 :: u165 :: u166 :: u167 :: u168 :: u169 :: u170 :: u171 :: u172 :: u173 :: u174 :: v175 :: v176 :: []), []⟩ w') :
    Code.wp Try.prog (pieceA 28) Q ⟨List.toArray (.slice (some ⟨g, oo, none⟩) nl cg :: v1 :: v2 :: v3 :: v4 :: .pointer (some ⟨p, 0, none⟩) :: .slice a1 m c1 :: .slice a2 m c2 :: v8 :: v9 :: v10 :: v11 :: v12 :: .int .i64 (i : Int) :: v14 :: v15 :: v16 :: v17 :: v18 :: v19 :: v20 :: v21 :: v22 :: v23 :: v24 :: v25 :: v26 :: v27 :: v28 :: v29 :: v30 :: v31 :: v32 :: v33 :: v34 :: v35 :: v36 :: v37 :: v38 :: v39 :: v40 :: v41 :: v42 :: v43 :: v44 :: v45 :: v46 :: v47 :: v48 :: v49 :: v50 :: v51 :: v52 :: v53 :: v54 :: v55 :: v56 :: v57 :: v58 :: v59 :: v60 :: v61 :: v62 :: v63 :: v64 :: v65 :: v66 :: v67 :: v68 :: v69 :: v70 :: v71 :: v72 :: v73 :: v74 :: v75 :: v76 :: v77 :: v78 :: v79 :: v80 :: v81 :: v82 :: v83 :: v84 :: v85 :: v86 :: v87 :: v88 :: v89 :: v90 :: v91 :: v92 :: v93 :: v94 :: v95 :: v96 :: v97 :: v98 :: v99 :: v100 :: v101 :: v102 :: v103 :: v104 :: v105 :: v106 :: v107 :: v108 :: v109 :: v110 :: v111 :: v112 :: v113 :: v114 :: v115 :: v116 :: v117 :: v118 :: v119 :: v120 :: v121 :: v122 :: v123 :: v124 :: v125 :: v126 :: v127 :: v128 :: v129 :: v130 :: v131 :: v132 :: v133 :: v134 :: v135 :: v136 :: v137 :: v138 :: v139 :: v140 :: v141 :: v142 :: v143 :: v144 :: v145 :: v146 :: v147 :: v148 :: v149 :: v150 :: v151 :: v152 :: v153 :: v154 :: v155 :: v156 :: v157 :: v158 :: v159 :: v160 :: v161 :: v162 :: v163 :: v164 :: v165 :: v166 :: v167 :: v168 :: v169 :: v170 :: v171 :: v172 :: v173 :: v174 :: v175 :: v176 :: []), []⟩ W := by
  obtain ⟨gp, rfl, hgp, hgpl, hzp, hcp⟩ := hG.pr.at_ hi
  obtain ⟨gr, rfl, hgr, hgrl, hzr, hcr⟩ := hG.rn.at_ hi
  obtain ⟨x, hx⟩ : ∃ x, en i = x := ⟨_, rfl⟩
  obtain ⟨q, b, cb, P, Rv, rl⟩ := x
  have hp0 := hcp i hi 0 (.iface (Ip P.R) (.pointer (some ⟨q, 0, none⟩))) (by rw [hx]; rfl)
  have hr : ∀ j v, Rv.cells[j]? = some v → W.cell? ⟨gr, i * 11 + j, none⟩ = some v := fun j v hv => hcr i hi j v (by rw [hx]; exact hv)
  have hr0 := hr 0 _ rfl
  have hr1 := hr 1 _ rfl
  have hr2 := hr 2 _ rfl
  have hr3 := hr 3 _ rfl
  have hr4 := hr 4 _ rfl
  have hr5 := hr 5 _ rfl
  have hr6 := hr 6 _ rfl
  have hr7 := hr 7 _ rfl
  have hr8 := hr 8 _ rfl
  have hr9 := hr 9 _ rfl
  have hr10 := hr 10 _ rfl
  have hE := hG.ps i hi
  rw [hx] at hE
  have hat : At W q b cb P := hE.at_
  have hok : Ok P := hE.ok
  have hql := hat.lt
  have tgp := hG.o1 gp (by simp [bkG])
  have tgr := hG.o2 gr (by simp [bkG])
  have tq : own q = i + 4 := hE.oq
  have tb : own b = i + 4 := hE.ob
  have td := hG.od
  have tp := hG.op
  have hgq : gp ≠ q := fun e => by rw [e] at tgp; omega
  have hgb : gp ≠ b := fun e => by rw [e] at tgp; omega
  have hgd : gp ≠ d := fun e => by rw [e] at tgp; omega
  have hrq : gr ≠ q := fun e => by rw [e] at tgr; omega
  have hrb : gr ≠ b := fun e => by rw [e] at tgr; omega
  have hrd : gr ≠ d := fun e => by rw [e] at tgr; omega
  have hdl := hG.mem.dlt
  obtain ⟨lb, lo, hLL⟩ : ∃ lb lo, P.R = false → Li .u64 W Rv.la Rv.ln Rv.lc lb lo P.buf := by
    cases hR : P.R with
    | true => exact ⟨0, 0, fun h => by cases h⟩
    | false => obtain ⟨lb, lo, hL, _⟩ := hE.la hR; exact ⟨lb, lo, fun _ => hL⟩
  obtain ⟨rb, ro, hLR⟩ : ∃ rb ro, Li .u64 W Rv.ra Rv.rn Rv.rcap rb ro rl := hE.ra
  obtain ⟨⟨β, ν, P', ws'⟩, hst⟩ : ∃ r, stp P ws = r := ⟨_, rfl⟩
  have hN := Next_any (P := P) (R := Rv) (rl := rl) hE.re hok hat.fit hG.len n0 hnl hG.pos hG.rd hLL hLR (fun x hx => (hE.rao x hx).2) hE.k0
  have hS : Sit W p d c q b cb P ws := ⟨hG.mem, hat, ⟨fun e => by rw [e] at tq; omega, fun e => by rw [e] at tq; omega, fun e => by rw [e] at tb; omega, fun e => by rw [e] at tb; omega⟩, hok, hG.pos, hE.nn⟩
  have hPR : P'.R = P.R := by have := (hok.stp hG.pos hE.nn).2.2.2.2.1; rw [hst] at this; exact this
  have hwl : ws'.length = nl := by have := (hok.stp hG.pos hE.nn).2.2.2.1; rw [hst] at this; exact this.trans hG.len
  unfold NextQ NxQ RV.arr RV.v at hN
  rw [hst] at hN
  simp only at hN
  simp only [Nat.mul_one, Nat.add_zero] at hp0 hr0
  have hin : (i : Int) < (m : Int) := by omega
  have hwz := hG.frm.size
  have HG := Lib.hid hG
  have HQ := Lib.hid hQ
  have HX := Lib.hid hx
  have HST := Lib.hid hst
  have HN := Lib.hid hN
  have HS := Lib.hid hS
  have HP0 := Lib.hid hp0
  have HRR := Lib.hid hr
  have HZR := Lib.hid hzr
  have HPR := Lib.hid hPR
  have HRA : Hid (∀ y ∈ bkO Rv.ra, own y = 3) := Lib.hid fun y hy => (hE.rao y hy).1
  have HWL := Lib.hid hwl
  have hne : (ν != ν) = false := by simp
  have hnb : (β != β) = false := by cases β <;> rfl
  clear hG hQ hx hst hN hS hcp hcr hzp hzr hr hE hat hLL hLR hPR hwl hp0
  conv => arg 2; whnf
  try dsimp only
  go_wp2_with fail
  refine HN.out.mono ?_
  rintro e0 w1 ⟨R', rl', ⟨g', o2, cg', rfl, hF1, hrd1, hg1⟩, hre', hla', hRd'⟩
  have HF1 := Lib.hid hF1
  have HRD1 := Lib.hid hrd1
  have HNX := Lib.hid (And.intro hre' (And.intro hla' hRd'))
  clear hr0 hr1 hr2 hr3 hr4 hr5 hr6 hr7 hr8 hr9 hr10 hF1 hrd1 hre' hla' hRd' HN
  go_upto_region 29 with fail
  obtain ⟨W9, hW9⟩ : ∃ W', W' = w1.alloc (.cells #[.bool R'.W, .int .i64 R'.V, .int .i64 R'.F, .slice R'.la R'.ln R'.lc, .int .i64 R'.many, .int .i64 R'.tries, .int .i64 R'.steps, .int .u64 R'.first, .slice R'.ra R'.rn R'.rcap, .int .u64 R'.res, .bool R'.ended] 48) := ⟨_, rfl⟩
  have f9 : Frm [] w1 W9 := by rw [hW9]; exact (Frm.refl _ _).alloc _
  have hb9 : W9.heap[w1.heap.size]? = some (.cells #[.bool R'.W, .int .i64 R'.V, .int .i64 R'.F, .slice R'.la R'.ln R'.lc, .int .i64 R'.many, .int .i64 R'.tries, .int .i64 R'.steps, .int .u64 R'.first, .slice R'.ra R'.rn R'.rcap, .int .u64 R'.res, .bool R'.ended] 48 (0, 0)) := by rw [hW9]; exact heap_alloc_new _ _
  rw [← hW9]
  clear hW9
  obtain ⟨b9, hb9e⟩ : ∃ x, x = w1.heap.size := ⟨_, rfl⟩
  rw [← hb9e] at hb9 ⊢
  have hz1 := HF1.out.size
  have hl9 := lt_of_heap hb9
  have hb9w : W.heap.size ≤ b9 := by omega
  clear hb9e
  have HB9 := Lib.hid hb9
  have HF9 := Lib.hid (HF1.out.trans f9)
  have H19 := Lib.hid f9
  have hp0 : W9.cell? ⟨gp, i, none⟩ = some (.iface (Ip P.R) (.pointer (some ⟨q, 0, none⟩))) := (HF9.out.cell hgpl (by simp)).trans HP0.out
  have m1 := m_Step P.R q
  have h1 := c_Step P.R
  clear f9 hb9
  go_wp2_with fail
  have hstep := (HS.out.frm0 HF9.out).stepR HST.out
  refine hstep.mono ?_
  rintro e0 w2 ⟨rfl, hF2, hS2⟩
  have HF2 := Lib.hid hF2
  have HS2 := Lib.hid hS2
  have hz2 := hF2.size
  clear hstep hF2 hS2 hp0 m1 h1
  go_wp2_with fail
  refine (words_ok HS2.out.mem 0 nl (Nat.zero_le _) (by rw [HWL.out]; exact Nat.le_refl _)).mono ?_
  rintro e0 w3 ⟨v, rfl, hF3, hO⟩
  have hv : Rd w3 v (u64s ws') := by have := hO.rd; rwa [List.drop_zero, Nat.sub_zero, List.take_of_length_le (by rw [HWL.out]; exact Nat.le_refl _)] at this
  have HF3 := Lib.hid hF3
  have HV := Lib.hid hv
  have hz3 := hF3.size
  clear hF3 hO hv
  have HFA : Hid (Frm [d, q, b] W9 w3) := Lib.hid (HF2.out.trans (HF3.out.weak (by simp)))
  have hgD : g' ∉ [d, q, b] := by
    have tg := HG.out.og
    rcases hg1 with e | e
    · rw [e]
      simp only [List.mem_cons, List.not_mem_nil, or_false]
      intro h
      rcases h with h | h | h <;> (rw [h] at tg; omega)
    · simp only [List.mem_cons, List.not_mem_nil, or_false]
      omega
  have hrd3 : Rd w3 (.slice (some ⟨g', o2, none⟩) nl cg') (u64s ws') := ((HRD1.out.frm H19.out (by simp)).frm HF2.out (by intro y hy; simp only [Value.ownBlock, Option.some.injEq] at hy; subst hy; exact hgD)).frm HF3.out (by simp)
  have HSM : Hid (∀ w', Frm [] w3 w' → Calls Try.prog 25 #[v, .slice (some ⟨g', o2, none⟩) nl cg'] w' (fun e w'' => ∃ m, Ret (.bool true) (fun w'' => w'' = w'.drewN m) e w'')) := Lib.hid fun w' hf => by
    have h := same_any (HV.out.frm hf (by simp)) (hrd3.frm hf (by simp)) (by rw [HWL.out]; omega) (by rw [HWL.out]; omega)
    rwa [decide_eq_true rfl] at h
  have hLK : ∀ w', Frm [] w3 w' → Calls Try.prog 26 #[.iface (Ip P.R) (.pointer (some ⟨q, 0, none⟩)), R'.v] w' (Ret (.bool true) (fun w'' => Frm [] w' w'')) := fun w' hf => by
    have h := looks_any (HS2.out.pg.frm0 (HF3.out.trans hf)) HS2.out.ok HNX.out.1 (by
      obtain ⟨⟨rb, ro, hL⟩, hB⟩ := HNX.out.2.2
      refine ⟨rb, ro, ((hL.frm0 H19.out).frm HF2.out (fun hp => ?_)).frm0 (HF3.out.trans hf)⟩
      have hrb := hB rb (by rw [hL.ad hp]; simp [bkO])
      simp only [List.mem_cons, List.not_mem_nil, or_false]
      intro h
      rcases hrb.1 with e | e
      · have tg := HRA.out rb e
        rcases h with h | h | h <;> (rw [h] at tg; omega)
      · omega)
    rw [HPR.out] at h
    exact h
  unfold RV.v at hLK
  have HLK := Lib.hid hLK
  have fgp : Frm [d, q, b] W w3 := HF9.out.nil.trans (HF2.out.trans (HF3.out.weak (by simp)))
  have HK1 : Hid (∀ w', Frm [] w3 w' → w'.cell? ⟨gp, i, none⟩ = some (.iface (Ip P.R) (.pointer (some ⟨q, 0, none⟩)))) := Lib.hid fun w' hf => (hf.cell (by have := fgp.size; omega) (by simp)).trans ((fgp.cell hgpl (by simp; exact ⟨hgd, hgq, hgb⟩)).trans HP0.out)
  have HK2 : Hid (∀ w', Frm [] w3 w' → w'.heap[b9]? = some (.cells #[.bool R'.W, .int .i64 R'.V, .int .i64 R'.F, .slice R'.la R'.ln R'.lc, .int .i64 R'.many, .int .i64 R'.tries, .int .i64 R'.steps, .int .u64 R'.first, .slice R'.ra R'.rn R'.rcap, .int .u64 R'.res, .bool R'.ended] 48 (0, 0))) := Lib.hid fun w' hf => hf.heap (HF3.out.heap (HF2.out.heap HB9.out (by simp; omega)) (by simp)) (by simp)
  have HK3 : Hid (∀ w', Frm [] w3 w' → (∀ j v, Rv.cells[j]? = some v → w'.cell? ⟨gr, i * 11 + j, none⟩ = some v) ∧ ∀ j, w'.frozen? ⟨gr, j, none⟩ = false) := Lib.hid fun w' hf =>
    ⟨fun j v hv => (hf.cell (by have := fgp.size; omega) (by simp)).trans ((fgp.cell hgrl (by simp; exact ⟨hrd, hrq, hrb⟩)).trans (HRR.out j v hv)), fun j => (hf.frozen (by have := fgp.size; omega) (by simp)).trans ((fgp.frozen hgrl (by simp; exact ⟨hrd, hrq, hrb⟩)).trans (HZR.out j))⟩
  clear hgD hrd3 hLK fgp
  go_upto_region 31 with fail
  refine wp_region_noPanic ?_
  refine wp_region_held_drew (S := fun w' => Frm [] w3 w') (by kernel_rfl) ((Frm.refl _ _).drew) (fun hHeld => ?_)
  refine take_in (i := 0) (d := 143) (v := .bool β) rfl rfl (by kernel_rfl) (by kernel_rfl) (by kernel_rfl) (fun _ _ _ h => h) (by kernel_rfl) (fun _ _ => rfl) (by assumption) ?_
  try simp only [Act.put, List.setIfInBounds_toArray, List.set_cons_zero, List.set_cons_succ]
  refine take_in (i := 1) (d := 144) (v := .bool β) rfl rfl (by kernel_rfl) (by kernel_rfl) (by kernel_rfl) (fun _ _ _ h => h) (by kernel_rfl) (fun _ _ => rfl) (by assumption) ?_
  try simp only [Act.put, List.setIfInBounds_toArray, List.set_cons_zero, List.set_cons_succ]
  refine take_in (i := 2) (d := 145) (v := .bool false) rfl rfl (by kernel_rfl) (by kernel_rfl) (by kernel_rfl) (fun _ _ _ h => h) (by kernel_rfl) (fun w' hS => by go_simp) (by assumption) ?_
  try simp only [Act.put, List.setIfInBounds_toArray, List.set_cons_zero, List.set_cons_succ]
  refine take_in (i := 3) (d := 146) (v := .bool false) rfl rfl (by kernel_rfl) (by kernel_rfl) (by kernel_rfl) (fun _ _ _ h => h) (by kernel_rfl) (fun _ _ => rfl) (by assumption) ?_
  try simp only [Act.put, List.setIfInBounds_toArray, List.set_cons_zero, List.set_cons_succ]
  refine take_in (i := 4) (d := 147) (v := .int .i64 ν) rfl rfl (by kernel_rfl) (by kernel_rfl) (by kernel_rfl) (fun _ _ _ h => h) (by kernel_rfl) (fun _ _ => rfl) (by assumption) ?_
  try simp only [Act.put, List.setIfInBounds_toArray, List.set_cons_zero, List.set_cons_succ]
  refine take_in (i := 5) (d := 148) (v := .int .i64 ν) rfl rfl (by kernel_rfl) (by kernel_rfl) (by kernel_rfl) (fun _ _ _ h => h) (by kernel_rfl) (fun _ _ => rfl) (by assumption) ?_
  try simp only [Act.put, List.setIfInBounds_toArray, List.set_cons_zero, List.set_cons_succ]
  refine take_in (i := 6) (d := 149) (v := .bool false) rfl rfl (by kernel_rfl) (by kernel_rfl) (by kernel_rfl) (fun _ _ _ h => h) (by kernel_rfl) (fun w' hS => by go_simp) (by assumption) ?_
  try simp only [Act.put, List.setIfInBounds_toArray, List.set_cons_zero, List.set_cons_succ]
  refine take_in (i := 7) (d := 150) (v := .bool false) rfl rfl (by kernel_rfl) (by kernel_rfl) (by kernel_rfl) (fun _ _ _ h => h) (by kernel_rfl) (fun _ _ => rfl) (by assumption) ?_
  try simp only [Act.put, List.setIfInBounds_toArray, List.set_cons_zero, List.set_cons_succ]
  refine take_in (i := 8) (d := 151) (v := .bool false) rfl rfl (by kernel_rfl) (by kernel_rfl) (by kernel_rfl) (fun _ _ _ h => h) (by kernel_rfl) (fun _ _ => rfl) (by assumption) ?_
  try simp only [Act.put, List.setIfInBounds_toArray, List.set_cons_zero, List.set_cons_succ]
  refine take_in (i := 9) (d := 152) (v := .int .i64 0) rfl rfl (by kernel_rfl) (by kernel_rfl) (by kernel_rfl) (fun _ _ _ h => h) (by kernel_rfl) (fun _ _ => rfl) (by assumption) ?_
  try simp only [Act.put, List.setIfInBounds_toArray, List.set_cons_zero, List.set_cons_succ]
  refine take_in (i := 10) (d := 153) (v := .bool false) rfl rfl (by kernel_rfl) (by kernel_rfl) (by kernel_rfl) (fun _ _ _ h => h) (by kernel_rfl) (fun w' hS => by go_simp) (by assumption) ?_
  try simp only [Act.put, List.setIfInBounds_toArray, List.set_cons_zero, List.set_cons_succ]
  refine take_in (i := 11) (d := 154) (v := .bool false) rfl rfl (by kernel_rfl) (by kernel_rfl) (by kernel_rfl) (fun _ _ _ h => h) (by kernel_rfl) (fun _ _ => rfl) (by assumption) ?_
  try simp only [Act.put, List.setIfInBounds_toArray, List.set_cons_zero, List.set_cons_succ]
  refine take_in (i := 12) (d := 155) (v := .bool false) rfl rfl (by kernel_rfl) (by kernel_rfl) (by kernel_rfl) (fun _ _ _ h => h) (by kernel_rfl) (fun _ _ => rfl) (by assumption) ?_
  try simp only [Act.put, List.setIfInBounds_toArray, List.set_cons_zero, List.set_cons_succ]
  refine take_in (i := 13) (d := 156) (v := v) rfl rfl (by kernel_rfl) (by kernel_rfl) (by kernel_rfl) (fun _ _ _ h => h) (by kernel_rfl) (fun _ _ => rfl) (by assumption) ?_
  try simp only [Act.put, List.setIfInBounds_toArray, List.set_cons_zero, List.set_cons_succ]
  refine take_in (i := 14) (d := 157) (v := .slice (some ⟨g', o2, none⟩) nl cg') rfl rfl (by kernel_rfl) (by kernel_rfl) (by kernel_rfl) (fun _ _ _ h => h) (by kernel_rfl) (fun _ _ => rfl) (by assumption) ?_
  try simp only [Act.put, List.setIfInBounds_toArray, List.set_cons_zero, List.set_cons_succ]
  refine wpAnyH_ready (rs := [15]) (by kernel_rfl) (by simp) ?_
  refine AllReadyH.cons rfl (fun K hK => ?_) AllReadyH.nil
  go_simp
  refine (HSM.out _ (by (repeat' (first | assumption | exact Frm.refl _ _ | apply Frm.drew | apply Frm.drewN | apply Frm.alloc)))).mono ?_
  rintro e0 w5 ⟨m5, rfl, rfl⟩
  refine hK.out _ _ (by (repeat' (first | assumption | exact Frm.refl _ _ | apply Frm.drew | apply Frm.drewN | apply Frm.alloc))) (fun hHeld => ?_)
  clear hK K
  try change wpAnyH _ _ _ _ _ _ _ (Act.put _ (some 158) _) _
  try simp only [Act.put, List.setIfInBounds_toArray, List.set_cons_zero, List.set_cons_succ]
  refine take_in (i := 16) (d := 159) (v := .bool false) rfl rfl (by kernel_rfl) (by kernel_rfl) (by kernel_rfl) (fun _ _ _ h => h) (by kernel_rfl) (fun w' hS => by go_simp) (by assumption) ?_
  try simp only [Act.put, List.setIfInBounds_toArray, List.set_cons_zero, List.set_cons_succ]
  refine take_in (i := 17) (d := 160) (v := .bool false) rfl rfl (by kernel_rfl) (by kernel_rfl) (by kernel_rfl) (fun _ _ _ h => h) (by kernel_rfl) (fun _ _ => rfl) (by assumption) ?_
  try simp only [Act.put, List.setIfInBounds_toArray, List.set_cons_zero, List.set_cons_succ]
  refine take_in (i := 18) (d := 161) (v := .bool false) rfl rfl (by kernel_rfl) (by kernel_rfl) (by kernel_rfl) (fun _ _ _ h => h) (by kernel_rfl) (fun _ _ => rfl) (by assumption) ?_
  try simp only [Act.put, List.setIfInBounds_toArray, List.set_cons_zero, List.set_cons_succ]
  refine take_in (i := 19) (d := 162) (v := .slice (some ⟨gp, 0, none⟩) m c1) rfl rfl (by kernel_rfl) (by kernel_rfl) (by kernel_rfl) (fun _ _ _ h => h) (by kernel_rfl) (fun _ _ => rfl) (by assumption) ?_
  try simp only [Act.put, List.setIfInBounds_toArray, List.set_cons_zero, List.set_cons_succ]
  refine take_in (i := 20) (d := 163) (v := .int .i64 (i : Int)) rfl rfl (by kernel_rfl) (by kernel_rfl) (by kernel_rfl) (fun _ _ _ h => h) (by kernel_rfl) (fun _ _ => rfl) (by assumption) ?_
  try simp only [Act.put, List.setIfInBounds_toArray, List.set_cons_zero, List.set_cons_succ]
  refine take_in (i := 21) (d := 164) (v := .pointer (some ⟨gp, i, none⟩)) rfl rfl (by kernel_rfl) (by kernel_rfl) (by kernel_rfl) (fun _ _ _ h => h) (by kernel_rfl) (fun w' hS => by go_simp) (by assumption) ?_
  try simp only [Act.put, List.setIfInBounds_toArray, List.set_cons_zero, List.set_cons_succ]
  refine take_in (i := 22) (d := 165) (v := .iface (Ip P.R) (.pointer (some ⟨q, 0, none⟩))) rfl rfl (by kernel_rfl) (by kernel_rfl) (by kernel_rfl) (fun _ _ _ h => h) (by kernel_rfl) (fun w' hS => by have hh := HK1.out w' hS; go_simp) (by assumption) ?_
  try simp only [Act.put, List.setIfInBounds_toArray, List.set_cons_zero, List.set_cons_succ]
  refine take_in (i := 23) (d := 166) (v := .agg #[.bool R'.W, .int .i64 R'.V, .int .i64 R'.F, .slice R'.la R'.ln R'.lc, .int .i64 R'.many, .int .i64 R'.tries, .int .i64 R'.steps, .int .u64 R'.first, .slice R'.ra R'.rn R'.rcap, .int .u64 R'.res, .bool R'.ended]) rfl rfl (by kernel_rfl) (by kernel_rfl) (by kernel_rfl) (fun _ _ _ h => h) (by kernel_rfl) (fun w' hS => by obtain ⟨c0, c1, c2, c3, c4, c5, c6, c7, c8, c9, c10⟩ := cells11 (HK2.out w' hS); go_simp) (by assumption) ?_
  try simp only [Act.put, List.setIfInBounds_toArray, List.set_cons_zero, List.set_cons_succ]
  refine wpAnyH_ready (rs := [24]) (by kernel_rfl) (by simp) ?_
  refine AllReadyH.cons rfl (fun K hK => ?_) AllReadyH.nil
  go_simp
  refine (HLK.out _ (by (repeat' (first | assumption | exact Frm.refl _ _ | apply Frm.drew | apply Frm.drewN | apply Frm.alloc)))).mono ?_
  rintro e0 w6 ⟨rfl, hF6⟩
  have s6 : Frm [] w3 w6 := Frm.trans (by (repeat' (first | assumption | exact Frm.refl _ _ | apply Frm.drew | apply Frm.drewN | apply Frm.alloc))) hF6
  refine hK.out _ _ (by exact s6) (fun hHeld => ?_)
  clear hK K
  try change wpAnyH _ _ _ _ _ _ _ (Act.put _ (some 167) _) _
  try simp only [Act.put, List.setIfInBounds_toArray, List.set_cons_zero, List.set_cons_succ]
  refine take_in (i := 25) (d := 168) (v := .bool false) rfl rfl (by kernel_rfl) (by kernel_rfl) (by kernel_rfl) (fun _ _ _ h => h) (by kernel_rfl) (fun w' hS => by go_simp) (by assumption) ?_
  try simp only [Act.put, List.setIfInBounds_toArray, List.set_cons_zero, List.set_cons_succ]
  refine take_in (i := 26) (d := 169) (v := .bool false) rfl rfl (by kernel_rfl) (by kernel_rfl) (by kernel_rfl) (fun _ _ _ h => h) (by kernel_rfl) (fun _ _ => rfl) (by assumption) ?_
  try simp only [Act.put, List.setIfInBounds_toArray, List.set_cons_zero, List.set_cons_succ]
  refine wpAnyH_done (by kernel_rfl) ?_ _
  refine NoPanic.normal ?_
  have hGE := HG.out.step' hi HX.out HST.out HF1.out HNX.out.1 HNX.out.2.1 HNX.out.2.2 HRD1.out hg1 ((H19.out.weak (by simp)).trans HF2.out) HS2.out (HF3.out.trans s6) rfl
  have HE := Lib.hid hGE
  obtain ⟨k0, fz⟩ := HK3.out w6 s6
  obtain ⟨c0, c1, c2, c3, c4, c5, c6, c7, c8, c9, c10⟩ := cells11 (HK2.out w6 s6)
  have j0 := k0 0 _ rfl
  have j1 := k0 1 _ rfl
  have j2 := k0 2 _ rfl
  have j3 := k0 3 _ rfl
  have j4 := k0 4 _ rfl
  have j5 := k0 5 _ rfl
  have j6 := k0 6 _ rfl
  have j7 := k0 7 _ rfl
  have j8 := k0 8 _ rfl
  have j9 := k0 9 _ rfl
  have j10 := k0 10 _ rfl
  simp only [Nat.add_zero] at j0
  have hbr : b9 ≠ gr := by omega
  clear hGE k0 s6 hF6
  go_wp2
  obtain ⟨own', hE⟩ := HE.out
  exact HQ.out _ _ _ _ _ _ _ _ _ _ _ _ _ _ _ _ _ _ _ _ _ _ _ _ _ _ _ _ _ _ _ _ _ _ _ _ _ _ _ _ _ _ _ _ _ _ _ _ _ _ _ _ _ _ _ _ _ _ _ _ _ _ _ _ _ _ _ _ _ _ _ _ ⟨_, _, _, hE⟩
end
end Go.Proofs.Ytbhnijkphkkalaa
