/- LatchBatches: the first loop (by gen_lwe.py). -/
import Derived.Test.YtjhidkjhfgbaeaaGreatDoorLwG
namespace Go.Proofs.YtjhidkjhfgbaeaaGreatDoor
open Go.ChangeShapes Go.WideShapes Go.ChangeAt Go.RowKit
set_option linter.unusedVariables false
set_option linter.unusedSimpArgs false
set_option maxRecDepth 100000 in
set_option maxHeartbeats 16000000 in
theorem btA2 {w W : World} {T n np p d cc cw c1 c2 : Nat} {aw a1 a2 : Option Addr} {q : List Int} {f : Nat → Int} {en : Nat → Pm} {lo : Nat → Nat} (v1 v2 v3 v5 v7 v10 v11 v12 v13 v14 v15 v16 v17 v18 v19 v20 v21 v22 v23 v24 v25 v26 v27 v28 v29 v30 v31 v32 v33 v34 v35 v36 v37 v38 v39 v40 v41 v42 v43 v44 v45 v46 v47 v48 v49 v50 v51 v52 v53 v54 v55 v56 v57 v58 v59 v60 v61 v62 v63 v64 v65 v66 v67 v68 v69 v70 v71 v72 v73 v74 v75 v76 v77 v78 v79 v80 v81 v82 v83 v84 v85 v86 v87 v88 v89 v90 v91 v92 v93 v94 v95 v96 v97 v98 v99 v100 v101 v102 v103 v104 v105 v106 v107 v108 v109 v110 v111 v112 v113 v114 v115 v116 v117 v118 v119 v120 v121 v122 v123 v124 v125 v126 v127 v128 v129 v130 v131 v132 v133 v134 v135 v136 v137 v138 v139 v140 v141 v142 v143 v144 v145 v146 v147 v148 v149 v150 v151 v152 v153 v154 v155 v156 v157 v158 v159 v160 v161 v162 v163 v164 v165 v166 v167 v168 v169 v170 v171 v172 v173 v174 v175 v176 v177 v178 v179 v180 v181 v182 v183 v184 v185 v186 v187 v188 v189 v190 v191 v192 v193 v194 v195 v196 v197 v198 v199 v200 v201 v202 v203 v204 v205 v206 v207 v208 v209 v210 v211 v212 v213 v214 : Value) (h : Bat w W T n np p d cc q f a1 c1 a2 c2 en lo) (hTn : T = n + 1) (hn1 : 1 ≤ n) (hn : n ≤ 20) (hqn : q.length = n) (hq : ∀ u ∈ q, u = 1 ∨ u = 2 ∨ u = 3) :
    Code.wp Tryz.prog (btT 11) (bodyPost Tryz.prog Tryz.f7 (Ret (.bool true) (fun w' => Frm [] w w'))) ⟨List.toArray (.slice aw n cw :: v1 :: v2 :: v3 :: .pointer (some ⟨np, 0, none⟩) :: v5 :: .pointer (some ⟨p, 0, none⟩) :: v7 :: .slice a1 n c1 :: .slice a2 n c2 :: v10 :: v11 :: v12 :: v13 :: v14 :: v15 :: v16 :: v17 :: v18 :: v19 :: v20 :: v21 :: v22 :: v23 :: v24 :: v25 :: v26 :: v27 :: v28 :: v29 :: v30 :: v31 :: v32 :: v33 :: v34 :: v35 :: v36 :: v37 :: v38 :: v39 :: v40 :: v41 :: v42 :: v43 :: v44 :: v45 :: v46 :: v47 :: v48 :: v49 :: v50 :: v51 :: v52 :: v53 :: v54 :: v55 :: v56 :: v57 :: v58 :: v59 :: v60 :: v61 :: v62 :: v63 :: v64 :: v65 :: v66 :: v67 :: v68 :: v69 :: v70 :: v71 :: v72 :: v73 :: v74 :: v75 :: v76 :: v77 :: v78 :: v79 :: v80 :: v81 :: v82 :: v83 :: v84 :: v85 :: v86 :: v87 :: v88 :: v89 :: v90 :: v91 :: v92 :: v93 :: v94 :: v95 :: v96 :: v97 :: v98 :: v99 :: v100 :: v101 :: v102 :: v103 :: v104 :: v105 :: v106 :: v107 :: v108 :: v109 :: v110 :: v111 :: v112 :: v113 :: v114 :: v115 :: v116 :: v117 :: v118 :: v119 :: v120 :: v121 :: v122 :: v123 :: v124 :: v125 :: v126 :: v127 :: v128 :: v129 :: v130 :: v131 :: v132 :: v133 :: v134 :: v135 :: v136 :: v137 :: v138 :: v139 :: v140 :: v141 :: v142 :: v143 :: v144 :: v145 :: v146 :: v147 :: v148 :: v149 :: v150 :: v151 :: v152 :: v153 :: v154 :: v155 :: v156 :: v157 :: v158 :: v159 :: v160 :: v161 :: v162 :: v163 :: v164 :: v165 :: v166 :: v167 :: v168 :: v169 :: v170 :: v171 :: v172 :: v173 :: v174 :: v175 :: v176 :: v177 :: v178 :: v179 :: v180 :: v181 :: v182 :: v183 :: v184 :: v185 :: v186 :: v187 :: v188 :: v189 :: v190 :: v191 :: v192 :: v193 :: v194 :: v195 :: v196 :: v197 :: v198 :: v199 :: v200 :: v201 :: v202 :: v203 :: v204 :: v205 :: v206 :: v207 :: v208 :: v209 :: v210 :: v211 :: v212 :: v213 :: v214 :: []), []⟩ W := by
  obtain ⟨r, m', g', f', s, hr0, hE, hPE⟩ := back_run (T := T) (L := 3 + 6 * T) (f := f) (by omega) hTn rfl hqn hn1 hq h.pb
  have hqt : q.take n = q := List.take_of_length_le (by omega)
  have HB := Lib.hid h
  have HNB := Lib.hid (newBack h.s.nd 0 (by omega))
  have HE := Lib.hid hE
  have HPE := Lib.hid hPE
  have HQN := Lib.hid hqn
  have HQT := Lib.hid hqt
  clear h hE hPE hqn hq hqt
  conv => arg 2; whnf
  refine wp_seq_k ?_
  intro K0 hK0
  have HK0 := Lib.hid hK0
  clear hK0
  go_wp2_with fail
  refine HNB.out.mono ?_
  rintro e w1 ⟨q9, qe, ql, rfl, hF1, hMv, hPe, hPl, hq9, hqe, hql⟩
  have HR := Lib.hid (HB.out.s.run (k := 1) (md := 0) (show 0 < T by omega) (by decide) (fun e => absurd rfl e) hF1 hMv hPe hPl hq9 hqe hql)
  have HF1 := Lib.hid hF1
  have HG3 := Lib.hid (And.intro hq9 (And.intro hqe hql))
  clear hF1 hMv hPe hPl hq9 hqe hql
  go_wp2_with fail
  refine HK0.out _ _ ?_
  clear HK0 K0
  refine wp_seq_k ?_
  intro K0 hK0
  have HK0 := Lib.hid hK0
  clear hK0
  go_wp2_with fail
  refine (ends_any HR.out 200 (by decide) (by decide) HE.out).mono ?_
  rintro e w2 ⟨rfl, hR2⟩
  have hAft := HB.out.s.after HF1.out hR2 HG3.out.1 HG3.out.2.1 HG3.out.2.2 (by rw [rng_len, rng_len])
  have HAF := Lib.hid hAft
  have hrz : ((r : Int) == 0) = false := by simp; omega
  clear hR2 hAft
  go_wp2_with fail
  refine HK0.out _ _ ?_
  clear HK0 K0
  refine wp_seq_k ?_
  intro K0 hK0
  have HK0 := Lib.hid hK0
  clear hK0
  have hrows := HB.out.rows HAF.out.1
  obtain ⟨g1, g2, g3, g4⟩ := hrows
  rw [HQT.out] at g2
  obtain ⟨gb, hLi⟩ := g2.li
  have hgr := rGrants_any (h := []) (Li.nil w2 0 0) hLi (by decide) (by omega) 0 (by unfold lo64; decide)
  have HGR := Lib.hid hgr
  have HG1 := Lib.hid g1
  have HG2 := Lib.hid g2
  have HGG := Lib.hid g3
  have HG4 := Lib.hid g4
  clear g1 g2 g3 g4 hLi hgr
  obtain ⟨G, hG⟩ : ∃ G, G = grant [] q 0 := ⟨_, rfl⟩
  have hGn : G ≤ n := by rw [hG, ← HQN.out]; exact grant_le _ _ _
  rw [← hG] at HGR HPE
  clear hG
  go_wp2_with fail
  refine HGR.out.mono ?_
  rintro e w3 ⟨rfl, hF3⟩
  have HF3 := Lib.hid hF3
  clear hF3
  go_wp2_with fail
  refine HK0.out _ _ ?_
  have hl0 := HB.out.l0
  have hBlo : w.heap.size ≤ lo 0 := hl0.2.2.2
  have h2 := HG2.out.frm HF3.out (by simp)
  exact btB _ _ _ _ _ _ _ _ _ _ _ _ _ _ _ _ _ _ _ _ _ _ _ _ _ _ _ _ _ _ _ _ _ _ _ _ _ _ _ _ _ _ _ _ _ _ _ _ _ _ _ _ _ _ _ _ _ _ _ _ _ _ _ _ _ _ _ _ _ _ _ _ _ _ _ _ _ _ _ _ _ _ _ _ _ _ _ _ _ _ _ _ _ _ _ _ _ _ _ _ _ _ _ _ _ _ _ _ _ _ _ _ _ _ _ _ _ _ _ _ _ _ _ _ _ _ _ _ _ _ _ _ _ _ _ _ _ _ _ _ _ _ _ _ _ _ _ _ _ _ _ _ _ _ _ _ _ _ _ _ _ _ _ _ _ _ _ _ _ _ _ _ _ _ _ _ _ _ _ _ _ _ _ _ _ _ _ _ _ _ _ _ _ _ _ _ _ _ _ _ _ _ _ _ _ _ _ _ _ (HG1.out.trans HF3.out) (HAF.out.2.frm0 HF3.out) HPE.out hTn ⟨own_low h2.1 hBlo, h2.2⟩ (gr_low (HGG.out.frm0 HF3.out) hBlo) (fun i hi => (HG4.out i hi).frm HF3.out (by simp)) HB.out.m HB.out.up HB.out.mo ⟨hl0.1, hl0.2.1, hl0.2.2.2⟩ hn hGn
set_option maxRecDepth 100000 in
set_option maxHeartbeats 16000000 in
theorem btA {w W : World} {T n np p d cc cw bw ow : Nat} {aw : Option Addr} {zs q : List Int} {f0 : Nat → Int} {en0 : Nat → Pm} {lo0 : Nat → Nat} (v1 v2 v3 v5 v7 v10 v11 v12 v13 v14 v15 v16 v17 v18 v19 v20 v21 v22 v23 v24 v25 v26 v27 v28 v29 v30 v31 v32 v33 v34 v35 v36 v37 v38 v39 v40 v41 v42 v43 v44 v45 v46 v47 v48 v49 v50 v51 v52 v53 v54 v55 v56 v57 v58 v59 v60 v61 v62 v63 v64 v65 v66 v67 v68 v69 v70 v71 v72 v73 v74 v75 v76 v77 v78 v79 v80 v81 v82 v83 v84 v85 v86 v87 v88 v89 v90 v91 v92 v93 v94 v95 v96 v97 v98 v99 v100 v101 v102 v103 v104 v105 v106 v107 v108 v109 v110 v111 v112 v113 v114 v115 v116 v117 v118 v119 v120 v121 v122 v123 v124 v125 v126 v127 v128 v129 v130 v131 v132 v133 v134 v135 v136 v137 v138 v139 v140 v141 v142 v143 v144 v145 v146 v147 v148 v149 v150 v151 v152 v153 v154 v155 v156 v157 v158 v159 v160 v161 v162 v163 v164 v165 v166 v167 v168 v169 v170 v171 v172 v173 v174 v175 v176 v177 v178 v179 v180 v181 v182 v183 v184 v185 v186 v187 v188 v189 v190 v191 v192 v193 v194 v195 v196 v197 v198 v199 v200 v201 v202 v203 v204 v205 v206 v207 v208 v209 v210 v211 v212 v213 v214 : Value) (h : Bat w W T 0 np p d cc q f0 none 0 none 0 en0 lo0) (hTn : T = n + 1) (hn1 : 1 ≤ n) (hn : n ≤ 20)
    (hw : Li .u8 w aw n cw bw ow zs) (hq : q = zs.map (fun x => Int.tmod x 3 + 1)) (hzb : ∀ x ∈ zs, 0 ≤ x ∧ x < 256) :
    Code.wp Tryz.prog (btT 10) (bodyPost Tryz.prog Tryz.f7 (Ret (.bool true) (fun w' => Frm [] w w'))) ⟨List.toArray (.slice aw n cw :: v1 :: v2 :: v3 :: .pointer (some ⟨np, 0, none⟩) :: v5 :: .pointer (some ⟨p, 0, none⟩) :: v7 :: .slice none 0 0 :: .slice none 0 0 :: v10 :: v11 :: v12 :: v13 :: v14 :: v15 :: v16 :: v17 :: v18 :: v19 :: v20 :: v21 :: v22 :: v23 :: v24 :: v25 :: v26 :: v27 :: v28 :: v29 :: v30 :: v31 :: v32 :: v33 :: v34 :: v35 :: v36 :: v37 :: v38 :: v39 :: v40 :: v41 :: v42 :: v43 :: v44 :: v45 :: v46 :: v47 :: v48 :: v49 :: v50 :: v51 :: v52 :: v53 :: v54 :: v55 :: v56 :: v57 :: v58 :: v59 :: v60 :: v61 :: v62 :: v63 :: v64 :: v65 :: v66 :: v67 :: v68 :: v69 :: v70 :: v71 :: v72 :: v73 :: v74 :: v75 :: v76 :: v77 :: v78 :: v79 :: v80 :: v81 :: v82 :: v83 :: v84 :: v85 :: v86 :: v87 :: v88 :: v89 :: v90 :: v91 :: v92 :: v93 :: v94 :: v95 :: v96 :: v97 :: v98 :: v99 :: v100 :: v101 :: v102 :: v103 :: v104 :: v105 :: v106 :: v107 :: v108 :: v109 :: v110 :: v111 :: v112 :: v113 :: v114 :: v115 :: v116 :: v117 :: v118 :: v119 :: v120 :: v121 :: v122 :: v123 :: v124 :: v125 :: v126 :: v127 :: v128 :: v129 :: v130 :: v131 :: v132 :: v133 :: v134 :: v135 :: v136 :: v137 :: v138 :: v139 :: v140 :: v141 :: v142 :: v143 :: v144 :: v145 :: v146 :: v147 :: v148 :: v149 :: v150 :: v151 :: v152 :: v153 :: v154 :: v155 :: v156 :: v157 :: v158 :: v159 :: v160 :: v161 :: v162 :: v163 :: v164 :: v165 :: v166 :: v167 :: v168 :: v169 :: v170 :: v171 :: v172 :: v173 :: v174 :: v175 :: v176 :: v177 :: v178 :: v179 :: v180 :: v181 :: v182 :: v183 :: v184 :: v185 :: v186 :: v187 :: v188 :: v189 :: v190 :: v191 :: v192 :: v193 :: v194 :: v195 :: v196 :: v197 :: v198 :: v199 :: v200 :: v201 :: v202 :: v203 :: v204 :: v205 :: v206 :: v207 :: v208 :: v209 :: v210 :: v211 :: v212 :: v213 :: v214 :: []), []⟩ W := by
  have HB := Lib.hid h
  have HW := Lib.hid hw
  have HQ := Lib.hid hq
  have HZ := Lib.hid hzb
  clear h hw hq hzb
  conv => arg 2; whnf
  refine wp_seq_k ?_
  intro K0 hK0
  have HK0 := Lib.hid hK0
  clear hK0
  go_wp2_with fail
  go_loopw [8, 9, 76] (fun s8 s9 i wr => ∃ (k : Nat) (f : Nat → Int) (a1 : Option Addr) (c1 : Nat) (a2 : Option Addr) (c2 : Nat) (en : Nat → Pm) (lo : Nat → Nat), k ≤ n ∧ s8 = .slice a1 k c1 ∧ s9 = .slice a2 k c2 ∧ i = .int .i64 (k : Int) ∧ Hid (Bat w wr T k np p d cc q f a1 c1 a2 c2 en lo)) (fun _ _ i _ => n - (intOf i).toNat)
  case atStart => exact ⟨0, f0, none, 0, none, 0, en0, lo0, Nat.zero_le _, rfl, rfl, rfl, HB⟩
  case round =>
    clear HB
    obtain ⟨k, f, a1, c1, a2, c2, en, lo, hk, rfl, rfl, rfl, HB⟩ := hrel
    by_cases hlt : k < n
    · obtain ⟨x, hx, _, cx⟩ := (HW.out.frm0 HB.out.frm).get hlt
      obtain ⟨x0, x1⟩ := HZ.out x (List.mem_of_getElem? hx)
      obtain ⟨rn, hrn⟩ := Int.eq_ofNat_of_zero_le (show 0 ≤ Int.tmod x 3 by rw [Int.tmod_eq_emod_of_nonneg x0]; omega)
      have hrn3 : rn < 3 := by rw [Int.tmod_eq_emod_of_nonneg x0] at hrn; omega
      have hqk : q[k]? = some ((rn : Int) + 1) := by rw [HQ.out, List.getElem?_map, hx]; simp [hrn]
      have i1 := fun W => ix_u8 (c := cw) HW.out.ad hlt W
      have bl1 := World.block_lt_of_cell? wr _ cx
      have hlts := HB.out.s.lt
      have HQK := Lib.hid hqk
      clear hx hqk
      go_wp2_with fail
      have hel : ([Value.int .i64 1, Value.int .i64 2, Value.int .i64 3][rn]'(by simpa using hrn3)) = .int .i64 ((rn : Int) + 1) := by
        match rn, hrn3 with
        | 0, _ => rfl
        | 1, _ => rfl
        | 2, _ => rfl
      simp only [hel]
      obtain ⟨u, hu⟩ : ∃ u : Int, u = (rn : Int) + 1 := ⟨_, rfl⟩
      have hu3 : u = 1 ∨ u = 2 ∨ u = 3 := by omega
      rw [← hu] at HQK ⊢
      clear hel hrn hrn3 hu x0 x1
      have hfV : Frm [] wr (wr.alloc (.cells #[.int .i64 1, .int .i64 2, .int .i64 3] 54)) := (Frm.refl _ _).alloc _
      obtain ⟨V, hV⟩ : ∃ V, V = wr.alloc (.cells #[.int .i64 1, .int .i64 2, .int .i64 3] 54) := ⟨_, rfl⟩
      rw [← hV] at hfV ⊢
      clear hV
      have HBV := Lib.hid (HB.out.frm0 hfV)
      have hT64 := HB.out.s.nd.t64
      have hng := newGet HBV.out.s.nd (k + 1) (by omega) u hu3
      rw [show (((k + 1 : Nat)) : Int) = (k : Int) + 1 by omega] at hng
      have HNG := Lib.hid hng
      clear hng
      refine HNG.out.mono ?_
      rintro e w1 ⟨q9, qe, ql, rfl, hF1, hMv, hPe, hPl, hq, hqe, hql⟩
      have hrun := HBV.out.s.run (k := 0) (md := u) (show k + 1 < T by omega) (by decide) (fun _ => hu3) hF1 hMv hPe hPl hq hqe hql
      obtain ⟨c13, hc13, hpk⟩ := park_run (T := T) (L := 3 + 6 * T) (t := k + 1) (f := f) (s := sQ k) (md := u) hT64 rfl (by omega) (sQ_may (by omega) hT64) HB.out.pb.z0 HB.out.pb.z1 HB.out.pb.z2 (sQ_of (by omega)) sQ_go
      obtain ⟨g9, hE⟩ := hpk (29 - c13)
      rw [show c13 + (29 - c13 + 1) = 30 by omega] at hE
      have HWA := Lib.hid (waits_any hrun (by decide) hE)
      have HF1 := Lib.hid hF1
      have HG3 := Lib.hid (And.intro hq (And.intro hqe hql))
      have HVF := Lib.hid hfV
      have hV1 := hF1.size
      clear hF1 hMv hPe hPl hrun hE hpk hc13 hq hqe hql hfV cx i1 bl1
      go_wp2_with fail
      refine HWA.out.mono ?_
      rintro e w2 ⟨rfl, hR2⟩
      obtain ⟨a9, n9, c9, hA9, hx9⟩ := hR2.ex
      have hAft := HBV.out.s.after HF1.out hR2 HG3.out.1 HG3.out.2.1 HG3.out.2.2 (by rw [rng_len, rng_len])
      obtain ⟨pm, hpm⟩ : ∃ pm : Pm, pm = ⟨q9, qe, ql, a9, n9, c9, pM (k + 1) u (sQ k).sh 14 (prk (sQ k) (k + 1)).w1 (prk (sQ k) (k + 1)) true, g9⟩ := ⟨_, rfl⟩
      have hPk : PkE T w.heap.size V.heap.size w2 pm := by
        rw [hpm]
        refine ⟨hA9.mv, hA9.wk, hA9.en, hA9.le, hR2.ok, ?_, by show ([] : List Int).length ≤ 100; decide⟩
        have k1 := HG3.out.1
        have k2 := HG3.out.2.1
        have k3 := HG3.out.2.2
        intro z hz
        simp only [List.mem_cons] at hz
        rcases hz with rfl | rfl | rfl | hz
        · exact k1
        · exact k2
        · exact k3
        · rcases hx9 z hz with h | h
          · cases h
          · omega
      have hpq : pmV pm = [.pointer (some ⟨q9, 0, none⟩)] := by rw [hpm]; rfl
      have HPM := Lib.hid (show pm.m.nx = 14 ∧ pm.m.t = k + 1 by rw [hpm]; exact ⟨rfl, rfl⟩)
      have HAF := Lib.hid hAft
      have HPK := Lib.hid hPk
      have HPQ := Lib.hid hpq
      have hrows := HBV.out.rows hAft.1
      have HRO := Lib.hid hrows.2.1
      have HGR := Lib.hid hrows.2.2.1
      have hlk2 : lo 0 ≤ w2.heap.size := by have := HBV.out.mo 0 k (Nat.zero_le _); have := HBV.out.lk; have := hAft.1.size; omega
      clear hR2 hA9 hx9 hAft hPk hpm hpq hrows
      have hlenq : (q.take k).length ≤ 20 := by simp; omega
      have HRA : Hid (∀ o, Row .i64 54 (lo 0) (w2.alloc o) a1 k c1 (q.take k)) := Lib.hid fun o => HRO.out.frm ((Frm.refl [] _).alloc _) (by simp)
      have hl1 : ∀ o, lo 0 ≤ (w2.alloc o).heap.size := fun o => Nat.le_trans hlk2 (by simp)
      have hln : (q.take k).length + 1 ≤ 10000000 := by omega
      have HGA : Hid (∀ o w3, Frm (blk (.slice a1 k c1)) (w2.alloc o) w3 → (∀ o2, Gr 52 1 (lo 0) (w3.alloc o2) a2 k c2 (fun i => pmV (en i))) ∧ ∀ o2, lo 0 ≤ (w3.alloc o2).heap.size) := Lib.hid fun o w3 hf => by
        have hg : Gr 52 1 (lo 0) (w2.alloc o) a2 k c2 (fun i => pmV (en i)) := HGR.out.frm0 ((Frm.refl [] _).alloc _)
        refine ⟨fun o2 => (hg.frm hf (fun y hy hd => ?_)).frm0 ((Frm.refl [] _).alloc _), fun o2 => ?_⟩
        · obtain ⟨cs, hc⟩ := row_bty (HRA.out o) y hd
          obtain ⟨cs2, hc2⟩ := gr_bty hg y hy
          have := hc.symm.trans hc2; simp at this
        · have h1 := hl1 o
          have h2 := hf.size
          have h3 : w3.heap.size ≤ (w3.alloc o2).heap.size := by simp
          omega
      have hoc : ∀ v ∈ pmV pm, v.oneCell' = true := by rw [HPQ.out]; intro v hv; simp at hv; subst hv; rfl
      have hpl : (pmV pm).length = 1 := rfl
      have hcl : ∀ W : World, (W.alloc (.cells #[.pointer (some ⟨q9, 0, none⟩)] 52)).heap[W.heap.size]? = some (.cells (pmV pm).toArray 52 (0, 0)) := fun W => by rw [HPQ.out]; exact heap_alloc_new _ _
      have hk6 : k ≤ 1000000 := by omega
      go_wp2_with (first
        | (at_builtin; refine wpl_appM rfl (.tmp 107) (.tmp 109) rfl (B := lo 0) (a := a1) (n := k) (c := c1) (m := 1) (l := q.take k) (l2 := [u]) (by simp [Act.eval]) (by simp [Act.eval]) (HRA.out _) (li_new rfl (heap_alloc_new _ _)) hln (hl1 _) ?_; intro a1' c1' w3 hR3 hF3; obtain ⟨hga, hgl⟩ := HGA.out _ _ hF3; have HR3 := Lib.hid hR3; have HF3 := Lib.hid hF3; clear hR3 hF3)
        | (at_builtin; refine wpl_gr Tryz.underlying50 info_mvp (by decide) (by decide) (by decide) rfl (.tmp 111) (.tmp 113) rfl (B := lo 0) (l := pmV pm) (by simp [Act.eval]) (by simp [Act.eval]) (hga _) hpl hoc (hcl _) hk6 (hgl _) ?_; intro a2' c2' w4 hG4 hF4 hb4; have HG4 := Lib.hid hG4; have HF4 := Lib.hid hF4; clear hG4 hF4 hb4))
      obtain ⟨en', lo', hB'⟩ := HB.out.next HQK.out HVF.out HAF.out.1 HAF.out.2 (HB.out.pb.next HQK.out) HPK.out HPM.out ((Frm.refl _ _).alloc _) HF3.out HR3.out ((Frm.refl _ _).alloc _) HF4.out HG4.out
      have HB' := Lib.hid hB'
      clear hB'
      go_roundw
      case rel => exact ⟨k + 1, _, a1', c1', a2', c2', en', lo', by omega, rfl, rfl, by go_num, HB'⟩
      case measure => simp [intOf]; omega
    · obtain rfl : k = n := by omega
      go_wp2_with fail
      refine HK0.out _ _ ?_
      exact btA2 _ _ _ _ _ _ _ _ _ _ _ _ _ _ _ _ _ _ _ _ _ _ _ _ _ _ _ _ _ _ _ _ _ _ _ _ _ _ _ _ _ _ _ _ _ _ _ _ _ _ _ _ _ _ _ _ _ _ _ _ _ _ _ _ _ _ _ _ _ _ _ _ _ _ _ _ _ _ _ _ _ _ _ _ _ _ _ _ _ _ _ _ _ _ _ _ _ _ _ _ _ _ _ _ _ _ _ _ _ _ _ _ _ _ _ _ _ _ _ _ _ _ _ _ _ _ _ _ _ _ _ _ _ _ _ _ _ _ _ _ _ _ _ _ _ _ _ _ _ _ _ _ _ _ _ _ _ _ _ _ _ _ _ _ _ _ _ _ _ _ _ _ _ _ _ _ _ _ _ _ _ _ _ _ _ _ _ _ _ _ _ _ _ _ _ _ _ _ _ _ _ _ _ _ _ _ _ _ _ _ HB.out hTn hn1 hn (by rw [HQ.out, List.length_map]; exact HW.out.len) (by
        rw [HQ.out]
        intro u hu
        obtain ⟨x, hx, rfl⟩ := List.mem_map.1 hu
        obtain ⟨x0, x1⟩ := HZ.out x hx
        rw [Int.tmod_eq_emod_of_nonneg x0]
        omega)
end Go.Proofs.YtjhidkjhfgbaeaaGreatDoor
