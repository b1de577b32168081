/- VersionPlays: the ways of a round: a round (by gen_vpn.py). -/
import Derived.Test.YtbhnijkphkkalaaVpQ
import Derived.Test.YtbhnijkphkkalaaVpR
import Derived.Test.YtbhnijkphkkalaaVpS
import Derived.Test.YtbhnijkphkkalaaVpN
import Derived.Deep.CutBlock
import Derived.Deep.DeepCutAuto
import Derived.IntWalk
namespace Go.Proofs.Ytbhnijkphkkalaa
open Go.ChangeShapes Go.WideShapes Go.ChangeAt Go.RowKit
set_option linter.unusedVariables false
set_option linter.unusedSimpArgs false

theorem idx_of (x : Int) {m : Nat} (hm : 0 < m) (hm2 : m ≤ 1000) : ∃ i : Nat, i < m ∧ wrap64 ((IntKind.u64.wrap x).tmod (m : Int)) = (i : Int) := by
  rw [IntKind.wrap_u64]
  generalize hy : x % 18446744073709551616 = y
  have h0 : 0 ≤ y := by omega
  clear hy
  obtain ⟨z, rfl⟩ := Int.eq_ofNat_of_zero_le h0
  refine ⟨z % m, Nat.mod_lt _ hm, ?_⟩
  have hl := Nat.mod_lt z hm
  rw [Int.tmod_eq_emod_of_nonneg h0, show ((z : Int) % (m : Int)) = ((z % m : Nat) : Int) by push_cast; rfl]
  exact IntWalk.wrap64_in _ (by omega)
theorem re_r (L : Nat) (F : Int) (la : Option Addr) (ln lc : Nat) (many tries : Int) (h0 : 0 ≤ many) : Re ⟨true, L, F, List.replicate many.toNat 0, 0, 1, 0, 0, tries⟩ (R0 false L F la ln lc many tries) [] :=
  ⟨rfl, rfl, rfl, (fun h => by cases h), (fun _ => by show many = ((List.replicate many.toNat (0 : Int)).length : Int); rw [List.length_replicate]; omega), fun _ => rfl, rfl, rfl, rfl, rfl, (fun h => by cases h), (fun _ _ => .inl ⟨rfl, rfl, rfl, rfl⟩), (fun _ h => absurd h (by show (1 : Int) ≠ 5; omega))⟩
theorem re_w (L : Nat) (F : Int) (la : Option Addr) (ln lc : Nat) (many tries : Int) (l : List Int) (h : l.length = ln) : Re ⟨false, L, F, l, 0, 1, 0, 0, 0⟩ (R0 true L F la ln lc many tries) [] :=
  ⟨rfl, rfl, rfl, (fun _ => h.symm), (fun h => by cases h), (fun h => by cases h), rfl, rfl, rfl, rfl, (fun _ _ => .inl ⟨rfl, rfl⟩), (fun h => by cases h), (fun h => by cases h)⟩
theorem i64_le {x : Int} (h : (Lit.int .i64 x).wf = true) : x ≤ 9223372036854775807 := by
  simp only [Lit.wf, Bool.and_eq_true, decide_eq_true_eq] at h
  have hmax : IntKind.i64.max = 9223372036854775807 := rfl
  omega
theorem u64_nn {x : Int} (h : (Lit.int .u64 x).wf = true) : 0 ≤ x := by
  simp only [Lit.wf, Bool.and_eq_true, decide_eq_true_eq] at h
  have hmin : IntKind.u64.min = 0 := rfl
  omega
section
variable {own : Nat → Nat} {p d c g oo cg nl : Nat} {ws : List Int} {a1 a2 : Option Addr} {c1 c2 m : Nat} {en : Nat → En}
set_option maxRecDepth 100000 in
set_option maxHeartbeats 2000000 in
theorem any_round {w0 W : World} {x0 x1 x2 x3 x4 : Int} {la : Option Addr} {ln lc b3 o3 n3 c3 k : Nat} {Q : Exit → Act → World → Prop} (v1 v2 v3 v4 v8 v9 v10 v11 v12 v13 v14 v15 v16 v17 v18 v19 v20 v21 v22 v23 v24 v25 v26 v27 v28 v29 v30 v31 v32 v33 v34 v35 v36 v37 v38 v39 v40 v41 v43 v45 v46 v47 v48 v49 v50 v51 v52 v53 v54 v55 v56 v57 v58 v59 v60 v61 v62 v63 v64 v65 v66 v67 v68 v69 v70 v71 v72 v73 v74 v75 v76 v77 v78 v79 v80 v81 v82 v83 v84 v85 v86 v87 v88 v89 v90 v91 v92 v93 v94 v95 v96 v97 v98 v99 v100 v101 v102 v103 v104 v105 v106 v107 v108 v109 v110 v111 v112 v113 v114 v115 v116 v117 v118 v119 v120 v121 v122 v123 v124 v125 v126 v127 v128 v129 v130 v131 v132 v133 v134 v135 v136 v137 v138 v139 v140 v141 v142 v143 v144 v145 v146 v147 v148 v149 v150 v151 v152 v153 v154 v155 v156 v157 v158 v159 v160 v161 v162 v163 v164 v165 v166 v167 v168 v169 v170 v171 v172 v173 v174 v175 v176 : Value)
    (hG : Gs w0 W own p d c g oo cg nl ws a1 c1 a2 c2 m en) (n0 : 0 < nl) (hnl : nl ≤ 65536) (hm : m ≤ k) (hk : k < n3) (hn3 : n3 ≤ 80)
    (hc0 : W.cell? ⟨b3, o3 + k * 6, none⟩ = some (.int .i64 x0)) (hc1 : W.cell? ⟨b3, o3 + k * 6 + 1, none⟩ = some (.int .i64 x1)) (hc2 : W.cell? ⟨b3, o3 + k * 6 + 2, none⟩ = some (.int .i64 x2)) (hc3 : W.cell? ⟨b3, o3 + k * 6 + 3, none⟩ = some (.int .i64 x3)) (hc4 : W.cell? ⟨b3, o3 + k * 6 + 4, none⟩ = some (.int .i64 x4)) (hc5 : W.cell? ⟨b3, o3 + k * 6 + 5, none⟩ = some (.slice la ln lc))
    (hln : ln ≤ 10) (hx4 : x4 ≤ 9223372036854775807) {l : List Int} {lb lo : Nat} (hL : Li .u64 w0 la ln lc lb lo l) (hlw : ∀ y ∈ l, 0 ≤ y)
    (hQ : ∀ (u9 u10 u11 u12 u13 u14 u15 u16 u17 u18 u19 u20 u21 u22 u23 u46 u47 u48 u49 u50 u51 u52 u53 u54 u55 u56 u57 u58 u59 u60 u61 u62 u63 u64 u65 u66 u67 u68 u69 u70 u71 u72 u73 u74 u75 u76 u77 u78 u79 u80 u81 u82 u83 u84 u85 u86 u87 u88 u89 u90 u91 u92 u93 u94 u95 u96 u97 u98 u99 u100 u101 u102 u103 u104 u105 u106 u107 u108 u109 u110 u111 u112 u113 u114 u115 u116 u117 u118 u119 u120 u121 u122 u123 u124 u125 u126 u127 u128 u129 u130 u131 u132 u133 u134 u135 u136 u137 u138 u139 u140 u141 u142 u143 u144 u145 u146 u147 u148 u149 u150 u151 u152 u153 u154 u155 u156 u157 u158 u159 u160 u161 u162 u163 u164 u165 u166 u167 u168 u169 u170 u171 u172 u173 u174 : Value) (g' oo' cg' : Nat) (a1' : Option Addr) (c1' : Nat) (a2' : Option Addr) (c2' m' : Nat) (w' : World), m' ≤ k + 1 → Rq w0 p d c g' oo' cg' nl a1' c1' a2' c2' m' w' →
      Q (.exit 1) ⟨List.toArray (.slice (some ⟨g', oo', none⟩) nl cg' :: v1 :: v2 :: v3 :: v4 :: .pointer (some ⟨p, 0, none⟩) :: .slice a1' m' c1' :: .slice a2' m' c2' :: v8 :: u9 :: u10 :: u11 :: u12 :: u13 :: u14 :: u15 :: u16 :: u17 :: u18 :: u19 :: u20 :: u21 :: u22 :: u23 :: v24 :: v25 :: v26 :: v27 :: v28 :: v29 :: v30 :: v31 :: v32 :: v33 :: v34 :: v35 :: v36 :: v37 :: v38 :: v39 :: v40 :: v41 :: .slice (some ⟨b3, o3, none⟩) n3 c3 :: v43 :: .int .i64 (k : Int) :: v45 :: u46 :: u47 :: u48 :: u49 :: u50 :: u51 :: u52 :: u53 :: u54 :: u55 :: u56 :: u57 :: u58 :: u59 :: u60 :: u61 :: u62 :: u63 :: u64 :: u65 :: u66 :: u67 :: u68 :: u69 :: u70 :: u71 :: u72 :: u73 :: u74 :: u75 :: u76 :: u77 :: u78 :: u79 :: u80 :: u81 :: u82 :: u83 :: u84 :: u85 :: u86 :: u87 :: u88 :: u89 :: u90 :: u91 :: u92 :: u93 :: u94 :: u95 :: u96 :: u97 :: u98 :: u99 :: u100 :: u101 :: u102 :: u103 :: u104 :: u105 :: u106 :: u107 :: u108 :: u109 :: u110 :: u111 :: u112 :: u113 :: u114 :: u115 :: u116 :: u117 :: u118 :: u119 :: u120 :: u121 :: u122 :: u123 :: u124 :: u125 :: u126 :: u127 :: u128 :: u129 :: u130 :: u131 :: u132 :: u133 :: u134 :: u135 :: u136 :: u137 :: u138 :: u139 :: u140 :: u141 :: u142 :: u143 :: u144 :: u145 :: u146 :: u147 :: u148 :: u149 :: u150 :: u151 :: u152 :: u153 :: u154 :: u155 :: u156 :: u157 :: u158 :: u159 :: u160 :: u161 :: u162 :: u163 :: u164 :: u165 :: u166 :: u167 :: u168 :: u169 :: u170 :: u171 :: u172 :: u173 :: u174 :: v175 :: v176 :: []), []⟩ w' ∧ Q .normal ⟨List.toArray (.slice (some ⟨g', oo', none⟩) nl cg' :: v1 :: v2 :: v3 :: v4 :: .pointer (some ⟨p, 0, none⟩) :: .slice a1' m' c1' :: .slice a2' m' c2' :: v8 :: u9 :: u10 :: u11 :: u12 :: u13 :: u14 :: u15 :: u16 :: u17 :: u18 :: u19 :: u20 :: u21 :: u22 :: u23 :: v24 :: v25 :: v26 :: v27 :: v28 :: v29 :: v30 :: v31 :: v32 :: v33 :: v34 :: v35 :: v36 :: v37 :: v38 :: v39 :: v40 :: v41 :: .slice (some ⟨b3, o3, none⟩) n3 c3 :: v43 :: .int .i64 (k : Int) :: v45 :: u46 :: u47 :: u48 :: u49 :: u50 :: u51 :: u52 :: u53 :: u54 :: u55 :: u56 :: u57 :: u58 :: u59 :: u60 :: u61 :: u62 :: u63 :: u64 :: u65 :: u66 :: u67 :: u68 :: u69 :: u70 :: u71 :: u72 :: u73 :: u74 :: u75 :: u76 :: u77 :: u78 :: u79 :: u80 :: u81 :: u82 :: u83 :: u84 :: u85 :: u86 :: u87 :: u88 :: u89 :: u90 :: u91 :: u92 :: u93 :: u94 :: u95 :: u96 :: u97 :: u98 :: u99 :: u100 :: u101 :: u102 :: u103 :: u104 :: u105 :: u106 :: u107 :: u108 :: u109 :: u110 :: u111 :: u112 :: u113 :: u114 :: u115 :: u116 :: u117 :: u118 :: u119 :: u120 :: u121 :: u122 :: u123 :: u124 :: u125 :: u126 :: u127 :: u128 :: u129 :: u130 :: u131 :: u132 :: u133 :: u134 :: u135 :: u136 :: u137 :: u138 :: u139 :: u140 :: u141 :: u142 :: u143 :: u144 :: u145 :: u146 :: u147 :: u148 :: u149 :: u150 :: u151 :: u152 :: u153 :: u154 :: u155 :: u156 :: u157 :: u158 :: u159 :: u160 :: u161 :: u162 :: u163 :: u164 :: u165 :: u166 :: u167 :: u168 :: u169 :: u170 :: u171 :: u172 :: u173 :: u174 :: v175 :: v176 :: []), []⟩ w') :
    Code.wp Try.prog (pieceA 10) Q ⟨List.toArray (.slice (some ⟨g, oo, none⟩) nl cg :: v1 :: v2 :: v3 :: v4 :: .pointer (some ⟨p, 0, none⟩) :: .slice a1 m c1 :: .slice a2 m c2 :: v8 :: v9 :: v10 :: v11 :: v12 :: v13 :: v14 :: v15 :: v16 :: v17 :: v18 :: v19 :: v20 :: v21 :: v22 :: v23 :: v24 :: v25 :: v26 :: v27 :: v28 :: v29 :: v30 :: v31 :: v32 :: v33 :: v34 :: v35 :: v36 :: v37 :: v38 :: v39 :: v40 :: v41 :: .slice (some ⟨b3, o3, none⟩) n3 c3 :: v43 :: .int .i64 (k : Int) :: v45 :: v46 :: v47 :: v48 :: v49 :: v50 :: v51 :: v52 :: v53 :: v54 :: v55 :: v56 :: v57 :: v58 :: v59 :: v60 :: v61 :: v62 :: v63 :: v64 :: v65 :: v66 :: v67 :: v68 :: v69 :: v70 :: v71 :: v72 :: v73 :: v74 :: v75 :: v76 :: v77 :: v78 :: v79 :: v80 :: v81 :: v82 :: v83 :: v84 :: v85 :: v86 :: v87 :: v88 :: v89 :: v90 :: v91 :: v92 :: v93 :: v94 :: v95 :: v96 :: v97 :: v98 :: v99 :: v100 :: v101 :: v102 :: v103 :: v104 :: v105 :: v106 :: v107 :: v108 :: v109 :: v110 :: v111 :: v112 :: v113 :: v114 :: v115 :: v116 :: v117 :: v118 :: v119 :: v120 :: v121 :: v122 :: v123 :: v124 :: v125 :: v126 :: v127 :: v128 :: v129 :: v130 :: v131 :: v132 :: v133 :: v134 :: v135 :: v136 :: v137 :: v138 :: v139 :: v140 :: v141 :: v142 :: v143 :: v144 :: v145 :: v146 :: v147 :: v148 :: v149 :: v150 :: v151 :: v152 :: v153 :: v154 :: v155 :: v156 :: v157 :: v158 :: v159 :: v160 :: v161 :: v162 :: v163 :: v164 :: v165 :: v166 :: v167 :: v168 :: v169 :: v170 :: v171 :: v172 :: v173 :: v174 :: v175 :: v176 :: []), []⟩ W := by
  have HG := Lib.hid (hG.quiet ((Frm.refl [] W).alloc (.cells #[.int .i64 x0, .int .i64 x1, .int .i64 x2, .int .i64 x3, .int .i64 x4, .slice la ln lc] 44)))
  have HA := Lib.hid (heap_alloc_new W (.cells #[.int .i64 x0, .int .i64 x1, .int .i64 x2, .int .i64 x3, .int .i64 x4, .slice la ln lc] 44))
  have HQ := Lib.hid hQ
  have HL := Lib.hid hL
  have HLW := Lib.hid hlw
  have hkn : (k : Int) < (n3 : Int) := by omega
  have hix : ∀ w, _ := ix_act (b := b3) (o := o3) (c := c3) hk
  clear hG hQ hL hlw
  conv => arg 2; whnf
  try dsimp only
  refine wp_seq_k ?_
  intro K1 hK1
  have HK1 := Lib.hid hK1
  clear hK1
  go_wp2
  refine HK1.out _ _ ?_
  clear HK1
  clear hc0 hc1 hc2 hc3 hc4 hc5 hix
  refine wp_seq_k ?_
  intro K2 hK2
  have HK2 := Lib.hid hK2
  clear hK2
  obtain ⟨W1, hW1⟩ : ∃ X, X = W.alloc (.cells #[.int .i64 x0, .int .i64 x1, .int .i64 x2, .int .i64 x3, .int .i64 x4, .slice la ln lc] 44) := ⟨_, rfl⟩
  rw [← hW1] at HG HA ⊢
  generalize W.heap.size = ba at *
  clear hW1
  obtain ⟨p0, p1, p2, p3, p4, p5⟩ := cells6 HA.out
  by_cases h0 : x0 = 0
  · subst h0
    go_upto_if 55 with fail
    refine wp_cond_true rfl ?_
    clear p0 p1 p2 p3 p4 p5
    by_cases hr : rOk x1 x2 x3
    · obtain ⟨L, rfl⟩ := Int.eq_ofNat_of_zero_le hr.1
      by_cases ht : 1 ≤ x4
      · refine any_new _ _ _ _ _ _ _ _ _ _ _ _ _ _ _ _ _ _ _ _ _ _ _ _ _ _ _ _ _ _ _ _ _ _ _ _ _ _ _ _ _ _ _ _ _ _ _ _ _ _ _ _ _ _ _ _ _ _ _ _ _ _ _ _ _ _ _ _ _ _ _ _ _ _ _ _ _ _ _ _ _ _ _ _ _ _ _ _ _ _ _ _ _ _ _ _ _ _ _ _ _ _ _ _ _ _ _ _ _ _ _ _ _ _ _ _ _ _ _ _ _ _ _ _ _ _ _ _ _ _ _ _ _ _ _ _ _ _ _ _ _ _ _ _ _ _ _ _ _ _ _ _ _ _ _ _ _ _ _ _ _ _ _ _ _ _ _ _ _ _ _ _ _ _ HG.out HA.out (P := ⟨true, L, x2, List.replicate x3.toNat 0, 0, 1, 0, 0, x4⟩) (Rv := R0 false L x2 la ln lc x3 x4) (fun w' hf => (begin_r_yes 0 rfl L hr ht).mono fun _ _ hh => by obtain ⟨q, b, hh⟩ := hh; exact ⟨q, b, _, hh⟩) (Ok.new _ _ _ _ _ (fun _ => ⟨ht, hx4⟩)) (rep0 _) (fun h => by cases h) (re_r L x2 la ln lc x3 x4 hr.2.2.1) (fun h => by cases h) ⟨rfl, rfl, rfl⟩ (by omega) ?_
        intro _ _ _ _ _ _ _ _ _ _ _ _ _ _ _ _ _ _ _ _ _ a1' c1' a2' c2' w' hR
        exact (HQ.out _ _ _ _ _ _ _ _ _ _ _ _ _ _ _ _ _ _ _ _ _ _ _ _ _ _ _ _ _ _ _ _ _ _ _ _ _ _ _ _ _ _ _ _ _ _ _ _ _ _ _ _ _ _ _ _ _ _ _ _ _ _ _ _ _ _ _ _ _ _ _ _ _ _ _ _ _ _ _ _ _ _ _ _ _ _ _ _ _ _ _ _ _ _ _ _ _ _ _ _ _ _ _ _ _ _ _ _ _ _ _ _ _ _ _ _ _ _ _ _ _ _ _ _ _ _ _ _ _ _ _ _ _ _ _ _ _ _ _ _ _ _ _ _ _ _ _ _ _ _ _ _ _ (by omega) hR).1
      · refine any_not _ _ _ _ _ _ _ _ _ _ _ _ _ _ _ _ _ _ _ _ _ _ _ _ _ _ _ _ _ _ _ _ _ _ _ _ _ _ _ _ _ _ _ _ _ _ _ _ _ _ _ _ _ _ _ _ _ _ _ _ _ _ _ _ _ _ _ _ _ _ _ _ _ _ _ _ _ _ _ _ _ _ _ _ _ _ _ _ _ _ _ _ _ _ _ _ _ _ _ _ _ _ _ _ _ _ _ _ _ _ _ _ _ _ _ _ _ _ _ _ _ _ _ _ _ _ _ _ _ _ _ _ _ _ _ _ _ _ _ _ _ _ _ _ _ _ _ _ _ _ _ _ _ _ _ _ _ _ _ _ _ _ _ _ _ _ _ _ _ _ _ _ _ _ _ _ HG.out HA.out (Rv := R0 false L x2 la ln lc x3 x4) (fun w' hf => begin_r_no2 0 rfl L hr (by omega)) ?_
        intro _ _ _ _ _ _ _ _ _ _ _ _ _ w' hR
        exact (HQ.out _ _ _ _ _ _ _ _ _ _ _ _ _ _ _ _ _ _ _ _ _ _ _ _ _ _ _ _ _ _ _ _ _ _ _ _ _ _ _ _ _ _ _ _ _ _ _ _ _ _ _ _ _ _ _ _ _ _ _ _ _ _ _ _ _ _ _ _ _ _ _ _ _ _ _ _ _ _ _ _ _ _ _ _ _ _ _ _ _ _ _ _ _ _ _ _ _ _ _ _ _ _ _ _ _ _ _ _ _ _ _ _ _ _ _ _ _ _ _ _ _ _ _ _ _ _ _ _ _ _ _ _ _ _ _ _ _ _ _ _ _ _ _ _ _ _ _ _ _ _ _ _ _ (by omega) hR).1
    · refine any_not _ _ _ _ _ _ _ _ _ _ _ _ _ _ _ _ _ _ _ _ _ _ _ _ _ _ _ _ _ _ _ _ _ _ _ _ _ _ _ _ _ _ _ _ _ _ _ _ _ _ _ _ _ _ _ _ _ _ _ _ _ _ _ _ _ _ _ _ _ _ _ _ _ _ _ _ _ _ _ _ _ _ _ _ _ _ _ _ _ _ _ _ _ _ _ _ _ _ _ _ _ _ _ _ _ _ _ _ _ _ _ _ _ _ _ _ _ _ _ _ _ _ _ _ _ _ _ _ _ _ _ _ _ _ _ _ _ _ _ _ _ _ _ _ _ _ _ _ _ _ _ _ _ _ _ _ _ _ _ _ _ _ _ _ _ _ _ _ _ _ _ _ _ _ _ _ HG.out HA.out (Rv := R0 false x1 x2 la ln lc x3 x4) (fun w' hf => begin_r_no1 0 rfl x1 hr) ?_
      intro _ _ _ _ _ _ _ _ _ _ _ _ _ w' hR
      exact (HQ.out _ _ _ _ _ _ _ _ _ _ _ _ _ _ _ _ _ _ _ _ _ _ _ _ _ _ _ _ _ _ _ _ _ _ _ _ _ _ _ _ _ _ _ _ _ _ _ _ _ _ _ _ _ _ _ _ _ _ _ _ _ _ _ _ _ _ _ _ _ _ _ _ _ _ _ _ _ _ _ _ _ _ _ _ _ _ _ _ _ _ _ _ _ _ _ _ _ _ _ _ _ _ _ _ _ _ _ _ _ _ _ _ _ _ _ _ _ _ _ _ _ _ _ _ _ _ _ _ _ _ _ _ _ _ _ _ _ _ _ _ _ _ _ _ _ _ _ _ _ _ _ _ _ (by omega) hR).1
  by_cases h1 : x0 = 1
  · subst h1
    go_upto_if 55 with fail
    refine wp_cond_true rfl ?_
    clear p0 p1 p2 p3 p4 p5
    have hLW := HL.out.frm0 HG.out.frm
    by_cases hr : rOk x1 x2 ln
    · obtain ⟨L, rfl⟩ := Int.eq_ofNat_of_zero_le hr.1
      refine any_new _ _ _ _ _ _ _ _ _ _ _ _ _ _ _ _ _ _ _ _ _ _ _ _ _ _ _ _ _ _ _ _ _ _ _ _ _ _ _ _ _ _ _ _ _ _ _ _ _ _ _ _ _ _ _ _ _ _ _ _ _ _ _ _ _ _ _ _ _ _ _ _ _ _ _ _ _ _ _ _ _ _ _ _ _ _ _ _ _ _ _ _ _ _ _ _ _ _ _ _ _ _ _ _ _ _ _ _ _ _ _ _ _ _ _ _ _ _ _ _ _ _ _ _ _ _ _ _ _ _ _ _ _ _ _ _ _ _ _ _ _ _ _ _ _ _ _ _ _ _ _ _ _ _ _ _ _ _ _ _ _ _ _ _ _ _ _ _ _ _ _ _ _ _ HG.out HA.out (P := ⟨false, L, x2, l, 0, 1, 0, 0, 0⟩) (Rv := R0 true L x2 la ln lc x3 x4) (fun w' hf => (begin_w_yes L (hLW.frm0 hf) hln hr).mono fun _ _ hh => by obtain ⟨q, b, hh⟩ := hh; exact ⟨q, b, _, hh⟩) (Ok.new _ _ _ _ _ (fun h => by cases h)) HLW.out (fun _ _ => rfl) (re_w L x2 la ln lc x3 x4 l HL.out.len) (fun _ => ⟨lb, lo, hLW, fun hp => HG.out.old _ (HL.out.lt hp)⟩) ⟨rfl, rfl, rfl⟩ (by omega) ?_
      intro _ _ _ _ _ _ _ _ _ _ _ _ _ _ _ _ _ _ _ _ _ a1' c1' a2' c2' w' hR
      exact (HQ.out _ _ _ _ _ _ _ _ _ _ _ _ _ _ _ _ _ _ _ _ _ _ _ _ _ _ _ _ _ _ _ _ _ _ _ _ _ _ _ _ _ _ _ _ _ _ _ _ _ _ _ _ _ _ _ _ _ _ _ _ _ _ _ _ _ _ _ _ _ _ _ _ _ _ _ _ _ _ _ _ _ _ _ _ _ _ _ _ _ _ _ _ _ _ _ _ _ _ _ _ _ _ _ _ _ _ _ _ _ _ _ _ _ _ _ _ _ _ _ _ _ _ _ _ _ _ _ _ _ _ _ _ _ _ _ _ _ _ _ _ _ _ _ _ _ _ _ _ _ _ _ _ _ (by omega) hR).1
    · refine any_not _ _ _ _ _ _ _ _ _ _ _ _ _ _ _ _ _ _ _ _ _ _ _ _ _ _ _ _ _ _ _ _ _ _ _ _ _ _ _ _ _ _ _ _ _ _ _ _ _ _ _ _ _ _ _ _ _ _ _ _ _ _ _ _ _ _ _ _ _ _ _ _ _ _ _ _ _ _ _ _ _ _ _ _ _ _ _ _ _ _ _ _ _ _ _ _ _ _ _ _ _ _ _ _ _ _ _ _ _ _ _ _ _ _ _ _ _ _ _ _ _ _ _ _ _ _ _ _ _ _ _ _ _ _ _ _ _ _ _ _ _ _ _ _ _ _ _ _ _ _ _ _ _ _ _ _ _ _ _ _ _ _ _ _ _ _ _ _ _ _ _ _ _ _ _ _ HG.out HA.out (Rv := R0 true x1 x2 la ln lc x3 x4) (fun w' hf => begin_w_no x1 (hLW.frm0 hf) hln hr) ?_
      intro _ _ _ _ _ _ _ _ _ _ _ _ _ w' hR
      exact (HQ.out _ _ _ _ _ _ _ _ _ _ _ _ _ _ _ _ _ _ _ _ _ _ _ _ _ _ _ _ _ _ _ _ _ _ _ _ _ _ _ _ _ _ _ _ _ _ _ _ _ _ _ _ _ _ _ _ _ _ _ _ _ _ _ _ _ _ _ _ _ _ _ _ _ _ _ _ _ _ _ _ _ _ _ _ _ _ _ _ _ _ _ _ _ _ _ _ _ _ _ _ _ _ _ _ _ _ _ _ _ _ _ _ _ _ _ _ _ _ _ _ _ _ _ _ _ _ _ _ _ _ _ _ _ _ _ _ _ _ _ _ _ _ _ _ _ _ _ _ _ _ _ _ _ (by omega) hR).1
  have d0 : (x0 == 0) = false := by simp; omega
  have d1 : (x0 == 1) = false := by simp; omega
  go_upto_if 55 with fail
  refine wp_cond_false rfl ?_
  refine wp_skip ?_
  refine HK2.out _ _ ?_
  clear HK2 d0 d1 h0 h1
  refine wp_seq_k ?_
  intro K3 hK3
  have HK3 := Lib.hid hK3
  clear hK3
  by_cases hm0 : m = 0
  · have d0 : ((m : Int) == 0) = true := by simp; omega
    go_upto_if 76 with fail
    refine wp_cond_true rfl ?_
    refine wp_exit ?_
    exact (HQ.out _ _ _ _ _ _ _ _ _ _ _ _ _ _ _ _ _ _ _ _ _ _ _ _ _ _ _ _ _ _ _ _ _ _ _ _ _ _ _ _ _ _ _ _ _ _ _ _ _ _ _ _ _ _ _ _ _ _ _ _ _ _ _ _ _ _ _ _ _ _ _ _ _ _ _ _ _ _ _ _ _ _ _ _ _ _ _ _ _ _ _ _ _ _ _ _ _ _ _ _ _ _ _ _ _ _ _ _ _ _ _ _ _ _ _ _ _ _ _ _ _ _ _ _ _ _ _ _ _ _ _ _ _ _ _ _ _ _ _ _ _ _ _ _ _ _ _ _ _ _ _ _ _ (by omega) ⟨_, _, _, HG.out⟩).1
  · have d0 : ((m : Int) == 0) = false := by simp; omega
    go_upto_if 76 with fail
    refine wp_cond_false rfl ?_
    refine wp_skip ?_
    refine HK3.out _ _ ?_
    clear HK3 d0
    refine wp_seq_k ?_
    intro K4 hK4
    have HK4 := Lib.hid hK4
    clear hK4
    obtain ⟨i, hi, hix⟩ := idx_of x2 (by omega : 0 < m) (by omega)
    have HI := Lib.hid hix
    have hz : ¬ ((m : Int) = 0) := by omega
    clear hix hm0
    go_wp2
    rw [HI.out]
    refine HK4.out _ _ ?_
    clear HK4 HI hz
    refine wp_seq_k ?_
    intro K5 hK5
    have HK5 := Lib.hid hK5
    clear hK5
    by_cases h2 : x0 = 2
    · have d0 : (x0 != 2) = false := by simp [h2]
      clear h2
      go_upto_if 87 with fail
      refine wp_cond_false rfl ?_
      refine wp_skip ?_
      refine HK5.out _ _ ?_
      clear HK5 d0 p0 p1 p2 p3 p4 p5
      refine any_step _ _ _ _ _ _ _ _ _ _ _ _ _ _ _ _ _ _ _ _ _ _ _ _ _ _ _ _ _ _ _ _ _ _ _ _ _ _ _ _ _ _ _ _ _ _ _ _ _ _ _ _ _ _ _ _ _ _ _ _ _ _ _ _ _ _ _ _ _ _ _ _ _ _ _ _ _ _ _ _ _ _ _ _ _ _ _ _ _ _ _ _ _ _ _ _ _ _ _ _ _ _ _ _ _ _ _ _ _ _ _ _ _ _ _ _ _ _ _ _ _ _ _ _ _ _ _ _ _ _ _ _ _ _ _ _ _ _ _ _ _ _ _ _ _ _ _ _ _ _ _ _ _ _ _ _ _ _ _ _ _ _ _ _ _ _ _ _ _ _ _ _ HG.out n0 hnl hi (by omega) ?_
      intro _ _ _ _ _ _ _ _ _ _ _ _ _ _ _ _ _ _ _ _ _ _ _ _ _ _ _ _ _ _ _ _ _ _ _ _ _ _ _ _ _ _ _ _ _ _ _ _ _ _ _ _ _ _ _ _ _ _ _ _ _ _ _ _ _ _ _ _ g' o2 cg' w' hR
      exact (HQ.out _ _ _ _ _ _ _ _ _ _ _ _ _ _ _ _ _ _ _ _ _ _ _ _ _ _ _ _ _ _ _ _ _ _ _ _ _ _ _ _ _ _ _ _ _ _ _ _ _ _ _ _ _ _ _ _ _ _ _ _ _ _ _ _ _ _ _ _ _ _ _ _ _ _ _ _ _ _ _ _ _ _ _ _ _ _ _ _ _ _ _ _ _ _ _ _ _ _ _ _ _ _ _ _ _ _ _ _ _ _ _ _ _ _ _ _ _ _ _ _ _ _ _ _ _ _ _ _ _ _ _ _ _ _ _ _ _ _ _ _ _ _ _ _ _ _ _ _ _ _ _ _ _ (by omega) hR).2
    · have d0 : (x0 != 2) = true := by simp [h2]
      clear h2
      go_upto_if 87 with fail
      refine wp_cond_true rfl ?_
      refine any_copy _ _ _ _ _ _ _ _ _ _ _ _ _ _ _ _ _ _ _ _ _ _ _ _ _ _ _ _ _ _ _ _ _ _ _ _ _ _ _ _ _ _ _ _ _ _ _ _ _ _ _ _ _ _ _ _ _ _ _ _ _ _ _ _ _ _ _ _ _ _ _ _ _ _ _ _ _ _ _ _ _ _ _ _ _ _ _ _ _ _ _ _ _ _ _ _ _ _ _ _ _ _ _ _ _ _ _ _ _ _ _ _ _ _ _ _ _ _ _ _ _ _ _ _ _ _ _ _ _ _ _ _ _ _ _ _ _ _ _ _ _ _ _ _ _ _ _ _ _ _ _ _ _ _ _ _ _ _ _ _ _ _ _ _ _ _ _ _ _ _ _ _ _ _ HG.out hi (by omega) ?_
      intro _ _ _ _ _ _ _ _ _ _ _ _ _ _ _ _ _ _ _ _ _ _ _ _ _ _ _ _ _ w' hR
      exact (HQ.out _ _ _ _ _ _ _ _ _ _ _ _ _ _ _ _ _ _ _ _ _ _ _ _ _ _ _ _ _ _ _ _ _ _ _ _ _ _ _ _ _ _ _ _ _ _ _ _ _ _ _ _ _ _ _ _ _ _ _ _ _ _ _ _ _ _ _ _ _ _ _ _ _ _ _ _ _ _ _ _ _ _ _ _ _ _ _ _ _ _ _ _ _ _ _ _ _ _ _ _ _ _ _ _ _ _ _ _ _ _ _ _ _ _ _ _ _ _ _ _ _ _ _ _ _ _ _ _ _ _ _ _ _ _ _ _ _ _ _ _ _ _ _ _ _ _ _ _ _ _ _ _ _ (by omega) hR).1
end
#print axioms any_round
end Go.Proofs.Ytbhnijkphkkalaa
