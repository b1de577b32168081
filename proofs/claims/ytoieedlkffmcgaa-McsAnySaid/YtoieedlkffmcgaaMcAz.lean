/- McsAny: the ways of a round: a new program (by gen_mcaz.py). -/
import Derived.Test.YtoieedlkffmcgaaMcAy
import Derived.Deep.RegionHeld3
namespace Go.Proofs.Ytoieedlkffmcgaa
open Go.ChangeShapes Go.WideShapes Go.ChangeAt Go.RowKit
set_option linter.unusedVariables false
set_option linter.unusedSimpArgs false

/-- A piece of a function's code: from the region r on. -/
def headIs (r : Nat) : Code → Bool
  | .region i _ _ => i == r
  | _ => false
def seqAt (r : Nat) : Code → Option Code
  | .seq x y => if headIs r x then some (.seq x y) else match seqAt r x with
    | some z => some z
    | none => seqAt r y
  | .cond _ x y => match seqAt r x with
    | some z => some z
    | none => seqAt r y
  | .block _ x => seqAt r x
  | .loop x => seqAt r x
  | .scope x => seqAt r x
  | _ => none
noncomputable def pieceA (r : Nat) : Code := ((Try.f4.body.bind (seqAt r)).getD .skip)
/-- What is true at the head of each round. -/
def Rq (w0 : World) (b t nq p d c bn g oo cg nl : Nat) (a1 : Option Addr) (c1 : Nat) (a2 : Option Addr) (c2 m : Nat) (wr : World) : Prop :=
  ∃ ws en, Frm [] w0 wr ∧ Ga w0.heap.size wr b t nq p d c bn g oo cg nl ws a1 c1 a2 c2 m en
theorem le_frm {D : List Nat} {a b : World} {B : Nat} (h : Frm D a b) (hl : B ≤ a.heap.size) : B ≤ b.heap.size := Nat.le_trans hl h.size
theorem alloc2 (w : World) (o o' : Obj) : ((w.alloc o).alloc o').heap[w.heap.size + 1]? = some o' := heap_alloc_at _ (by simp)
theorem info_run2 : (Try.prog.info? 42).map (fun i => (i.zero, i.size, i.bytes)) = some (some (.agg #[.int .i64 0, .int .i64 0, .int .i64 0, .int .i64 0, .bool false, .int .i64 0, .int .u64 0, .bool false]), 8, 64) := by kernel_rfl
theorem info_prog2 : (Try.prog.info? 37).map (fun i => (i.zero, i.size, i.bytes)) = some (some .nilIface, 1, 16) := by kernel_rfl
theorem Ga.add' {B : Nat} {W9 w : World} {b t nq p d c bn g oo cg nl : Nat} {ws : List Int} {a1 a2 : Option Addr} {c1 c2 m : Nat} {en : Nat → En} (h : Ga B W9 b t nq p d c bn g oo cg nl ws a1 c1 a2 c2 m en) {x : En} {w3 w4 w5 : World} {a1' a2' : Option Addr} {c1' c2' : Nat}
    (f00 : Frm [] W9 w) (hx : PgE W9 b t x) (hq : ∀ i, i < m → (en i).q ≠ x.q) (hq2 : x.q ≠ nq ∧ x.q ≠ g ∧ B ≤ x.q)
    (f1 : Frm (bkG a1) w w3) (g1 : Gr 37 1 B w3 a1' (m + 1) c1' (upd (fun i => pvE (en i)) m (pvE x))) (b1 : ∀ y ∈ bkG a1', y ∈ bkG a1 ∨ w.heap.size ≤ y)
    (f0 : Frm [] w3 w4) (f2 : Frm (bkG a2) w4 w5) (g2 : Gr 42 8 B w5 a2' (m + 1) c2' (upd (fun i => rvE b t (en i)) m (rvE b t x))) (b2 : ∀ y ∈ bkG a2', y ∈ bkG a2 ∨ w4.heap.size ≤ y) :
    Ga B w5 b t nq p d c bn g oo cg nl ws a1' c1' a2' c2' (m + 1) (upd en m x) :=
  (h.frm0 f00).add (hx.frm f00 (by simp)) hq hq2 f1 g1 b1 f0 f2 g2 b2
theorem pvE_one (x : En) : ∀ u ∈ pvE x, u.oneCell' = true := by intro u hu; simp [pvE] at hu; subst hu; rfl
theorem rvE_one (b t : Nat) (x : En) : ∀ u ∈ rvE b t x, u.oneCell' = true := by
  intro u hu; simp [rvE] at hu
  rcases hu with rfl | rfl | rfl | rfl | rfl | rfl | rfl | rfl <;> rfl

section
variable {b t nq p d c bn g oo cg nl : Nat} {ws : List Int} {a1 a2 : Option Addr} {c1 c2 m : Nat} {en : Nat → En}
set_option maxRecDepth 100000 in
set_option maxHeartbeats 1000000 in
/-- A new program. -/
theorem any_new {w0 W : World} {x0 : Int} {L k ba : Nat} {back : Bool} {Q : Exit → Act → World → Prop} (v0 v1 v2 v3 v4 v5 v6 v7 v8 v10 v11 v15 v17 v18 v19 v20 v21 v22 v23 v24 v25 v26 v27 v28 v29 v30 v31 v32 v33 v34 v35 v36 v37 v38 v39 v40 v41 v42 v43 v44 v45 v46 v47 v48 v49 v50 v51 v52 v53 v54 v55 v56 v57 v58 v59 v60 v61 v62 v63 v64 v65 v66 v67 v68 v69 v70 v71 v72 v73 v74 v75 v76 v77 v78 v79 v80 v81 v82 v83 v84 v85 v86 v87 v88 v89 v90 v91 v92 v93 v94 v95 v96 v97 v98 v99 v100 v101 v102 v103 v104 v105 v106 v107 v108 v109 v110 v111 v112 v113 v114 v115 v116 v117 v118 v119 v120 v121 v122 v123 v124 v125 v126 v127 v128 v129 v130 v131 v132 v133 v134 v135 v136 v137 v138 v139 v140 v141 v142 v143 v144 v145 v146 v147 v148 v149 v150 v151 v152 v153 v154 v155 v156 v157 v158 v159 v160 v161 v162 v163 v164 v165 v166 v167 v168 v169 v170 v171 v172 v173 v174 v175 v176 v177 v178 v179 v180 v181 v182 v183 v184 v185 v186 v187 v188 v189 v190 v191 v192 v193 v194 v195 v196 v197 v198 v199 v200 v201 v202 v203 v204 v205 v206 v207 v208 v209 v210 : Value)
    (hF : Frm [] w0 W) (hG : Ga w0.heap.size W b t nq p d c bn g oo cg nl ws a1 c1 a2 c2 m en) (hba : W.heap[ba]? = some (.cells #[.int .i64 x0, .int .i64 (L : Int), .int .i64 (k : Int)] 50 (0, 0)))
    (t64 : t ≤ 64) (fit : b + 6 * t ≤ 65536) (hL : lockOk b t L) (hk : k < 2 * t) (hb : (x0 == 1) = back) (hm : m ≤ 1000)
    (hQ : ∀ (u17 u18 u19 u20 u92 u93 u94 u95 u96 u97 u98 u99 u100 u101 u102 u103 u104 u105 u106 u107 u108 u109 u110 u111 u112 u113 u114 u115 u116 u117 u118 u119 u120 u121 u122 u123 u124 u125 u126 u127 u128 u129 u130 u131 u132 u133 u134 u135 : Value) (a1' : Option Addr) (c1' : Nat) (a2' : Option Addr) (c2' : Nat) (w' : World), Rq w0 b t nq p d c bn g oo cg nl a1' c1' a2' c2' (m + 1) w' →
      Q (.exit 1) ⟨List.toArray (v0 :: v1 :: v2 :: v3 :: v4 :: v5 :: v6 :: v7 :: v8 :: .pointer (some ⟨nq, 0, none⟩) :: v10 :: v11 :: .pointer (some ⟨bn, 0, none⟩) :: .slice a1' (m + 1) c1' :: (.slice a2' (m + 1) c2') :: v15 :: .pointer (some ⟨ba, 0, none⟩) :: u17 :: u18 :: u19 :: u20 :: v21 :: v22 :: v23 :: v24 :: v25 :: v26 :: v27 :: v28 :: v29 :: v30 :: v31 :: v32 :: v33 :: v34 :: v35 :: v36 :: v37 :: v38 :: v39 :: v40 :: v41 :: v42 :: v43 :: v44 :: v45 :: v46 :: v47 :: v48 :: v49 :: v50 :: v51 :: v52 :: v53 :: v54 :: v55 :: v56 :: v57 :: v58 :: v59 :: v60 :: v61 :: v62 :: v63 :: v64 :: v65 :: v66 :: v67 :: v68 :: v69 :: v70 :: v71 :: v72 :: v73 :: v74 :: v75 :: v76 :: v77 :: v78 :: v79 :: v80 :: v81 :: v82 :: v83 :: v84 :: v85 :: v86 :: v87 :: v88 :: v89 :: v90 :: v91 :: u92 :: u93 :: u94 :: u95 :: u96 :: u97 :: u98 :: u99 :: u100 :: u101 :: u102 :: u103 :: u104 :: u105 :: u106 :: u107 :: u108 :: u109 :: u110 :: u111 :: u112 :: u113 :: u114 :: u115 :: u116 :: u117 :: u118 :: u119 :: u120 :: u121 :: u122 :: u123 :: u124 :: u125 :: u126 :: u127 :: u128 :: u129 :: u130 :: u131 :: u132 :: u133 :: u134 :: u135 :: v136 :: v137 :: v138 :: v139 :: v140 :: v141 :: v142 :: v143 :: v144 :: v145 :: v146 :: v147 :: v148 :: v149 :: v150 :: v151 :: v152 :: v153 :: v154 :: v155 :: v156 :: v157 :: v158 :: v159 :: v160 :: v161 :: v162 :: v163 :: v164 :: v165 :: v166 :: v167 :: v168 :: v169 :: v170 :: v171 :: v172 :: v173 :: v174 :: v175 :: v176 :: v177 :: v178 :: v179 :: v180 :: v181 :: v182 :: v183 :: v184 :: v185 :: v186 :: v187 :: v188 :: v189 :: v190 :: v191 :: v192 :: v193 :: v194 :: v195 :: v196 :: v197 :: v198 :: v199 :: v200 :: v201 :: v202 :: v203 :: v204 :: v205 :: v206 :: v207 :: v208 :: v209 :: v210 :: []), []⟩ w') :
    Code.wp Try.prog (pieceA 14) Q ⟨List.toArray (v0 :: v1 :: v2 :: v3 :: v4 :: v5 :: v6 :: v7 :: v8 :: .pointer (some ⟨nq, 0, none⟩) :: v10 :: v11 :: .pointer (some ⟨bn, 0, none⟩) :: .slice a1 m c1 :: .slice a2 m c2 :: v15 :: .pointer (some ⟨ba, 0, none⟩) :: v17 :: v18 :: v19 :: v20 :: v21 :: v22 :: v23 :: v24 :: v25 :: v26 :: v27 :: v28 :: v29 :: v30 :: v31 :: v32 :: v33 :: v34 :: v35 :: v36 :: v37 :: v38 :: v39 :: v40 :: v41 :: v42 :: v43 :: v44 :: v45 :: v46 :: v47 :: v48 :: v49 :: v50 :: v51 :: v52 :: v53 :: v54 :: v55 :: v56 :: v57 :: v58 :: v59 :: v60 :: v61 :: v62 :: v63 :: v64 :: v65 :: v66 :: v67 :: v68 :: v69 :: v70 :: v71 :: v72 :: v73 :: v74 :: v75 :: v76 :: v77 :: v78 :: v79 :: v80 :: v81 :: v82 :: v83 :: v84 :: v85 :: v86 :: v87 :: v88 :: v89 :: v90 :: v91 :: v92 :: v93 :: v94 :: v95 :: v96 :: v97 :: v98 :: v99 :: v100 :: v101 :: v102 :: v103 :: v104 :: v105 :: v106 :: v107 :: v108 :: v109 :: v110 :: v111 :: v112 :: v113 :: v114 :: v115 :: v116 :: v117 :: v118 :: v119 :: v120 :: v121 :: v122 :: v123 :: v124 :: v125 :: v126 :: v127 :: v128 :: v129 :: v130 :: v131 :: v132 :: v133 :: v134 :: v135 :: v136 :: v137 :: v138 :: v139 :: v140 :: v141 :: v142 :: v143 :: v144 :: v145 :: v146 :: v147 :: v148 :: v149 :: v150 :: v151 :: v152 :: v153 :: v154 :: v155 :: v156 :: v157 :: v158 :: v159 :: v160 :: v161 :: v162 :: v163 :: v164 :: v165 :: v166 :: v167 :: v168 :: v169 :: v170 :: v171 :: v172 :: v173 :: v174 :: v175 :: v176 :: v177 :: v178 :: v179 :: v180 :: v181 :: v182 :: v183 :: v184 :: v185 :: v186 :: v187 :: v188 :: v189 :: v190 :: v191 :: v192 :: v193 :: v194 :: v195 :: v196 :: v197 :: v198 :: v199 :: v200 :: v201 :: v202 :: v203 :: v204 :: v205 :: v206 :: v207 :: v208 :: v209 :: v210 :: []), []⟩ W := by
  have HF := Lib.hid hF
  have HG := Lib.hid hG
  have HA := Lib.hid hba
  have HQ := Lib.hid hQ
  have HL := Lib.hid hL
  obtain ⟨c0, c1', c2'⟩ : W.cell? ⟨ba, 0, none⟩ = some (.int .i64 x0) ∧ W.cell? ⟨ba, 1, none⟩ = some (.int .i64 (L : Int)) ∧ W.cell? ⟨ba, 2, none⟩ = some (.int .i64 (k : Int)) :=
    ⟨by rw [cell_of_heap hba]; rfl, by rw [cell_of_heap hba]; rfl, by rw [cell_of_heap hba]; rfl⟩
  have hL0 : (L : Int) < 65536 := hL.2.1
  have hL2 : L < b ∨ b + 6 * t ≤ L := by rcases hL.2.2 with h | h <;> omega
  have HL2 := Lib.hid hL2
  clear hF hG hba hQ hL hL2
  conv => arg 2; whnf
  go_wp2_with fail
  refine (begin_yes HG.out.nd fit HL.out hk back).mono ?_
  rintro e w1 ⟨q, rfl, g1, hR, hq⟩
  have hnn := g1.heap HG.out.nn (by simp)
  have hba := g1.heap HA.out (by simp)
  obtain ⟨n0, n1⟩ := cells2 hnn
  clear c0 c1' c2'
  obtain ⟨c0, c1', c2'⟩ : w1.cell? ⟨ba, 0, none⟩ = some (.int .i64 x0) ∧ w1.cell? ⟨ba, 1, none⟩ = some (.int .i64 (L : Int)) ∧ w1.cell? ⟨ba, 2, none⟩ = some (.int .i64 (k : Int)) :=
    ⟨by rw [cell_of_heap hba]; rfl, by rw [cell_of_heap hba]; rfl, by rw [cell_of_heap hba]; rfl⟩
  have HG1 := Lib.hid g1
  have HR := Lib.hid hR
  clear hnn hba g1 hR
  go_wp2_with fail
  refine (new_run w1 t64 fit (by omega) HL2.out hk back).mono ?_
  rintro e w2 ⟨rfl, g2⟩
  have HG2 := Lib.hid (HG1.out.trans g2)
  replace HR := Lib.hid (HR.out.frm g2 (by simp))
  have hz2 := g2.size
  clear n0 n1 c0 c1' c2' g2
  go_upto_region 19 with fail
  obtain ⟨W9, hW9⟩ : ∃ W', W' = w2.alloc (.cells #[.int .i64 b, .int .i64 t, .int .i64 (L : Int), .int .i64 (k : Int), .bool back, .int .i64 1, .int .u64 0, .bool false] 42) := ⟨_, rfl⟩
  have f9 : Frm [] w2 W9 := by rw [hW9]; exact (Frm.refl _ _).alloc _
  have hb9 : W9.heap[w2.heap.size]? = some (.cells #[.int .i64 b, .int .i64 t, .int .i64 (L : Int), .int .i64 (k : Int), .bool back, .int .i64 1, .int .u64 0, .bool false] 42 (0, 0)) := by rw [hW9]; exact heap_alloc_new _ _
  rw [← hW9]
  clear hW9
  have hG9 := HG.out.frm0 (HG2.out.trans f9)
  have hx9 : PgE W9 b t ⟨L, k, back, 1, 0, false, q⟩ := ⟨HR.out.frm f9 (by simp), hk⟩
  have hwz := HG2.out.size
  have hBz := HF.out.size
  have HX9 := Lib.hid hx9
  have HG9 := Lib.hid hG9
  have HB9 := Lib.hid hb9
  have HF9 := Lib.hid (HF.out.trans (HG2.out.trans f9))
  have hl9 := lt_of_heap hb9
  have HAL := Lib.hid (show ∀ y ∈ bkG a1, w0.heap.size ≤ y ∧ y < W.heap.size from HG.out.pr.from_)
  have HAR := Lib.hid (show ∀ y ∈ bkG a2, w0.heap.size ≤ y ∧ y < W.heap.size from HG.out.rn.from_)
  have HNI : Hid (w2.heap.size ∉ bkG a1 ++ bkG a2) := Lib.hid (fun e => by
    rcases List.mem_append.1 e with e | e
    · have := (HAL.out _ e).2; omega
    · have := (HAR.out _ e).2; omega)
  have HQ1 := Lib.hid (show ∀ i, i < m → (en i).q ≠ q from fun i hi => by have := (HG.out.ps i hi).lt; omega)
  have HQ2 := Lib.hid (show q ≠ nq ∧ q ≠ g ∧ w0.heap.size ≤ q from ⟨by have := HG.out.nd.lt; omega, by have := HG.out.glt; omega, by omega⟩)
  clear hG9 hx9 f9 hb9
  refine wp_region_noPanic ?_
  refine wp_region_held_drew (S := fun w' => Frm (bkG a1 ++ bkG a2) W9 w') (by kernel_rfl) ((Frm.refl _ _).drew) (fun hHeld => ?_)
  refine take_in (i := 0) (d := 128) (v := .slice a1 m c1) rfl rfl (by kernel_rfl) (by kernel_rfl) (by kernel_rfl) (fun _ _ _ h => h) (by kernel_rfl) (fun _ _ => rfl) (by assumption) ?_
  try simp only [Act.put, List.setIfInBounds_toArray, List.set_cons_zero, List.set_cons_succ]
  refine take_in (i := 1) (d := 129) (v := .iface (Ip back) (.pointer (some ⟨q, 0, none⟩))) rfl rfl (by kernel_rfl) (by kernel_rfl) (by kernel_rfl) (fun _ _ _ h => h) (by kernel_rfl) (fun _ _ => rfl) (by assumption) ?_
  try simp only [Act.put, List.setIfInBounds_toArray, List.set_cons_zero, List.set_cons_succ]
  refine take_in (i := 4) (d := 132) (v := .slice a2 m c2) rfl rfl (by kernel_rfl) (by kernel_rfl) (by kernel_rfl) (fun _ _ _ h => h) (by kernel_rfl) (fun _ _ => rfl) (by assumption) ?_
  try simp only [Act.put, List.setIfInBounds_toArray, List.set_cons_zero, List.set_cons_succ]
  refine take_in (i := 5) (d := 133) (v := .agg #[.int .i64 b, .int .i64 t, .int .i64 (L : Int), .int .i64 (k : Int), .bool back, .int .i64 1, .int .u64 0, .bool false]) rfl rfl (by kernel_rfl) (by kernel_rfl) (by kernel_rfl) (fun _ _ _ h => h) (by kernel_rfl) (fun w' hS => by have hS' : Frm (bkG a1 ++ bkG a2) W9 w' := hS; obtain ⟨c0, c1, c2, c3, c4, c5, c6, c7⟩ := cells8 (hS'.heap HB9.out HNI.out); go_simp) (by assumption) ?_
  try simp only [Act.put, List.setIfInBounds_toArray, List.set_cons_zero, List.set_cons_succ]
  refine wpAnyH_ready (rs := [2, 6]) (by kernel_rfl) (by simp) ?_
  refine AllReadyH.cons rfl (fun K hK => ?_) (AllReadyH.cons rfl (fun K hK => ?_) AllReadyH.nil)
  · go_simp
    refine hK.out _ _ (by (repeat' (first | assumption | exact Frm.refl _ _ | apply Frm.drew | apply Frm.drewN | apply Frm.alloc))) (fun hHeld => ?_)
    clear hK K
    try change wpAnyH _ _ _ _ _ _ _ (Act.put _ (some 130) _) _
    try simp only [Act.put, List.setIfInBounds_toArray, List.set_cons_zero, List.set_cons_succ]
    refine wpAnyH_ready (rs := [3, 6]) (by kernel_rfl) (by simp) ?_
    refine AllReadyH.cons rfl (fun K hK => ?_) (AllReadyH.cons rfl (fun K hK => ?_) AllReadyH.nil)
    · refine step_gr Try.underlying33 info_prog2 (by decide) (by decide) (by decide) (by kernel_rfl) (.tmp 128) (.tmp 130) rfl (B := w0.heap.size) (g2 := W9.heap.size) (l := pvE ⟨L, k, back, 1, 0, false, q⟩) (by simp [Act.eval]) (by simp [Act.eval]) (HG9.out.pr.frm0 (by (repeat' (first | assumption | exact Frm.refl _ _ | apply Frm.drew | apply Frm.drewN | apply Frm.alloc)))) rfl (pvE_one _) (heap_alloc_new W9 _) (by omega) (le_frm (D := []) (by (repeat' (first | assumption | exact Frm.refl _ _ | apply Frm.drew | apply Frm.drewN | apply Frm.alloc))) (show w0.heap.size ≤ W9.heap.size by omega)) ?_
      intro a1' c1' w3 g1 f1 b1
      have s3 : Frm (bkG a1 ++ bkG a2) W9 w3 := Frm.trans (by (repeat' (first | assumption | exact Frm.refl _ _ | apply Frm.drew | apply Frm.drewN | apply Frm.alloc))) (f1.weak (fun x hx => List.mem_append.2 (.inl hx)))
      have hrn := (HG9.out.frm0 (show Frm [] W9 _ from (by (repeat' (first | assumption | exact Frm.refl _ _ | apply Frm.drew | apply Frm.drewN | apply Frm.alloc))))).rn.frm f1 (fun y hy e => (HG9.out.row1).2.2.2.1 y hy e)
      have HRN := Lib.hid hrn
      have HS3 := Lib.hid (And.intro f1 (And.intro g1 b1))
      have hz3 := f1.size
      clear hrn f1 g1 b1
      refine hK.out _ _ (by exact s3) (fun hHeld => ?_)
      clear hK K
      try change wpAnyH _ _ _ _ _ _ _ (Act.put _ (some 131) _) _
      try simp only [Act.put, List.setIfInBounds_toArray, List.set_cons_zero, List.set_cons_succ]
      refine wpAnyH_ready (rs := [6]) (by kernel_rfl) (by simp) ?_
      refine AllReadyH.cons rfl (fun K hK => ?_) AllReadyH.nil
      go_simp
      refine hK.out _ _ (by (repeat' (first | assumption | exact Frm.refl _ _ | apply Frm.drew | apply Frm.drewN | apply Frm.alloc))) (fun hHeld => ?_)
      clear hK K
      try change wpAnyH _ _ _ _ _ _ _ (Act.put _ (some 134) _) _
      try simp only [Act.put, List.setIfInBounds_toArray, List.set_cons_zero, List.set_cons_succ]
      refine wpAnyH_ready (rs := [7]) (by kernel_rfl) (by simp) ?_
      refine AllReadyH.cons rfl (fun K hK => ?_) AllReadyH.nil
      refine step_gr Try.underlying34 info_run2 (by decide) (by decide) (by decide) (by kernel_rfl) (.tmp 132) (.tmp 134) rfl (B := w0.heap.size) (g2 := w3.heap.size) (l := rvE b t ⟨L, k, back, 1, 0, false, q⟩) (by simp [Act.eval]) (by simp [Act.eval]) (HRN.out.frm0 (by (repeat' (first | assumption | exact Frm.refl _ _ | apply Frm.drew | apply Frm.drewN | apply Frm.alloc)))) rfl (rvE_one _ _ _) (heap_alloc_new w3 _) (by omega) (le_frm (D := []) (by (repeat' (first | assumption | exact Frm.refl _ _ | apply Frm.drew | apply Frm.drewN | apply Frm.alloc))) (show w0.heap.size ≤ w3.heap.size by have := s3.size; omega)) ?_
      intro a2' c2' w5 g2 f2 b2
      have s5 : Frm (bkG a1 ++ bkG a2) W9 w5 := Frm.trans (by (repeat' (first | assumption | exact Frm.refl _ _ | apply Frm.drew | apply Frm.drewN | apply Frm.alloc))) (f2.weak (fun x hx => List.mem_append.2 (.inr hx)))
      have hGa := Ga.add' HG9.out (by (repeat' (first | assumption | exact Frm.refl _ _ | apply Frm.drew | apply Frm.drewN | apply Frm.alloc))) HX9.out HQ1.out HQ2.out HS3.out.1 HS3.out.2.1 HS3.out.2.2 (show Frm [] w3 _ from (by (repeat' (first | assumption | exact Frm.refl _ _ | apply Frm.drew | apply Frm.drewN | apply Frm.alloc)))) f2 g2 b2
      have HGA := Lib.hid hGa
      clear hGa f2 g2 b2
      refine hK.out _ _ (by exact s5) (fun hHeld => ?_)
      clear hK K
      try change wpAnyH _ _ _ _ _ _ _ (Act.put _ (some 135) _) _
      try simp only [Act.put, List.setIfInBounds_toArray, List.set_cons_zero, List.set_cons_succ]
      refine take_in (i := 8) (d := 13) (v := .slice a1' (m + 1) c1') rfl rfl (by kernel_rfl) (by kernel_rfl) (by kernel_rfl) (fun _ _ _ h => h) (by kernel_rfl) (fun _ _ => rfl) (by assumption) ?_
      try simp only [Act.put, List.setIfInBounds_toArray, List.set_cons_zero, List.set_cons_succ]
      refine take_in (i := 9) (d := 14) (v := .slice a2' (m + 1) c2') rfl rfl (by kernel_rfl) (by kernel_rfl) (by kernel_rfl) (fun _ _ _ h => h) (by kernel_rfl) (fun _ _ => rfl) (by assumption) ?_
      try simp only [Act.put, List.setIfInBounds_toArray, List.set_cons_zero, List.set_cons_succ]
      refine wpAnyH_done (by kernel_rfl) ?_ _
      refine NoPanic.normal ?_
      have HFE := Lib.hid (HF9.out.trans_new s5 (fun y hy => .inr (by
        rcases List.mem_append.1 hy with e | e
        · exact (HAL.out _ e).1
        · exact (HAR.out _ e).1)))
      clear s3 s5
      go_wp2
      exact HQ.out _ _ _ _ _ _ _ _ _ _ _ _ _ _ _ _ _ _ _ _ _ _ _ _ _ _ _ _ _ _ _ _ _ _ _ _ _ _ _ _ _ _ _ _ _ _ _ _ _ _ _ _ _ ⟨_, _, HFE.out, HGA.out⟩
    · go_simp
      refine hK.out _ _ (by (repeat' (first | assumption | exact Frm.refl _ _ | apply Frm.drew | apply Frm.drewN | apply Frm.alloc))) (fun hHeld => ?_)
      clear hK K
      try change wpAnyH _ _ _ _ _ _ _ (Act.put _ (some 134) _) _
      try simp only [Act.put, List.setIfInBounds_toArray, List.set_cons_zero, List.set_cons_succ]
      refine wpAnyH_ready (rs := [3]) (by kernel_rfl) (by simp) ?_
      refine AllReadyH.cons rfl (fun K hK => ?_) AllReadyH.nil
      refine step_gr Try.underlying33 info_prog2 (by decide) (by decide) (by decide) (by kernel_rfl) (.tmp 128) (.tmp 130) rfl (B := w0.heap.size) (g2 := W9.heap.size) (l := pvE ⟨L, k, back, 1, 0, false, q⟩) (by simp [Act.eval]) (by simp [Act.eval]) (HG9.out.pr.frm0 (by (repeat' (first | assumption | exact Frm.refl _ _ | apply Frm.drew | apply Frm.drewN | apply Frm.alloc)))) rfl (pvE_one _) (heap_alloc_old _ (heap_alloc_new W9 _)) (by omega) (le_frm (D := []) (by (repeat' (first | assumption | exact Frm.refl _ _ | apply Frm.drew | apply Frm.drewN | apply Frm.alloc))) (show w0.heap.size ≤ W9.heap.size by omega)) ?_
      intro a1' c1' w3 g1 f1 b1
      have s3 : Frm (bkG a1 ++ bkG a2) W9 w3 := Frm.trans (by (repeat' (first | assumption | exact Frm.refl _ _ | apply Frm.drew | apply Frm.drewN | apply Frm.alloc))) (f1.weak (fun x hx => List.mem_append.2 (.inl hx)))
      have hg2 := f1.heap (alloc2 W9 _ _) (show (W9.heap.size + 1) ∉ bkG a1 from fun e => by have := (HAL.out _ e).2; omega)
      have hrn := (HG9.out.frm0 (show Frm [] W9 _ from (by (repeat' (first | assumption | exact Frm.refl _ _ | apply Frm.drew | apply Frm.drewN | apply Frm.alloc))))).rn.frm f1 (fun y hy e => (HG9.out.row1).2.2.2.1 y hy e)
      have HRN := Lib.hid hrn
      have HS3 := Lib.hid (And.intro f1 (And.intro g1 b1))
      have hz3 := f1.size
      clear hrn f1 g1 b1
      refine hK.out _ _ (by exact s3) (fun hHeld => ?_)
      clear hK K
      try change wpAnyH _ _ _ _ _ _ _ (Act.put _ (some 131) _) _
      try simp only [Act.put, List.setIfInBounds_toArray, List.set_cons_zero, List.set_cons_succ]
      refine wpAnyH_ready (rs := [7]) (by kernel_rfl) (by simp) ?_
      refine AllReadyH.cons rfl (fun K hK => ?_) AllReadyH.nil
      refine step_gr Try.underlying34 info_run2 (by decide) (by decide) (by decide) (by kernel_rfl) (.tmp 132) (.tmp 134) rfl (B := w0.heap.size) (g2 := (W9.heap.size + 1)) (l := rvE b t ⟨L, k, back, 1, 0, false, q⟩) (by simp [Act.eval]) (by simp [Act.eval]) (HRN.out.frm0 (by (repeat' (first | assumption | exact Frm.refl _ _ | apply Frm.drew | apply Frm.drewN | apply Frm.alloc)))) rfl (rvE_one _ _ _) (hg2) (by omega) (le_frm (D := []) (by (repeat' (first | assumption | exact Frm.refl _ _ | apply Frm.drew | apply Frm.drewN | apply Frm.alloc))) (show w0.heap.size ≤ w3.heap.size by have := s3.size; omega)) ?_
      intro a2' c2' w5 g2 f2 b2
      have s5 : Frm (bkG a1 ++ bkG a2) W9 w5 := Frm.trans (by (repeat' (first | assumption | exact Frm.refl _ _ | apply Frm.drew | apply Frm.drewN | apply Frm.alloc))) (f2.weak (fun x hx => List.mem_append.2 (.inr hx)))
      have hGa := Ga.add' HG9.out (by (repeat' (first | assumption | exact Frm.refl _ _ | apply Frm.drew | apply Frm.drewN | apply Frm.alloc))) HX9.out HQ1.out HQ2.out HS3.out.1 HS3.out.2.1 HS3.out.2.2 (show Frm [] w3 _ from (by (repeat' (first | assumption | exact Frm.refl _ _ | apply Frm.drew | apply Frm.drewN | apply Frm.alloc)))) f2 g2 b2
      have HGA := Lib.hid hGa
      clear hGa f2 g2 b2
      refine hK.out _ _ (by exact s5) (fun hHeld => ?_)
      clear hK K
      try change wpAnyH _ _ _ _ _ _ _ (Act.put _ (some 135) _) _
      try simp only [Act.put, List.setIfInBounds_toArray, List.set_cons_zero, List.set_cons_succ]
      refine take_in (i := 8) (d := 13) (v := .slice a1' (m + 1) c1') rfl rfl (by kernel_rfl) (by kernel_rfl) (by kernel_rfl) (fun _ _ _ h => h) (by kernel_rfl) (fun _ _ => rfl) (by assumption) ?_
      try simp only [Act.put, List.setIfInBounds_toArray, List.set_cons_zero, List.set_cons_succ]
      refine take_in (i := 9) (d := 14) (v := .slice a2' (m + 1) c2') rfl rfl (by kernel_rfl) (by kernel_rfl) (by kernel_rfl) (fun _ _ _ h => h) (by kernel_rfl) (fun _ _ => rfl) (by assumption) ?_
      try simp only [Act.put, List.setIfInBounds_toArray, List.set_cons_zero, List.set_cons_succ]
      refine wpAnyH_done (by kernel_rfl) ?_ _
      refine NoPanic.normal ?_
      have HFE := Lib.hid (HF9.out.trans_new s5 (fun y hy => .inr (by
        rcases List.mem_append.1 hy with e | e
        · exact (HAL.out _ e).1
        · exact (HAR.out _ e).1)))
      clear s3 s5
      go_wp2
      exact HQ.out _ _ _ _ _ _ _ _ _ _ _ _ _ _ _ _ _ _ _ _ _ _ _ _ _ _ _ _ _ _ _ _ _ _ _ _ _ _ _ _ _ _ _ _ _ _ _ _ _ _ _ _ _ ⟨_, _, HFE.out, HGA.out⟩
  · go_simp
    refine hK.out _ _ (by (repeat' (first | assumption | exact Frm.refl _ _ | apply Frm.drew | apply Frm.drewN | apply Frm.alloc))) (fun hHeld => ?_)
    clear hK K
    try change wpAnyH _ _ _ _ _ _ _ (Act.put _ (some 134) _) _
    try simp only [Act.put, List.setIfInBounds_toArray, List.set_cons_zero, List.set_cons_succ]
    refine wpAnyH_ready (rs := [2]) (by kernel_rfl) (by simp) ?_
    refine AllReadyH.cons rfl (fun K hK => ?_) AllReadyH.nil
    go_simp
    refine hK.out _ _ (by (repeat' (first | assumption | exact Frm.refl _ _ | apply Frm.drew | apply Frm.drewN | apply Frm.alloc))) (fun hHeld => ?_)
    clear hK K
    try change wpAnyH _ _ _ _ _ _ _ (Act.put _ (some 130) _) _
    try simp only [Act.put, List.setIfInBounds_toArray, List.set_cons_zero, List.set_cons_succ]
    refine wpAnyH_ready (rs := [3]) (by kernel_rfl) (by simp) ?_
    refine AllReadyH.cons rfl (fun K hK => ?_) AllReadyH.nil
    refine step_gr Try.underlying33 info_prog2 (by decide) (by decide) (by decide) (by kernel_rfl) (.tmp 128) (.tmp 130) rfl (B := w0.heap.size) (g2 := (W9.heap.size + 1)) (l := pvE ⟨L, k, back, 1, 0, false, q⟩) (by simp [Act.eval]) (by simp [Act.eval]) (HG9.out.pr.frm0 (by (repeat' (first | assumption | exact Frm.refl _ _ | apply Frm.drew | apply Frm.drewN | apply Frm.alloc)))) rfl (pvE_one _) (alloc2 W9 _ _) (by omega) (le_frm (D := []) (by (repeat' (first | assumption | exact Frm.refl _ _ | apply Frm.drew | apply Frm.drewN | apply Frm.alloc))) (show w0.heap.size ≤ W9.heap.size by omega)) ?_
    intro a1' c1' w3 g1 f1 b1
    have s3 : Frm (bkG a1 ++ bkG a2) W9 w3 := Frm.trans (by (repeat' (first | assumption | exact Frm.refl _ _ | apply Frm.drew | apply Frm.drewN | apply Frm.alloc))) (f1.weak (fun x hx => List.mem_append.2 (.inl hx)))
    have hg2 := f1.heap (heap_alloc_old _ (heap_alloc_new W9 _)) (show W9.heap.size ∉ bkG a1 from fun e => by have := (HAL.out _ e).2; omega)
    have hrn := (HG9.out.frm0 (show Frm [] W9 _ from (by (repeat' (first | assumption | exact Frm.refl _ _ | apply Frm.drew | apply Frm.drewN | apply Frm.alloc))))).rn.frm f1 (fun y hy e => (HG9.out.row1).2.2.2.1 y hy e)
    have HRN := Lib.hid hrn
    have HS3 := Lib.hid (And.intro f1 (And.intro g1 b1))
    have hz3 := f1.size
    clear hrn f1 g1 b1
    refine hK.out _ _ (by exact s3) (fun hHeld => ?_)
    clear hK K
    try change wpAnyH _ _ _ _ _ _ _ (Act.put _ (some 131) _) _
    try simp only [Act.put, List.setIfInBounds_toArray, List.set_cons_zero, List.set_cons_succ]
    refine wpAnyH_ready (rs := [7]) (by kernel_rfl) (by simp) ?_
    refine AllReadyH.cons rfl (fun K hK => ?_) AllReadyH.nil
    refine step_gr Try.underlying34 info_run2 (by decide) (by decide) (by decide) (by kernel_rfl) (.tmp 132) (.tmp 134) rfl (B := w0.heap.size) (g2 := W9.heap.size) (l := rvE b t ⟨L, k, back, 1, 0, false, q⟩) (by simp [Act.eval]) (by simp [Act.eval]) (HRN.out.frm0 (by (repeat' (first | assumption | exact Frm.refl _ _ | apply Frm.drew | apply Frm.drewN | apply Frm.alloc)))) rfl (rvE_one _ _ _) (hg2) (by omega) (le_frm (D := []) (by (repeat' (first | assumption | exact Frm.refl _ _ | apply Frm.drew | apply Frm.drewN | apply Frm.alloc))) (show w0.heap.size ≤ w3.heap.size by have := s3.size; omega)) ?_
    intro a2' c2' w5 g2 f2 b2
    have s5 : Frm (bkG a1 ++ bkG a2) W9 w5 := Frm.trans (by (repeat' (first | assumption | exact Frm.refl _ _ | apply Frm.drew | apply Frm.drewN | apply Frm.alloc))) (f2.weak (fun x hx => List.mem_append.2 (.inr hx)))
    have hGa := Ga.add' HG9.out (by (repeat' (first | assumption | exact Frm.refl _ _ | apply Frm.drew | apply Frm.drewN | apply Frm.alloc))) HX9.out HQ1.out HQ2.out HS3.out.1 HS3.out.2.1 HS3.out.2.2 (show Frm [] w3 _ from (by (repeat' (first | assumption | exact Frm.refl _ _ | apply Frm.drew | apply Frm.drewN | apply Frm.alloc)))) f2 g2 b2
    have HGA := Lib.hid hGa
    clear hGa f2 g2 b2
    refine hK.out _ _ (by exact s5) (fun hHeld => ?_)
    clear hK K
    try change wpAnyH _ _ _ _ _ _ _ (Act.put _ (some 135) _) _
    try simp only [Act.put, List.setIfInBounds_toArray, List.set_cons_zero, List.set_cons_succ]
    refine take_in (i := 8) (d := 13) (v := .slice a1' (m + 1) c1') rfl rfl (by kernel_rfl) (by kernel_rfl) (by kernel_rfl) (fun _ _ _ h => h) (by kernel_rfl) (fun _ _ => rfl) (by assumption) ?_
    try simp only [Act.put, List.setIfInBounds_toArray, List.set_cons_zero, List.set_cons_succ]
    refine take_in (i := 9) (d := 14) (v := .slice a2' (m + 1) c2') rfl rfl (by kernel_rfl) (by kernel_rfl) (by kernel_rfl) (fun _ _ _ h => h) (by kernel_rfl) (fun _ _ => rfl) (by assumption) ?_
    try simp only [Act.put, List.setIfInBounds_toArray, List.set_cons_zero, List.set_cons_succ]
    refine wpAnyH_done (by kernel_rfl) ?_ _
    refine NoPanic.normal ?_
    have HFE := Lib.hid (HF9.out.trans_new s5 (fun y hy => .inr (by
      rcases List.mem_append.1 hy with e | e
      · exact (HAL.out _ e).1
      · exact (HAR.out _ e).1)))
    clear s3 s5
    go_wp2
    exact HQ.out _ _ _ _ _ _ _ _ _ _ _ _ _ _ _ _ _ _ _ _ _ _ _ _ _ _ _ _ _ _ _ _ _ _ _ _ _ _ _ _ _ _ _ _ _ _ _ _ _ _ _ _ _ ⟨_, _, HFE.out, HGA.out⟩
end
end Go.Proofs.Ytoieedlkffmcgaa
