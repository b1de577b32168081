/- VersionPlays: the ways of a round: a new program (by gen_vpn.py). -/
import Derived.Test.YtbhnijkphkkalaaVpO
import Derived.Deep.RegionHeld3
namespace Go.Proofs.Ytbhnijkphkkalaa
open Go.ChangeShapes Go.WideShapes Go.ChangeAt Go.RowKit
set_option linter.unusedVariables false
set_option linter.unusedSimpArgs false

/-- A piece of a function's code: from the region r on. -/
def headIs (r : Nat) : Code → Bool
  | .region i _ _ => i == r
  | _ => false
def seqAt (r : Nat) : Code → Option Code
  | .seq x y => if headIs r x then some (.seq x y) else match seqAt r x with
    | some z => some z
    | none => seqAt r y
  | .cond _ x y => match seqAt r x with
    | some z => some z
    | none => seqAt r y
  | .block _ x => seqAt r x
  | .loop x => seqAt r x
  | .scope x => seqAt r x
  | _ => none
noncomputable def pieceA (r : Nat) : Code := ((Try.f4.body.bind (seqAt r)).getD .skip)
/-- What is true at the head of each round. -/
def Rq (w0 : World) (p d c g oo cg nl : Nat) (a1 : Option Addr) (c1 : Nat) (a2 : Option Addr) (c2 m : Nat) (wr : World) : Prop :=
  ∃ own ws en, Gs w0 wr own p d c g oo cg nl ws a1 c1 a2 c2 m en
theorem le_frm {D : List Nat} {a b : World} {B : Nat} (h : Frm D a b) (hl : B ≤ a.heap.size) : B ≤ b.heap.size := Nat.le_trans hl h.size
theorem alloc2 (w : World) (o o' : Obj) : ((w.alloc o).alloc o').heap[w.heap.size + 1]? = some o' := heap_alloc_at _ (by simp)

section
variable {own : Nat → Nat} {p d c g oo cg nl : Nat} {ws : List Int} {a1 a2 : Option Addr} {c1 c2 m : Nat} {en : Nat → En}
set_option maxRecDepth 100000 in
set_option maxHeartbeats 1000000 in
/-- A new program. -/
theorem any_new {w0 W : World} {x0 x1 x2 x3 x4 : Int} {la : Option Addr} {ln lc ba : Nat} {P : Pg} {Rv : RV} {Q : Exit → Act → World → Prop} (v0 v1 v2 v3 v4 v5 v8 v10 v11 v12 v13 v14 v15 v16 v17 v18 v19 v20 v21 v22 v23 v24 v25 v26 v27 v28 v29 v30 v31 v32 v33 v34 v35 v36 v37 v38 v39 v40 v41 v42 v43 v44 v45 v46 v47 v48 v49 v50 v51 v52 v53 v54 v55 v56 v57 v58 v59 v60 v61 v62 v63 v64 v65 v66 v67 v68 v69 v70 v71 v72 v73 v74 v75 v76 v77 v78 v79 v80 v81 v82 v83 v84 v85 v86 v87 v88 v89 v90 v91 v92 v93 v94 v95 v96 v97 v98 v99 v100 v101 v102 v103 v104 v105 v106 v107 v108 v109 v110 v111 v112 v113 v114 v115 v116 v117 v118 v119 v120 v121 v122 v123 v124 v125 v126 v127 v128 v129 v130 v131 v132 v133 v134 v135 v136 v137 v138 v139 v140 v141 v142 v143 v144 v145 v146 v147 v148 v149 v150 v151 v152 v153 v154 v155 v156 v157 v158 v159 v160 v161 v162 v163 v164 v165 v166 v167 v168 v169 v170 v171 v172 v173 v174 v175 v176 : Value)
    (hG : Gs w0 W own p d c g oo cg nl ws a1 c1 a2 c2 m en) (hba : W.heap[ba]? = some (.cells #[.int .i64 x0, .int .i64 x1, .int .i64 x2, .int .i64 x3, .int .i64 x4, .slice la ln lc] 44 (0, 0)))
    (hB : ∀ w', Frm [] W w' → Calls Try.prog 21 #[.agg #[.int .i64 x0, .int .i64 x1, .int .i64 x2, .int .i64 x3, .int .i64 x4, .slice la ln lc]] w' (fun e w2 => ∃ q b cb, Ret (.tuple #[.iface (Ip P.R) (.pointer (some ⟨q, 0, none⟩)), Rv.v, .bool true]) (fun w2 => Frm [] w' w2 ∧ At w2 q b cb P ∧ w'.heap.size ≤ q ∧ w'.heap.size ≤ b) e w2))
    (hok : Ok P) (hnn : ∀ v ∈ P.buf, 0 ≤ v) (hk0 : P.R = false → P.st = 1 ∨ P.st = 2 → P.k = 0) (hre : Re P Rv [])
    (hla : P.R = false → ∃ lb lo, Li .u64 W Rv.la Rv.ln Rv.lc lb lo P.buf ∧ (0 < Rv.ln → own lb = 3)) (hra : Rv.ra = none ∧ Rv.rn = 0 ∧ Rv.rcap = 0) (hm : m ≤ 1000)
    (hQ : ∀ (u10 u11 u12 u56 u57 u58 u59 u60 u61 u62 u63 u64 u65 u66 u67 u68 u69 u70 u71 u72 u73 : Value) (a1' : Option Addr) (c1' : Nat) (a2' : Option Addr) (c2' : Nat) (w' : World), Rq w0 p d c g oo cg nl a1' c1' a2' c2' (m + 1) w' →
      Q (.exit 1) ⟨List.toArray (v0 :: v1 :: v2 :: v3 :: v4 :: v5 :: .slice a1' (m + 1) c1' :: .slice a2' (m + 1) c2' :: v8 :: .pointer (some ⟨ba, 0, none⟩) :: u10 :: u11 :: u12 :: v13 :: v14 :: v15 :: v16 :: v17 :: v18 :: v19 :: v20 :: v21 :: v22 :: v23 :: v24 :: v25 :: v26 :: v27 :: v28 :: v29 :: v30 :: v31 :: v32 :: v33 :: v34 :: v35 :: v36 :: v37 :: v38 :: v39 :: v40 :: v41 :: v42 :: v43 :: v44 :: v45 :: v46 :: v47 :: v48 :: v49 :: v50 :: v51 :: v52 :: v53 :: v54 :: v55 :: u56 :: u57 :: u58 :: u59 :: u60 :: u61 :: u62 :: u63 :: u64 :: u65 :: u66 :: u67 :: u68 :: u69 :: u70 :: u71 :: u72 :: u73 :: v74 :: v75 :: v76 :: v77 :: v78 :: v79 :: v80 :: v81 :: v82 :: v83 :: v84 :: v85 :: v86 :: v87 :: v88 :: v89 :: v90 :: v91 :: v92 :: v93 :: v94 :: v95 :: v96 :: v97 :: v98 :: v99 :: v100 :: v101 :: v102 :: v103 :: v104 :: v105 :: v106 :: v107 :: v108 :: v109 :: v110 :: v111 :: v112 :: v113 :: v114 :: v115 :: v116 :: v117 :: v118 :: v119 :: v120 :: v121 :: v122 :: v123 :: v124 :: v125 :: v126 :: v127 :: v128 :: v129 :: v130 :: v131 :: v132 :: v133 :: v134 :: v135 :: v136 :: v137 :: v138 :: v139 :: v140 :: v141 :: v142 :: v143 :: v144 :: v145 :: v146 :: v147 :: v148 :: v149 :: v150 :: v151 :: v152 :: v153 :: v154 :: v155 :: v156 :: v157 :: v158 :: v159 :: v160 :: v161 :: v162 :: v163 :: v164 :: v165 :: v166 :: v167 :: v168 :: v169 :: v170 :: v171 :: v172 :: v173 :: v174 :: v175 :: v176 :: []), []⟩ w') :
    Code.wp Try.prog (pieceA 12) Q ⟨List.toArray (v0 :: v1 :: v2 :: v3 :: v4 :: v5 :: .slice a1 m c1 :: .slice a2 m c2 :: v8 :: .pointer (some ⟨ba, 0, none⟩) :: v10 :: v11 :: v12 :: v13 :: v14 :: v15 :: v16 :: v17 :: v18 :: v19 :: v20 :: v21 :: v22 :: v23 :: v24 :: v25 :: v26 :: v27 :: v28 :: v29 :: v30 :: v31 :: v32 :: v33 :: v34 :: v35 :: v36 :: v37 :: v38 :: v39 :: v40 :: v41 :: v42 :: v43 :: v44 :: v45 :: v46 :: v47 :: v48 :: v49 :: v50 :: v51 :: v52 :: v53 :: v54 :: v55 :: v56 :: v57 :: v58 :: v59 :: v60 :: v61 :: v62 :: v63 :: v64 :: v65 :: v66 :: v67 :: v68 :: v69 :: v70 :: v71 :: v72 :: v73 :: v74 :: v75 :: v76 :: v77 :: v78 :: v79 :: v80 :: v81 :: v82 :: v83 :: v84 :: v85 :: v86 :: v87 :: v88 :: v89 :: v90 :: v91 :: v92 :: v93 :: v94 :: v95 :: v96 :: v97 :: v98 :: v99 :: v100 :: v101 :: v102 :: v103 :: v104 :: v105 :: v106 :: v107 :: v108 :: v109 :: v110 :: v111 :: v112 :: v113 :: v114 :: v115 :: v116 :: v117 :: v118 :: v119 :: v120 :: v121 :: v122 :: v123 :: v124 :: v125 :: v126 :: v127 :: v128 :: v129 :: v130 :: v131 :: v132 :: v133 :: v134 :: v135 :: v136 :: v137 :: v138 :: v139 :: v140 :: v141 :: v142 :: v143 :: v144 :: v145 :: v146 :: v147 :: v148 :: v149 :: v150 :: v151 :: v152 :: v153 :: v154 :: v155 :: v156 :: v157 :: v158 :: v159 :: v160 :: v161 :: v162 :: v163 :: v164 :: v165 :: v166 :: v167 :: v168 :: v169 :: v170 :: v171 :: v172 :: v173 :: v174 :: v175 :: v176 :: []), []⟩ W := by
  unfold RV.v at hB
  have HG := Lib.hid hG
  have HA := Lib.hid hba
  have HQ := Lib.hid hQ
  have HB := Lib.hid hB
  have HOK := Lib.hid (And.intro hok (And.intro hnn (And.intro hk0 (And.intro hre (And.intro hla hra)))))
  obtain ⟨p0, p1, p2, p3, p4, p5⟩ := cells6 (hba)
  clear hG hba hQ hB hok hnn hk0 hre hla hra
  conv => arg 2; whnf
  go_wp2_with fail
  refine (HB.out _ (by (repeat' (first | exact Frm.refl _ _ | apply Frm.drew | apply Frm.drewN)))).mono ?_
  rintro e w2 ⟨q, b, cb, rfl, g1, hAt, hq, hb⟩
  have HG2 := Lib.hid (show Frm [] W w2 from (by (repeat' (first | exact g1 | exact Frm.refl _ _ | apply Frm.drew | apply Frm.drewN))))
  have HAT := Lib.hid hAt
  clear p0 p1 p2 p3 p4 p5 g1 hAt
  go_upto_region 16 with fail
  obtain ⟨W9, hW9⟩ : ∃ W', W' = w2.alloc (.cells #[.bool Rv.W, .int .i64 Rv.V, .int .i64 Rv.F, .slice Rv.la Rv.ln Rv.lc, .int .i64 Rv.many, .int .i64 Rv.tries, .int .i64 Rv.steps, .int .u64 Rv.first, .slice Rv.ra Rv.rn Rv.rcap, .int .u64 Rv.res, .bool Rv.ended] 48) := ⟨_, rfl⟩
  have f9 : Frm [] w2 W9 := by rw [hW9]; exact (Frm.refl _ _).alloc _
  have hb9 : W9.heap[w2.heap.size]? = some (.cells #[.bool Rv.W, .int .i64 Rv.V, .int .i64 Rv.F, .slice Rv.la Rv.ln Rv.lc, .int .i64 Rv.many, .int .i64 Rv.tries, .int .i64 Rv.steps, .int .u64 Rv.first, .slice Rv.ra Rv.rn Rv.rcap, .int .u64 Rv.res, .bool Rv.ended] 48 (0, 0)) := by rw [hW9]; exact heap_alloc_new _ _
  rw [← hW9]
  clear hW9
  have hwz := HG2.out.size
  have hBz := HG.out.frm.size
  have HB9 := Lib.hid hb9
  have HF9 := Lib.hid (HG2.out.trans f9)
  have hl9 := lt_of_heap hb9
  have HG9 := Lib.hid (HG.out.quiet HF9.out)
  have HAT9 := Lib.hid (HAT.out.frm0 f9)
  have HAL := Lib.hid (show ∀ y ∈ bkG a1, w0.heap.size ≤ y ∧ y < W.heap.size from HG.out.pr.from_)
  have HAR := Lib.hid (show ∀ y ∈ bkG a2, w0.heap.size ≤ y ∧ y < W.heap.size from HG.out.rn.from_)
  have HNI : Hid (w2.heap.size ∉ bkG a1 ++ bkG a2) := Lib.hid (fun e => by
    rcases List.mem_append.1 e with e | e
    · have := (HAL.out _ e).2; omega
    · have := (HAR.out _ e).2; omega)
  have hz9 := f9.size
  clear f9 hb9
  refine wp_region_noPanic ?_
  refine wp_region_held_drew (S := fun w' => Frm (bkG a1 ++ bkG a2) W9 w') (by kernel_rfl) ((Frm.refl _ _).drew) (fun hHeld => ?_)
  refine take_in (i := 0) (d := 66) (v := .slice a1 m c1) rfl rfl (by kernel_rfl) (by kernel_rfl) (by kernel_rfl) (fun _ _ _ h => h) (by kernel_rfl) (fun _ _ => rfl) (by assumption) ?_
  try simp only [Act.put, List.setIfInBounds_toArray, List.set_cons_zero, List.set_cons_succ]
  refine take_in (i := 1) (d := 67) (v := .iface (Ip P.R) (.pointer (some ⟨q, 0, none⟩))) rfl rfl (by kernel_rfl) (by kernel_rfl) (by kernel_rfl) (fun _ _ _ h => h) (by kernel_rfl) (fun _ _ => rfl) (by assumption) ?_
  try simp only [Act.put, List.setIfInBounds_toArray, List.set_cons_zero, List.set_cons_succ]
  refine take_in (i := 4) (d := 70) (v := .slice a2 m c2) rfl rfl (by kernel_rfl) (by kernel_rfl) (by kernel_rfl) (fun _ _ _ h => h) (by kernel_rfl) (fun _ _ => rfl) (by assumption) ?_
  try simp only [Act.put, List.setIfInBounds_toArray, List.set_cons_zero, List.set_cons_succ]
  refine take_in (i := 5) (d := 71) (v := .agg #[.bool Rv.W, .int .i64 Rv.V, .int .i64 Rv.F, .slice Rv.la Rv.ln Rv.lc, .int .i64 Rv.many, .int .i64 Rv.tries, .int .i64 Rv.steps, .int .u64 Rv.first, .slice Rv.ra Rv.rn Rv.rcap, .int .u64 Rv.res, .bool Rv.ended]) rfl rfl (by kernel_rfl) (by kernel_rfl) (by kernel_rfl) (fun _ _ _ h => h) (by kernel_rfl) (fun w' hS => by have hS' : Frm (bkG a1 ++ bkG a2) W9 w' := hS; obtain ⟨c0, c1, c2, c3, c4, c5, c6, c7, c8, c9, c10⟩ := cells11 (hS'.heap HB9.out HNI.out); go_simp) (by assumption) ?_
  try simp only [Act.put, List.setIfInBounds_toArray, List.set_cons_zero, List.set_cons_succ]
  refine wpAnyH_ready (rs := [2, 6]) (by kernel_rfl) (by simp) ?_
  refine AllReadyH.cons rfl (fun K hK => ?_) (AllReadyH.cons rfl (fun K hK => ?_) AllReadyH.nil)
  · go_simp
    refine hK.out _ _ (by (repeat' (first | assumption | exact Frm.refl _ _ | apply Frm.drew | apply Frm.drewN | apply Frm.alloc))) (fun hHeld => ?_)
    clear hK K
    try change wpAnyH _ _ _ _ _ _ _ (Act.put _ (some 68) _) _
    try simp only [Act.put, List.setIfInBounds_toArray, List.set_cons_zero, List.set_cons_succ]
    refine wpAnyH_ready (rs := [3, 6]) (by kernel_rfl) (by simp) ?_
    refine AllReadyH.cons rfl (fun K hK => ?_) (AllReadyH.cons rfl (fun K hK => ?_) AllReadyH.nil)
    · refine step_gr Try.underlying41 info_prog2 (by decide) (by decide) (by decide) (by kernel_rfl) (.tmp 66) (.tmp 68) rfl (B := w0.heap.size) (g2 := W9.heap.size) (l := pvE (⟨q, b, cb, P, Rv, []⟩ : En)) (by simp [Act.eval]) (by simp [Act.eval]) (HG9.out.pr.frm0 (by (repeat' (first | assumption | exact Frm.refl _ _ | apply Frm.drew | apply Frm.drewN | apply Frm.alloc)))) rfl (pvE_one _) (heap_alloc_new W9 _) (by omega) (le_frm (D := []) (by (repeat' (first | assumption | exact Frm.refl _ _ | apply Frm.drew | apply Frm.drewN | apply Frm.alloc))) (show w0.heap.size ≤ W9.heap.size by omega)) ?_
      intro a1' c1' w3 g1 f1 b1
      have s3 : Frm (bkG a1 ++ bkG a2) W9 w3 := Frm.trans (by (repeat' (first | assumption | exact Frm.refl _ _ | apply Frm.drew | apply Frm.drewN | apply Frm.alloc))) (f1.weak (fun x hx => List.mem_append.2 (.inl hx)))
      have hrn := (HG9.out.quiet (show Frm [] W9 _ from (by (repeat' (first | assumption | exact Frm.refl _ _ | apply Frm.drew | apply Frm.drewN | apply Frm.alloc))))).rn.frm f1 (fun y hy e => by have e1 := HG9.out.o2 y hy; have e2 := HG9.out.o1 y e; omega)
      have HRN := Lib.hid hrn
      have HS1 := Lib.hid g1
      have HS3 : Hid (∃ X : World, Frm [] W9 X ∧ Frm (bkG a1) X w3 ∧ ∀ y ∈ bkG a1', y ∈ bkG a1 ∨ X.heap.size ≤ y) := Lib.hid ⟨_, (by (repeat' (first | assumption | exact Frm.refl _ _ | apply Frm.drew | apply Frm.drewN | apply Frm.alloc))), f1, b1⟩
      have hz3 := f1.size
      clear hrn f1 g1 b1
      refine hK.out _ _ (by exact s3) (fun hHeld => ?_)
      clear hK K
      try change wpAnyH _ _ _ _ _ _ _ (Act.put _ (some 69) _) _
      try simp only [Act.put, List.setIfInBounds_toArray, List.set_cons_zero, List.set_cons_succ]
      refine wpAnyH_ready (rs := [6]) (by kernel_rfl) (by simp) ?_
      refine AllReadyH.cons rfl (fun K hK => ?_) AllReadyH.nil
      go_simp
      refine hK.out _ _ (by (repeat' (first | assumption | exact Frm.refl _ _ | apply Frm.drew | apply Frm.drewN | apply Frm.alloc))) (fun hHeld => ?_)
      clear hK K
      try change wpAnyH _ _ _ _ _ _ _ (Act.put _ (some 72) _) _
      try simp only [Act.put, List.setIfInBounds_toArray, List.set_cons_zero, List.set_cons_succ]
      refine wpAnyH_ready (rs := [7]) (by kernel_rfl) (by simp) ?_
      refine AllReadyH.cons rfl (fun K hK => ?_) AllReadyH.nil
      refine step_gr Try.underlying42 info_run2 (by decide) (by decide) (by decide) (by kernel_rfl) (.tmp 70) (.tmp 72) rfl (B := w0.heap.size) (g2 := w3.heap.size) (l := RV.cells Rv) (by simp [Act.eval]) (by simp [Act.eval]) (HRN.out.frm0 (by (repeat' (first | assumption | exact Frm.refl _ _ | apply Frm.drew | apply Frm.drewN | apply Frm.alloc)))) rfl (rcells_one _) (heap_alloc_new w3 _) (by omega) (le_frm (D := []) (by (repeat' (first | assumption | exact Frm.refl _ _ | apply Frm.drew | apply Frm.drewN | apply Frm.alloc))) (show w0.heap.size ≤ w3.heap.size by have := s3.size; omega)) ?_
      intro a2' c2' w5 g2 f2 b2
      have s5 : Frm (bkG a1 ++ bkG a2) W9 w5 := Frm.trans (by (repeat' (first | assumption | exact Frm.refl _ _ | apply Frm.drew | apply Frm.drewN | apply Frm.alloc))) (f2.weak (fun x hx => List.mem_append.2 (.inr hx)))
      obtain ⟨X, X1, X2, X3⟩ := HS3.out
      have hGa := HG.out.add (x := (⟨q, b, cb, P, Rv, []⟩ : En)) (HF9.out.trans X1) (HAT9.out.frm0 X1) (by show W.heap.size ≤ q; omega) (by show W.heap.size ≤ b; omega) HOK.out.1 HOK.out.2.1 HOK.out.2.2.1 HOK.out.2.2.2.1 HOK.out.2.2.2.2.1 ⟨HOK.out.2.2.2.2.2.1, HOK.out.2.2.2.2.2.2.1, HOK.out.2.2.2.2.2.2.2, rfl⟩ X2 HS1.out X3 (show Frm [] w3 _ from (by (repeat' (first | assumption | exact Frm.refl _ _ | apply Frm.drew | apply Frm.drewN | apply Frm.alloc)))) f2 g2 b2
      have HGA := Lib.hid hGa
      clear hGa f2 g2 b2 X1 X2 X3
      refine hK.out _ _ (by exact s5) (fun hHeld => ?_)
      clear hK K
      try change wpAnyH _ _ _ _ _ _ _ (Act.put _ (some 73) _) _
      try simp only [Act.put, List.setIfInBounds_toArray, List.set_cons_zero, List.set_cons_succ]
      refine take_in (i := 8) (d := 6) (v := .slice a1' (m + 1) c1') rfl rfl (by kernel_rfl) (by kernel_rfl) (by kernel_rfl) (fun _ _ _ h => h) (by kernel_rfl) (fun _ _ => rfl) (by assumption) ?_
      try simp only [Act.put, List.setIfInBounds_toArray, List.set_cons_zero, List.set_cons_succ]
      refine take_in (i := 9) (d := 7) (v := .slice a2' (m + 1) c2') rfl rfl (by kernel_rfl) (by kernel_rfl) (by kernel_rfl) (fun _ _ _ h => h) (by kernel_rfl) (fun _ _ => rfl) (by assumption) ?_
      try simp only [Act.put, List.setIfInBounds_toArray, List.set_cons_zero, List.set_cons_succ]
      refine wpAnyH_done (by kernel_rfl) ?_ _
      refine NoPanic.normal ?_
      clear s3 s5
      go_wp2
      obtain ⟨own', hE⟩ := HGA.out
      exact HQ.out _ _ _ _ _ _ _ _ _ _ _ _ _ _ _ _ _ _ _ _ _ _ _ _ _ _ ⟨_, _, _, hE⟩
    · go_simp
      refine hK.out _ _ (by (repeat' (first | assumption | exact Frm.refl _ _ | apply Frm.drew | apply Frm.drewN | apply Frm.alloc))) (fun hHeld => ?_)
      clear hK K
      try change wpAnyH _ _ _ _ _ _ _ (Act.put _ (some 72) _) _
      try simp only [Act.put, List.setIfInBounds_toArray, List.set_cons_zero, List.set_cons_succ]
      refine wpAnyH_ready (rs := [3]) (by kernel_rfl) (by simp) ?_
      refine AllReadyH.cons rfl (fun K hK => ?_) AllReadyH.nil
      refine step_gr Try.underlying41 info_prog2 (by decide) (by decide) (by decide) (by kernel_rfl) (.tmp 66) (.tmp 68) rfl (B := w0.heap.size) (g2 := W9.heap.size) (l := pvE (⟨q, b, cb, P, Rv, []⟩ : En)) (by simp [Act.eval]) (by simp [Act.eval]) (HG9.out.pr.frm0 (by (repeat' (first | assumption | exact Frm.refl _ _ | apply Frm.drew | apply Frm.drewN | apply Frm.alloc)))) rfl (pvE_one _) (heap_alloc_old _ (heap_alloc_new W9 _)) (by omega) (le_frm (D := []) (by (repeat' (first | assumption | exact Frm.refl _ _ | apply Frm.drew | apply Frm.drewN | apply Frm.alloc))) (show w0.heap.size ≤ W9.heap.size by omega)) ?_
      intro a1' c1' w3 g1 f1 b1
      have s3 : Frm (bkG a1 ++ bkG a2) W9 w3 := Frm.trans (by (repeat' (first | assumption | exact Frm.refl _ _ | apply Frm.drew | apply Frm.drewN | apply Frm.alloc))) (f1.weak (fun x hx => List.mem_append.2 (.inl hx)))
      have hg2 := f1.heap (alloc2 W9 _ _) (show (W9.heap.size + 1) ∉ bkG a1 from fun e => by have := (HAL.out _ e).2; omega)
      have hrn := (HG9.out.quiet (show Frm [] W9 _ from (by (repeat' (first | assumption | exact Frm.refl _ _ | apply Frm.drew | apply Frm.drewN | apply Frm.alloc))))).rn.frm f1 (fun y hy e => by have e1 := HG9.out.o2 y hy; have e2 := HG9.out.o1 y e; omega)
      have HRN := Lib.hid hrn
      have HS1 := Lib.hid g1
      have HS3 : Hid (∃ X : World, Frm [] W9 X ∧ Frm (bkG a1) X w3 ∧ ∀ y ∈ bkG a1', y ∈ bkG a1 ∨ X.heap.size ≤ y) := Lib.hid ⟨_, (by (repeat' (first | assumption | exact Frm.refl _ _ | apply Frm.drew | apply Frm.drewN | apply Frm.alloc))), f1, b1⟩
      have hz3 := f1.size
      clear hrn f1 g1 b1
      refine hK.out _ _ (by exact s3) (fun hHeld => ?_)
      clear hK K
      try change wpAnyH _ _ _ _ _ _ _ (Act.put _ (some 69) _) _
      try simp only [Act.put, List.setIfInBounds_toArray, List.set_cons_zero, List.set_cons_succ]
      refine wpAnyH_ready (rs := [7]) (by kernel_rfl) (by simp) ?_
      refine AllReadyH.cons rfl (fun K hK => ?_) AllReadyH.nil
      refine step_gr Try.underlying42 info_run2 (by decide) (by decide) (by decide) (by kernel_rfl) (.tmp 70) (.tmp 72) rfl (B := w0.heap.size) (g2 := (W9.heap.size + 1)) (l := RV.cells Rv) (by simp [Act.eval]) (by simp [Act.eval]) (HRN.out.frm0 (by (repeat' (first | assumption | exact Frm.refl _ _ | apply Frm.drew | apply Frm.drewN | apply Frm.alloc)))) rfl (rcells_one _) (hg2) (by omega) (le_frm (D := []) (by (repeat' (first | assumption | exact Frm.refl _ _ | apply Frm.drew | apply Frm.drewN | apply Frm.alloc))) (show w0.heap.size ≤ w3.heap.size by have := s3.size; omega)) ?_
      intro a2' c2' w5 g2 f2 b2
      have s5 : Frm (bkG a1 ++ bkG a2) W9 w5 := Frm.trans (by (repeat' (first | assumption | exact Frm.refl _ _ | apply Frm.drew | apply Frm.drewN | apply Frm.alloc))) (f2.weak (fun x hx => List.mem_append.2 (.inr hx)))
      obtain ⟨X, X1, X2, X3⟩ := HS3.out
      have hGa := HG.out.add (x := (⟨q, b, cb, P, Rv, []⟩ : En)) (HF9.out.trans X1) (HAT9.out.frm0 X1) (by show W.heap.size ≤ q; omega) (by show W.heap.size ≤ b; omega) HOK.out.1 HOK.out.2.1 HOK.out.2.2.1 HOK.out.2.2.2.1 HOK.out.2.2.2.2.1 ⟨HOK.out.2.2.2.2.2.1, HOK.out.2.2.2.2.2.2.1, HOK.out.2.2.2.2.2.2.2, rfl⟩ X2 HS1.out X3 (show Frm [] w3 _ from (by (repeat' (first | assumption | exact Frm.refl _ _ | apply Frm.drew | apply Frm.drewN | apply Frm.alloc)))) f2 g2 b2
      have HGA := Lib.hid hGa
      clear hGa f2 g2 b2 X1 X2 X3
      refine hK.out _ _ (by exact s5) (fun hHeld => ?_)
      clear hK K
      try change wpAnyH _ _ _ _ _ _ _ (Act.put _ (some 73) _) _
      try simp only [Act.put, List.setIfInBounds_toArray, List.set_cons_zero, List.set_cons_succ]
      refine take_in (i := 8) (d := 6) (v := .slice a1' (m + 1) c1') rfl rfl (by kernel_rfl) (by kernel_rfl) (by kernel_rfl) (fun _ _ _ h => h) (by kernel_rfl) (fun _ _ => rfl) (by assumption) ?_
      try simp only [Act.put, List.setIfInBounds_toArray, List.set_cons_zero, List.set_cons_succ]
      refine take_in (i := 9) (d := 7) (v := .slice a2' (m + 1) c2') rfl rfl (by kernel_rfl) (by kernel_rfl) (by kernel_rfl) (fun _ _ _ h => h) (by kernel_rfl) (fun _ _ => rfl) (by assumption) ?_
      try simp only [Act.put, List.setIfInBounds_toArray, List.set_cons_zero, List.set_cons_succ]
      refine wpAnyH_done (by kernel_rfl) ?_ _
      refine NoPanic.normal ?_
      clear s3 s5
      go_wp2
      obtain ⟨own', hE⟩ := HGA.out
      exact HQ.out _ _ _ _ _ _ _ _ _ _ _ _ _ _ _ _ _ _ _ _ _ _ _ _ _ _ ⟨_, _, _, hE⟩
  · go_simp
    refine hK.out _ _ (by (repeat' (first | assumption | exact Frm.refl _ _ | apply Frm.drew | apply Frm.drewN | apply Frm.alloc))) (fun hHeld => ?_)
    clear hK K
    try change wpAnyH _ _ _ _ _ _ _ (Act.put _ (some 72) _) _
    try simp only [Act.put, List.setIfInBounds_toArray, List.set_cons_zero, List.set_cons_succ]
    refine wpAnyH_ready (rs := [2]) (by kernel_rfl) (by simp) ?_
    refine AllReadyH.cons rfl (fun K hK => ?_) AllReadyH.nil
    go_simp
    refine hK.out _ _ (by (repeat' (first | assumption | exact Frm.refl _ _ | apply Frm.drew | apply Frm.drewN | apply Frm.alloc))) (fun hHeld => ?_)
    clear hK K
    try change wpAnyH _ _ _ _ _ _ _ (Act.put _ (some 68) _) _
    try simp only [Act.put, List.setIfInBounds_toArray, List.set_cons_zero, List.set_cons_succ]
    refine wpAnyH_ready (rs := [3]) (by kernel_rfl) (by simp) ?_
    refine AllReadyH.cons rfl (fun K hK => ?_) AllReadyH.nil
    refine step_gr Try.underlying41 info_prog2 (by decide) (by decide) (by decide) (by kernel_rfl) (.tmp 66) (.tmp 68) rfl (B := w0.heap.size) (g2 := (W9.heap.size + 1)) (l := pvE (⟨q, b, cb, P, Rv, []⟩ : En)) (by simp [Act.eval]) (by simp [Act.eval]) (HG9.out.pr.frm0 (by (repeat' (first | assumption | exact Frm.refl _ _ | apply Frm.drew | apply Frm.drewN | apply Frm.alloc)))) rfl (pvE_one _) (alloc2 W9 _ _) (by omega) (le_frm (D := []) (by (repeat' (first | assumption | exact Frm.refl _ _ | apply Frm.drew | apply Frm.drewN | apply Frm.alloc))) (show w0.heap.size ≤ W9.heap.size by omega)) ?_
    intro a1' c1' w3 g1 f1 b1
    have s3 : Frm (bkG a1 ++ bkG a2) W9 w3 := Frm.trans (by (repeat' (first | assumption | exact Frm.refl _ _ | apply Frm.drew | apply Frm.drewN | apply Frm.alloc))) (f1.weak (fun x hx => List.mem_append.2 (.inl hx)))
    have hg2 := f1.heap (heap_alloc_old _ (heap_alloc_new W9 _)) (show W9.heap.size ∉ bkG a1 from fun e => by have := (HAL.out _ e).2; omega)
    have hrn := (HG9.out.quiet (show Frm [] W9 _ from (by (repeat' (first | assumption | exact Frm.refl _ _ | apply Frm.drew | apply Frm.drewN | apply Frm.alloc))))).rn.frm f1 (fun y hy e => by have e1 := HG9.out.o2 y hy; have e2 := HG9.out.o1 y e; omega)
    have HRN := Lib.hid hrn
    have HS1 := Lib.hid g1
    have HS3 : Hid (∃ X : World, Frm [] W9 X ∧ Frm (bkG a1) X w3 ∧ ∀ y ∈ bkG a1', y ∈ bkG a1 ∨ X.heap.size ≤ y) := Lib.hid ⟨_, (by (repeat' (first | assumption | exact Frm.refl _ _ | apply Frm.drew | apply Frm.drewN | apply Frm.alloc))), f1, b1⟩
    have hz3 := f1.size
    clear hrn f1 g1 b1
    refine hK.out _ _ (by exact s3) (fun hHeld => ?_)
    clear hK K
    try change wpAnyH _ _ _ _ _ _ _ (Act.put _ (some 69) _) _
    try simp only [Act.put, List.setIfInBounds_toArray, List.set_cons_zero, List.set_cons_succ]
    refine wpAnyH_ready (rs := [7]) (by kernel_rfl) (by simp) ?_
    refine AllReadyH.cons rfl (fun K hK => ?_) AllReadyH.nil
    refine step_gr Try.underlying42 info_run2 (by decide) (by decide) (by decide) (by kernel_rfl) (.tmp 70) (.tmp 72) rfl (B := w0.heap.size) (g2 := W9.heap.size) (l := RV.cells Rv) (by simp [Act.eval]) (by simp [Act.eval]) (HRN.out.frm0 (by (repeat' (first | assumption | exact Frm.refl _ _ | apply Frm.drew | apply Frm.drewN | apply Frm.alloc)))) rfl (rcells_one _) (hg2) (by omega) (le_frm (D := []) (by (repeat' (first | assumption | exact Frm.refl _ _ | apply Frm.drew | apply Frm.drewN | apply Frm.alloc))) (show w0.heap.size ≤ w3.heap.size by have := s3.size; omega)) ?_
    intro a2' c2' w5 g2 f2 b2
    have s5 : Frm (bkG a1 ++ bkG a2) W9 w5 := Frm.trans (by (repeat' (first | assumption | exact Frm.refl _ _ | apply Frm.drew | apply Frm.drewN | apply Frm.alloc))) (f2.weak (fun x hx => List.mem_append.2 (.inr hx)))
    obtain ⟨X, X1, X2, X3⟩ := HS3.out
    have hGa := HG.out.add (x := (⟨q, b, cb, P, Rv, []⟩ : En)) (HF9.out.trans X1) (HAT9.out.frm0 X1) (by show W.heap.size ≤ q; omega) (by show W.heap.size ≤ b; omega) HOK.out.1 HOK.out.2.1 HOK.out.2.2.1 HOK.out.2.2.2.1 HOK.out.2.2.2.2.1 ⟨HOK.out.2.2.2.2.2.1, HOK.out.2.2.2.2.2.2.1, HOK.out.2.2.2.2.2.2.2, rfl⟩ X2 HS1.out X3 (show Frm [] w3 _ from (by (repeat' (first | assumption | exact Frm.refl _ _ | apply Frm.drew | apply Frm.drewN | apply Frm.alloc)))) f2 g2 b2
    have HGA := Lib.hid hGa
    clear hGa f2 g2 b2 X1 X2 X3
    refine hK.out _ _ (by exact s5) (fun hHeld => ?_)
    clear hK K
    try change wpAnyH _ _ _ _ _ _ _ (Act.put _ (some 73) _) _
    try simp only [Act.put, List.setIfInBounds_toArray, List.set_cons_zero, List.set_cons_succ]
    refine take_in (i := 8) (d := 6) (v := .slice a1' (m + 1) c1') rfl rfl (by kernel_rfl) (by kernel_rfl) (by kernel_rfl) (fun _ _ _ h => h) (by kernel_rfl) (fun _ _ => rfl) (by assumption) ?_
    try simp only [Act.put, List.setIfInBounds_toArray, List.set_cons_zero, List.set_cons_succ]
    refine take_in (i := 9) (d := 7) (v := .slice a2' (m + 1) c2') rfl rfl (by kernel_rfl) (by kernel_rfl) (by kernel_rfl) (fun _ _ _ h => h) (by kernel_rfl) (fun _ _ => rfl) (by assumption) ?_
    try simp only [Act.put, List.setIfInBounds_toArray, List.set_cons_zero, List.set_cons_succ]
    refine wpAnyH_done (by kernel_rfl) ?_ _
    refine NoPanic.normal ?_
    clear s3 s5
    go_wp2
    obtain ⟨own', hE⟩ := HGA.out
    exact HQ.out _ _ _ _ _ _ _ _ _ _ _ _ _ _ _ _ _ _ _ _ _ _ _ _ _ _ ⟨_, _, _, hE⟩
end
end Go.Proofs.Ytbhnijkphkkalaa
