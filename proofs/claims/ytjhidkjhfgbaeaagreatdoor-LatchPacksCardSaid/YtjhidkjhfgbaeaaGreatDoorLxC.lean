/- The reference's Right, its first pieces (by gen_lxb.py). -/
import Derived.Test.YtjhidkjhfgbaeaaGreatDoorBn14
namespace Go.Proofs.YtjhidkjhfgbaeaaGreatDoor
open Go.ChangeShapes Go.WideShapes Go.ChangeAt Go.RowKit
set_option linter.unusedVariables false
set_option linter.unusedSimpArgs false
attribute [local go_sem ↓] ldS_eq
theorem beq_of_iff {a b : Int} (e : a = 0 ↔ b = 0) : (a == 0) = (b == 0) := by
  by_cases f0 : a = 0
  · rw [f0, e.1 f0]
  · rw [beq_eq_false_iff_ne.2 f0, beq_eq_false_iff_ne.2 (fun g => f0 (e.2 g))]
theorem r3_no {s : LS} (h : ¬ (s.fi = -1 ∧ s.la = -1 ∨ (0 ≤ s.fi ∧ s.fi < 128 ∧ s.fi % 2 = 1) ∧ 0 ≤ s.la ∧ s.la < 128 ∧ s.la % 2 = 1)) : s.r3 = false := by
  have : (s.fi == -1 && s.la == -1 || isL 64 s.fi && isL 64 s.la) = false := by
    rw [Bool.eq_false_iff]
    intro e
    apply h
    simpa [isL] using e
  rw [LS.r3, this]; rfl
theorem r3_yes {s : LS} (h : s.fi = -1 ∧ s.la = -1 ∨ (0 ≤ s.fi ∧ s.fi < 128 ∧ s.fi % 2 = 1) ∧ 0 ≤ s.la ∧ s.la < 128 ∧ s.la % 2 = 1) : s.r3 = s.r5 := by
  have : (s.fi == -1 && s.la == -1 || isL 64 s.fi && isL 64 s.la) = true := by simpa [isL] using h
  rw [LS.r3, this]; rfl
theorem r1_no {s : LS} (h : ¬ (-1 ≤ s.up ∧ s.up < 64 ∧ -1 ≤ s.ex ∧ s.ex < 64 ∧ (s.wa = -1 ∨ s.wa = s.up) ∧ 0 ≤ s.gr ∧ s.gr ≤ 4)) : s.r1 = false := by
  have : (isT 64 s.up && isT 64 s.ex && (s.wa == -1 || s.wa == s.up) && decide (0 ≤ s.gr) && decide (s.gr ≤ 4)) = false := by
    rw [Bool.eq_false_iff]
    intro e
    apply h
    simp [isT] at e
    omega
  rw [LS.r1, this]; rfl
theorem r1_yes {s : LS} (h : -1 ≤ s.up ∧ s.up < 64 ∧ -1 ≤ s.ex ∧ s.ex < 64 ∧ (s.wa = -1 ∨ s.wa = s.up) ∧ 0 ≤ s.gr ∧ s.gr ≤ 4) : s.r1 = s.r3 := by
  have : (isT 64 s.up && isT 64 s.ex && (s.wa == -1 || s.wa == s.up) && decide (0 ≤ s.gr) && decide (s.gr ≤ 4)) = true := by simp [isT]; omega
  rw [LS.r1, this]; rfl
set_option maxRecDepth 1000000 in
set_option maxHeartbeats 4000000 in
theorem right3 {w W : World} {b : Nat} {s : LS} (hF : Frm [] w W) (h : RsAt W b s) (hsh : s.sh < 18446744073709551616) (hu : -1 ≤ s.up ∧ s.up < 64) (hfi : -1 ≤ s.fi ∧ s.fi < 255) (hla : -1 ≤ s.la ∧ s.la < 255) (v0 v3 v4 v5 v6 v7 v8 v9 v10 v11 v12 v13 v14 v15 v16 v17 v18 v19 v20 v21 v22 v23 v24 v25 v26 v27 v28 v29 v30 v31 v32 v33 v34 v35 v36 v37 v38 v39 v40 v41 v42 v43 v44 v45 v46 v47 v48 v49 v50 v51 v52 v53 v54 v55 v56 v57 v58 v59 v60 v61 v62 v63 v64 v65 v66 v67 v68 v69 v70 v71 v72 v73 v74 v75 v76 v77 v78 v79 v80 v81 v82 v83 v84 v85 v86 v87 v88 v89 v90 v91 v92 v93 v94 v95 v96 v97 v98 v99 v100 v101 v102 v103 v104 v105 v106 v107 v108 v109 v110 v111 v112 v113 v114 v115 v116 : Value) :
    Code.wp Tryz.prog (rgT 2) (bodyPost Tryz.prog Tryz.f44 (Ret (.bool (s.r3)) (fun w' => Frm [] w w'))) ⟨List.toArray (v0 :: .pointer (some ⟨b, 0, none⟩) :: .bool false :: v3 :: v4 :: v5 :: v6 :: v7 :: v8 :: v9 :: v10 :: v11 :: v12 :: v13 :: v14 :: v15 :: v16 :: v17 :: v18 :: v19 :: v20 :: v21 :: v22 :: v23 :: v24 :: v25 :: v26 :: v27 :: v28 :: v29 :: v30 :: v31 :: v32 :: v33 :: v34 :: v35 :: v36 :: v37 :: v38 :: v39 :: v40 :: v41 :: v42 :: v43 :: v44 :: v45 :: v46 :: v47 :: v48 :: v49 :: v50 :: v51 :: v52 :: v53 :: v54 :: v55 :: v56 :: v57 :: v58 :: v59 :: v60 :: v61 :: v62 :: v63 :: v64 :: v65 :: v66 :: v67 :: v68 :: v69 :: v70 :: v71 :: v72 :: v73 :: v74 :: v75 :: v76 :: v77 :: v78 :: v79 :: v80 :: v81 :: v82 :: v83 :: v84 :: v85 :: v86 :: v87 :: v88 :: v89 :: v90 :: v91 :: v92 :: v93 :: v94 :: v95 :: v96 :: v97 :: v98 :: v99 :: v100 :: v101 :: v102 :: v103 :: v104 :: v105 :: v106 :: v107 :: v108 :: v109 :: v110 :: v111 :: v112 :: v113 :: v114 :: v115 :: v116 :: []), []⟩ W := by
  have HF := Lib.hid hF
  have HS := Lib.hid h
  have HSH := Lib.hid hsh
  have hbl := lt_of_heap h
  obtain ⟨c0, c1, c2, c3, c4, c5⟩ := h.nums
  clear hF h
  rw [show rgT 2 = .seq (fstS (rgT 2)) (rgT 3) from by kernel_rfl]
  refine wp_seq_k ?_
  intro K hK
  have HK := Lib.hid hK
  clear hK
  conv => arg 2; whnf
  go_wp2_with fail
  all_goals try first
    | (refine HK.out _ _ ?_; rw [r3_yes (by omega)]; exact right5 HF.out HS.out HSH.out hu _ _ _ _ _ _ _ _ _ _ _ _ _ _ _ _ _ _ _ _ _ _ _ _ _ _ _ _ _ _ _ _ _ _ _ _ _ _ _ _ _ _ _ _ _ _ _ _ _ _ _ _ _ _ _ _ _ _ _ _ _ _ _ _ _ _ _ _ _ _ _ _ _ _ _ _ _ _ _ _ _ _ _ _ _ _ _ _ _ _ _ _ _ _ _ _ _ _ _ _ _ _ _ _ _ _ _ _ _ _ _ _ _ _ _)
    | (go_ret; exact ⟨by rw [r3_no (by omega)]; rfl, HF.out⟩)
    | (rename_i hx; have hy : (s.fi + 1 = 0 ↔ s.la + 1 = 0) := (by clear HF HS HSH HK c0 c1 c2 c3 c4 c5; by_cases f0 : s.fi + 1 = 0 <;> by_cases l0 : s.la + 1 = 0 <;> simp_all); refine HK.out _ _ ?_; rw [r3_yes (by omega)]; exact right5 HF.out HS.out HSH.out hu _ _ _ _ _ _ _ _ _ _ _ _ _ _ _ _ _ _ _ _ _ _ _ _ _ _ _ _ _ _ _ _ _ _ _ _ _ _ _ _ _ _ _ _ _ _ _ _ _ _ _ _ _ _ _ _ _ _ _ _ _ _ _ _ _ _ _ _ _ _ _ _ _ _ _ _ _ _ _ _ _ _ _ _ _ _ _ _ _ _ _ _ _ _ _ _ _ _ _ _ _ _ _ _ _ _ _ _ _ _ _ _ _ _ _)
    | (rename_i hx; have hy : ¬ (s.fi + 1 = 0 ↔ s.la + 1 = 0) := (by intro e; have q := beq_of_iff e; rw [q] at hx; simp at hx; omega); go_ret; exact ⟨by rw [r3_no (by omega)]; rfl, HF.out⟩)
set_option maxRecDepth 1000000 in
set_option maxHeartbeats 4000000 in
theorem right1 {w W : World} {b : Nat} {s : LS} (hF : Frm [] w W) (h : RsAt W b s) (hsh : s.sh < 18446744073709551616) (hu : -1 ≤ s.up ∧ s.up < 255) (hx : -1 ≤ s.ex ∧ s.ex < 255) (hw : -1 ≤ s.wa ∧ s.wa < 255) (hfi : -1 ≤ s.fi ∧ s.fi < 255) (hla : -1 ≤ s.la ∧ s.la < 255) (v0 v3 v4 v5 v6 v7 v8 v9 v10 v11 v12 v13 v14 v15 v16 v17 v18 v19 v20 v21 v22 v23 v24 v25 v26 v27 v28 v29 v30 v31 v32 v33 v34 v35 v36 v37 v38 v39 v40 v41 v42 v43 v44 v45 v46 v47 v48 v49 v50 v51 v52 v53 v54 v55 v56 v57 v58 v59 v60 v61 v62 v63 v64 v65 v66 v67 v68 v69 v70 v71 v72 v73 v74 v75 v76 v77 v78 v79 v80 v81 v82 v83 v84 v85 v86 v87 v88 v89 v90 v91 v92 v93 v94 v95 v96 v97 v98 v99 v100 v101 v102 v103 v104 v105 v106 v107 v108 v109 v110 v111 v112 v113 v114 v115 v116 : Value) :
    Code.wp Tryz.prog (rgT 1) (bodyPost Tryz.prog Tryz.f44 (Ret (.bool (s.r1)) (fun w' => Frm [] w w'))) ⟨List.toArray (v0 :: .pointer (some ⟨b, 0, none⟩) :: .bool false :: v3 :: v4 :: v5 :: v6 :: v7 :: v8 :: v9 :: v10 :: v11 :: v12 :: v13 :: v14 :: v15 :: v16 :: v17 :: v18 :: v19 :: v20 :: v21 :: v22 :: v23 :: v24 :: v25 :: v26 :: v27 :: v28 :: v29 :: v30 :: v31 :: v32 :: v33 :: v34 :: v35 :: v36 :: v37 :: v38 :: v39 :: v40 :: v41 :: v42 :: v43 :: v44 :: v45 :: v46 :: v47 :: v48 :: v49 :: v50 :: v51 :: v52 :: v53 :: v54 :: v55 :: v56 :: v57 :: v58 :: v59 :: v60 :: v61 :: v62 :: v63 :: v64 :: v65 :: v66 :: v67 :: v68 :: v69 :: v70 :: v71 :: v72 :: v73 :: v74 :: v75 :: v76 :: v77 :: v78 :: v79 :: v80 :: v81 :: v82 :: v83 :: v84 :: v85 :: v86 :: v87 :: v88 :: v89 :: v90 :: v91 :: v92 :: v93 :: v94 :: v95 :: v96 :: v97 :: v98 :: v99 :: v100 :: v101 :: v102 :: v103 :: v104 :: v105 :: v106 :: v107 :: v108 :: v109 :: v110 :: v111 :: v112 :: v113 :: v114 :: v115 :: v116 :: []), []⟩ W := by
  have HF := Lib.hid hF
  have HS := Lib.hid h
  have HSH := Lib.hid hsh
  have hbl := lt_of_heap h
  obtain ⟨c0, c1, c2, c3, c4, c5⟩ := h.nums
  clear hF h
  rw [show rgT 1 = .seq (fstS (rgT 1)) (rgT 2) from by kernel_rfl]
  refine wp_seq_k ?_
  intro K hK
  have HK := Lib.hid hK
  clear hK
  conv => arg 2; whnf
  go_wp2_with fail
  all_goals try first
    | (refine HK.out _ _ ?_; rw [r1_yes (by omega)]; exact right3 HF.out HS.out HSH.out (by omega) hfi hla _ _ _ _ _ _ _ _ _ _ _ _ _ _ _ _ _ _ _ _ _ _ _ _ _ _ _ _ _ _ _ _ _ _ _ _ _ _ _ _ _ _ _ _ _ _ _ _ _ _ _ _ _ _ _ _ _ _ _ _ _ _ _ _ _ _ _ _ _ _ _ _ _ _ _ _ _ _ _ _ _ _ _ _ _ _ _ _ _ _ _ _ _ _ _ _ _ _ _ _ _ _ _ _ _ _ _ _ _ _ _ _ _ _ _)
    | (go_ret; exact ⟨by rw [r1_no (by omega)]; rfl, HF.out⟩)
    | (rename_i hx; have hy : (s.fi + 1 = 0 ↔ s.la + 1 = 0) := (by clear HF HS HSH HK c0 c1 c2 c3 c4 c5; by_cases f0 : s.fi + 1 = 0 <;> by_cases l0 : s.la + 1 = 0 <;> simp_all); refine HK.out _ _ ?_; rw [r1_yes (by omega)]; exact right3 HF.out HS.out HSH.out (by omega) hfi hla _ _ _ _ _ _ _ _ _ _ _ _ _ _ _ _ _ _ _ _ _ _ _ _ _ _ _ _ _ _ _ _ _ _ _ _ _ _ _ _ _ _ _ _ _ _ _ _ _ _ _ _ _ _ _ _ _ _ _ _ _ _ _ _ _ _ _ _ _ _ _ _ _ _ _ _ _ _ _ _ _ _ _ _ _ _ _ _ _ _ _ _ _ _ _ _ _ _ _ _ _ _ _ _ _ _ _ _ _ _ _ _ _ _ _)
    | (rename_i hx; have hy : ¬ (s.fi + 1 = 0 ↔ s.la + 1 = 0) := (by intro e; have q := beq_of_iff e; rw [q] at hx; simp at hx; omega); go_ret; exact ⟨by rw [r1_no (by omega)]; rfl, HF.out⟩)
end Go.Proofs.YtjhidkjhfgbaeaaGreatDoor
