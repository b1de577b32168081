/- The reference's Of: its six stores, as a piece (by gen_lxh2.py). -/
import Derived.Test.YtjhidkjhfgbaeaaGreatDoorBn16
import Derived.BigRegion
namespace Go.Proofs.YtjhidkjhfgbaeaaGreatDoor
open Go.ChangeShapes Go.WideShapes Go.ChangeAt Go.RowKit
set_option linter.unusedVariables false
set_option linter.unusedSimpArgs false
theorem RsAt.drew {w : World} {b : Nat} {s : LS} (h : RsAt w b s) : RsAt w.drew b s := h
set_option maxRecDepth 1000000 in
set_option maxHeartbeats 4000000 in
theorem of13 {R : Ending → World → Prop} {W : World} {s : LS} {q6 q8 w1 : Nat} (v0 v1 v2 v3 v4 v5 v7 v9 v10 v11 v12 v13 v14 v15 v16 v17 v18 v19 v20 v21 v22 v23 v24 v25 v26 v27 v28 v29 v30 v31 v32 v33 v34 v35 v36 v37 v38 v39 v40 v41 v42 v43 v44 v45 v46 v47 v48 v49 v50 v51 v52 v53 v54 v55 v56 v57 : Value) (h6 : RsAt W q6 s) (hA : W.heap[q8]? = some (.cells (arr6 w1 6) 116 (0, 0))) (hne : q8 ≠ q6)
    (hrest : ∀ (v33 v34 v35 v36 v37 v38 v39 v40 v41 v42 v43 v44 v45 v46 v47 v48 v49 v50 : Value) (W' : World), RsAt W' q6 ⟨s.sh, nmI w1 0 - 1, nmI w1 1 - 1, nmI w1 2 - 1, nmI w1 5, nmI w1 3 - 1, nmI w1 4 - 1⟩ → Frm [q6] W W' → Code.wp Tryz.prog (ofT 6) (bodyPost Tryz.prog Tryz.f12 R) ⟨List.toArray (v0 :: v1 :: v2 :: v3 :: v4 :: v5 :: .pointer (some ⟨q6, 0, none⟩) :: v7 :: .pointer (some ⟨q8, 0, none⟩) :: v9 :: v10 :: v11 :: v12 :: v13 :: v14 :: v15 :: v16 :: v17 :: v18 :: v19 :: v20 :: v21 :: v22 :: v23 :: v24 :: v25 :: v26 :: v27 :: v28 :: v29 :: v30 :: v31 :: v32 :: v33 :: v34 :: v35 :: v36 :: v37 :: v38 :: v39 :: v40 :: v41 :: v42 :: v43 :: v44 :: v45 :: v46 :: v47 :: v48 :: v49 :: v50 :: v51 :: v52 :: v53 :: v54 :: v55 :: v56 :: v57 :: []), []⟩ W') :
    Code.wp Tryz.prog (ofT 5) (bodyPost Tryz.prog Tryz.f12 R) ⟨List.toArray (v0 :: v1 :: v2 :: v3 :: v4 :: v5 :: .pointer (some ⟨q6, 0, none⟩) :: v7 :: .pointer (some ⟨q8, 0, none⟩) :: v9 :: v10 :: v11 :: v12 :: v13 :: v14 :: v15 :: v16 :: v17 :: v18 :: v19 :: v20 :: v21 :: v22 :: v23 :: v24 :: v25 :: v26 :: v27 :: v28 :: v29 :: v30 :: v31 :: v32 :: v33 :: v34 :: v35 :: v36 :: v37 :: v38 :: v39 :: v40 :: v41 :: v42 :: v43 :: v44 :: v45 :: v46 :: v47 :: v48 :: v49 :: v50 :: v51 :: v52 :: v53 :: v54 :: v55 :: v56 :: v57 :: []), []⟩ W := by
  obtain ⟨a0, a1, a2, a3, a4, a5⟩ := arr6_cells hA
  have hl6 := lt_of_heap h6
  have hl8 := lt_of_heap hA
  obtain ⟨n0, n1, n2, n3, n4, n5⟩ := h6.nums
  have hfz : ∀ i, W.frozen? ⟨q6, i, none⟩ = false := fun i => frozen_of_heap h6
  have H6 := Lib.hid h6
  have HR := Lib.hid hrest
  clear h6 hA hrest
  rw [show ofT 5 = .seq (fstS (ofT 5)) (ofT 6) from by kernel_rfl]
  refine wp_seq_k ?_
  intro K hK0
  have HK0 := Lib.hid hK0
  clear hK0
  conv => arg 2; whnf
  go_region
  refine HK0.out _ _ ?_
  exact HR.out _ _ _ _ _ _ _ _ _ _ _ _ _ _ _ _ _ _ _ (H6.out.six (nmI w1 0) (nmI w1 1) (nmI w1 2) (nmI w1 3) (nmI w1 4) (nmI w1 5)).drew (((((((Frm.refl [q6] W).setCell _ _ (.inl (List.mem_singleton.2 rfl))).setCell _ _ (.inl (List.mem_singleton.2 rfl))).setCell _ _ (.inl (List.mem_singleton.2 rfl))).setCell _ _ (.inl (List.mem_singleton.2 rfl))).setCell _ _ (.inl (List.mem_singleton.2 rfl))).setCell _ _ (.inl (List.mem_singleton.2 rfl))).drew
end Go.Proofs.YtjhidkjhfgbaeaaGreatDoor
