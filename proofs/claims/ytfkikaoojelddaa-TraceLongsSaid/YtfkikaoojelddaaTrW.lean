/- Stage 13: known. (By gen_trw.py.) -/
import Derived.Test.YtfkikaoojelddaaTrV
import Derived.Test.YtfkikaoojelddaaTrJ
namespace Go.Proofs.Ytfkikaoojelddaa
open Go.ChangeShapes Go.WideShapes Go.ChangeAt Go.RowKit
set_option linter.unusedVariables false
set_option linter.unusedSimpArgs false
theorem wpAnyH_via {P : Program} {md : Region.Mode} {ops : Array Oper} {Q : Exit → Act → World → Prop} {S : World → Prop} {fuel : Nat} {listed : Array Bool} {a : Act} {w : World} (fuel' : Nat) (L' : Array Bool) (R : Act → World → Prop)
    (h1 : ∀ a' w', R a' w' → wpAnyH P md ops Q S fuel' L' a' w') (h2 : Hid (∀ a' w', R a' w' → wpAnyH P md ops Q S fuel' L' a' w') → wpAnyH P md ops Q S fuel listed a w) : wpAnyH P md ops Q S fuel listed a w := h2 (Lib.hid h1)
theorem wpAnyH_cast {P : Program} {md : Region.Mode} {ops : Array Oper} {Q : Exit → Act → World → Prop} {S : World → Prop} {fuel : Nat} {listed : Array Bool} (L : Array Bool) {a : Act} {w : World} (h : listed = L) (H : wpAnyH P md ops Q S fuel L a w) : wpAnyH P md ops Q S fuel listed a w := by subst h; exact H
def kdA : Dd := ⟨0, ⟨2, 5, 0, 1⟩, false, false⟩
def kdB : Dd := ⟨1, ⟨1, 5, 0, 0⟩, true, false⟩
def kdC : Dd := ⟨1, ⟨1, 5, 1, 1⟩, false, false⟩
def kdX : Dd := ⟨1, ⟨1, 5, 1, 2⟩, false, false⟩
def kdY : Dd := ⟨1, ⟨0, 0, 0, 0⟩, false, true⟩
def ddOkB (d : Dd) : Bool := (Lit.int .i64 d.i).wf && (Lit.int .i64 d.a.k).wf && (Lit.int .i64 d.a.w).wf && (Lit.int .u64 d.a.b).wf && (Lit.int .u64 d.a.a).wf
theorem kd_ok (l : List Dd) (h : l.all ddOkB = true) : ∀ d ∈ l, DdOk d := fun d hd => by
  have := List.all_eq_true.1 h d hd
  unfold ddOkB at this
  simp only [Bool.and_eq_true] at this
  exact ⟨this.1.1.1.1, this.1.1.1.2, this.1.1.2, this.1.2, this.2⟩
theorem gr_wd1 {w : World} {g : Nat} {x : Wd} (h : w.heap[g]? = some (.cells x.cells.toArray 52 (0, 0))) : Gr 52 5 0 w (some ⟨g, 0, none⟩) 1 1 (wdF [x]) := by
  refine ⟨fun i hi => ?_, Nat.le_refl _, .inr ⟨g, _, rfl, Nat.zero_le _, h, by simp [Wd.cells], fun i hi j v hv => ?_⟩⟩
  · rfl
  · obtain rfl : i = 0 := by omega
    rw [Nat.zero_mul, Nat.zero_add, List.getElem?_toArray]; exact hv
theorem li_take {k : IntKind} {w : World} {a : Option Addr} {n c b o : Nat} {l : List Int} (h : Li k w a n c b o l) {i : Nat} (hi : i ≤ n) : Li k w a i c b o (l.take i) := by
  have hc := h.cap
  refine ⟨by rw [List.length_take, h.len]; omega, fun hp => h.ad (by omega), fun j x hx => ?_, by omega⟩
  rw [List.getElem?_take] at hx
  split at hx
  · exact h.cell _ _ hx
  · cases hx
set_option maxHeartbeats 400000 in
theorem list_any (a : Option Addr) (n c : Nat) (w : World) : Calls Try.prog 33 #[.slice a n c] w (Ret (.slice a n c) (fun w' => w = w')) := by
  go_enter Try.func33, Try.ntmps33
  go_wp2_with fail
  go_ret
  exact ⟨rfl, rfl⟩
/-- What lies behind known's first statements. -/
structure Kn (w0 w : World) (ka kb kc ko : Nat) : Prop where
  frm : Frm [] w0 w
  a : w.heap[ka]? = some (.cells #[.int .i64 0, .int .i64 2, .int .i64 5, .int .u64 0, .int .u64 1, .bool false, .bool false] 40 (0, 0))
  b : w.heap[kb]? = some (.cells #[.int .i64 1, .int .i64 1, .int .i64 5, .int .u64 0, .int .u64 0, .bool true, .bool false] 40 (0, 0))
  c : w.heap[kc]? = some (.cells #[.int .i64 1, .int .i64 1, .int .i64 5, .int .u64 1, .int .u64 1, .bool false, .bool false] 40 (0, 0))
  o : w.heap[ko]? = some (.cells #[.int .i64 1, .int .i64 5, .int .i64 0, .int .i64 (-1), .int .i64 (-1)] 52 (0, 0))
theorem Kn.frm0 {w0 w w' : World} {ka kb kc ko : Nat} (h : Kn w0 w ka kb kc ko) (hf : Frm [] w w') : Kn w0 w' ka kb kc ko := ⟨h.frm.trans hf, hf.heap h.a (by simp), hf.heap h.b (by simp), hf.heap h.c (by simp), hf.heap h.o (by simp)⟩
noncomputable def pieceK (r : Nat) : Code := ((Try.f8.body.bind (seqAt r)).getD .skip)
set_option maxRecDepth 100000 in
set_option maxHeartbeats 6400000 in
/-- What known asks last. -/
theorem kn14 {w X : World} (hK0 : Kn w X (w.heap.size) (w.heap.size + 1) (w.heap.size + 1 + 1) (w.heap.size + 1 + 1 + 1)) (v5 v6 v7 v8 v9 v10 v11 v12 v13 v14 v15 v16 v17 v18 v19 v20 v21 v22 v23 v24 v25 v26 v27 v28 v29 v30 v31 v32 v33 v34 v35 v36 v37 v38 v39 v40 v41 v42 v43 v44 v45 v46 v47 v48 v49 v50 v51 v52 v53 v54 v55 v56 v57 v58 v59 v60 v61 v62 v63 v64 v65 v66 v67 v68 v69 v70 v71 v72 v73 v74 v75 v76 v77 v78 v79 v80 v81 v82 v83 v84 v85 v86 v87 v88 v89 v90 v91 v92 v93 v94 v95 v96 v97 v98 v99 v100 v101 v102 v103 v104 v105 v106 v107 v108 v109 v110 v111 v112 v113 v114 v115 v116 v117 v118 v119 v120 v121 v122 v123 v124 v125 v126 v127 v128 v129 v130 v131 v132 v133 v134 v135 v136 v137 v138 v139 v140 v141 v142 v143 v144 v145 v146 v147 v148 v149 v150 v151 v152 v153 v154 v155 : Value) :
    Code.wp Try.prog (pieceK 14) (bodyPost Try.prog Try.f8 (Ret (.bool true) (fun w' => Frm [] w w'))) ⟨List.toArray (.bool false :: .pointer (some ⟨w.heap.size, 0, none⟩) :: .pointer (some ⟨w.heap.size + 1, 0, none⟩) :: .pointer (some ⟨w.heap.size + 1 + 1, 0, none⟩) :: .pointer (some ⟨w.heap.size + 1 + 1 + 1, 0, none⟩) :: v5 :: v6 :: v7 :: v8 :: v9 :: v10 :: v11 :: v12 :: v13 :: v14 :: v15 :: v16 :: v17 :: v18 :: v19 :: v20 :: v21 :: v22 :: v23 :: v24 :: v25 :: v26 :: v27 :: v28 :: v29 :: v30 :: v31 :: v32 :: v33 :: v34 :: v35 :: v36 :: v37 :: v38 :: v39 :: v40 :: v41 :: v42 :: v43 :: v44 :: v45 :: v46 :: v47 :: v48 :: v49 :: v50 :: v51 :: v52 :: v53 :: v54 :: v55 :: v56 :: v57 :: v58 :: v59 :: v60 :: v61 :: v62 :: v63 :: v64 :: v65 :: v66 :: v67 :: v68 :: v69 :: v70 :: v71 :: v72 :: v73 :: v74 :: v75 :: v76 :: v77 :: v78 :: v79 :: v80 :: v81 :: v82 :: v83 :: v84 :: v85 :: v86 :: v87 :: v88 :: v89 :: v90 :: v91 :: v92 :: v93 :: v94 :: v95 :: v96 :: v97 :: v98 :: v99 :: v100 :: v101 :: v102 :: v103 :: v104 :: v105 :: v106 :: v107 :: v108 :: v109 :: v110 :: v111 :: v112 :: v113 :: v114 :: v115 :: v116 :: v117 :: v118 :: v119 :: v120 :: v121 :: v122 :: v123 :: v124 :: v125 :: v126 :: v127 :: v128 :: v129 :: v130 :: v131 :: v132 :: v133 :: v134 :: v135 :: v136 :: v137 :: v138 :: v139 :: v140 :: v141 :: v142 :: v143 :: v144 :: v145 :: v146 :: v147 :: v148 :: v149 :: v150 :: v151 :: v152 :: v153 :: v154 :: v155 :: []), []⟩ X := by
  have HK := Lib.hid hK0
  clear hK0
  conv => arg 2; whnf
  try dsimp only
  obtain ⟨x0, x1, x2, x3, x4, x5, x6⟩ := cells7 HK.out.a
  go_wp2_with fail
  refine (list_any _ _ _ _).mono ?_
  rintro e1 x1 ⟨rfl, rfl⟩
  go_wp2_with fail
  refine (lchecks_any (ws := []) (li64_nil _) (dl_new (l := [kdA]) rfl (heap_alloc_new _ _)) (x := 0) (e0 := 2) (by kernel_rfl) (by kernel_rfl)).mono ?_
  rintro e1 U1 ⟨rfl, f1⟩
  have F1 : Frm [] X U1 := ((Frm.refl [] X).alloc _).trans f1
  clear f1 x0 x1 x2 x3 x4 x5 x6
  obtain ⟨x0, x1, x2, x3, x4, x5, x6⟩ := cells7 (HK.out.frm0 F1).a
  have hsz1 := lt_of_heap (HK.out.frm0 F1).a
  go_wp2_with fail
  refine (list_any _ _ _ _).mono ?_
  rintro e1 x1 ⟨rfl, rfl⟩
  go_wp2_with fail
  refine (lchanges_any (dl_new (l := [kdA]) rfl (heap_alloc_new _ _)) (-1) (e0 := 2) (a' := none) (c' := 0) (b' := 0) (o' := 0) (by decide) (by rw [show chR [kdA] (-1) = ([], 2) from by kernel_rfl]; exact li_nil _) (by kernel_rfl)).mono ?_
  rintro e2 U2 ⟨rfl, f2⟩
  have F2 : Frm [] X U2 := (F1.alloc _).trans f2
  clear f2 x0 x1 x2 x3 x4 x5 x6
  obtain ⟨x0, x1, x2, x3, x4, x5, x6⟩ := cells7 (HK.out.frm0 F2).a
  have hsz2 := lt_of_heap (HK.out.frm0 F2).a
  go_wp2_with fail
  refine (list_any _ _ _ _).mono ?_
  rintro e1 x1 ⟨rfl, rfl⟩
  go_wp2_with fail
  refine (lof_any (dl_new (l := [kdA]) rfl (heap_alloc_new _ _)) 64 (e0 := 2) (a' := none) (c' := 0) (b' := 0) (o' := 0) (by decide) (by rw [show ofR [kdA] 64 = ([], 2) from by kernel_rfl]; exact DL.nil _) (by kernel_rfl)).mono ?_
  rintro e3 U3 ⟨rfl, f3⟩
  have F3 : Frm [] X U3 := (F2.alloc _).trans f3
  clear f3 x0 x1 x2 x3 x4 x5 x6
  obtain ⟨x0, x1, x2, x3, x4, x5, x6⟩ := cells7 (HK.out.frm0 F3).a
  have hsz3 := lt_of_heap (HK.out.frm0 F3).a
  have hL4 : Li .u64 ((U3.alloc (.cells #[.int .u64 1, .int .u64 1, .int .u64 1, .int .u64 1, .int .u64 1, .int .u64 1] 30)).alloc (.cells #[.int .i64 0, .int .i64 2, .int .i64 5, .int .u64 0, .int .u64 1, .bool false, .bool false] 40)) (some ⟨U3.heap.size, 0, none⟩) 6 6 U3.heap.size 0 [1, 1, 1, 1, 1, 1] := Li.frm0 (w := (U3.alloc (.cells #[.int .u64 1, .int .u64 1, .int .u64 1, .int .u64 1, .int .u64 1, .int .u64 1] 30))) (li_new rfl (heap_alloc_new U3 _)) ((Frm.refl [] _).alloc _)
  have hD4 : DL ((U3.alloc (.cells #[.int .u64 1, .int .u64 1, .int .u64 1, .int .u64 1, .int .u64 1, .int .u64 1] 30)).alloc (.cells #[.int .i64 0, .int .i64 2, .int .i64 5, .int .u64 0, .int .u64 1, .bool false, .bool false] 40)) (some ⟨U3.heap.size + 1, 0, none⟩) 1 1 (U3.heap.size + 1) 0 [kdA] := dl_new rfl (heap_alloc_at _ (by simp))
  have HRP := Lib.hid (lreplays_any hL4 hD4 (L := []) (e0 := 10) (k := 0) (c3 := 0) (by kernel_rfl) rfl (by decide) (li64_nil _))
  clear hL4 hD4
  go_wp2_with fail
  refine (list_any _ _ _ _).mono ?_
  rintro e1 x1 ⟨rfl, rfl⟩
  go_wp2_with fail
  refine HRP.out.mono ?_
  rintro e4 U4 ⟨rfl, f4⟩
  go_wp2_with fail
  go_ret
  exact ⟨rfl, HK.out.frm.trans (((F3.alloc _).alloc _).trans f4)⟩

end Go.Proofs.Ytfkikaoojelddaa
