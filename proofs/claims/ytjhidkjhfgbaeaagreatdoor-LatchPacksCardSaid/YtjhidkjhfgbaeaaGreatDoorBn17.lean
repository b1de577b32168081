/- ArgsLat, LxN, LxO, LxM, LxP in one text (by mkbundle.py). -/
import Derived.Test.YtjhidkjhfgbaeaaGreatDoorBn2
import Derived.Deep.Slices
import Derived.Deep.Fields
import Derived.Lib.SmallJoins
import Derived.ChangeSame
import Derived.Test.YtjhidkjhfgbaeaaGreatDoorLxK
import Derived.Test.YtjhidkjhfgbaeaaGreatDoorBn15
import Derived.Test.YtjhidkjhfgbaeaaGreatDoorLvG
/- Arguments that came in: a latch's state; an array of two words. -/
namespace Go.Proofs.YtjhidkjhfgbaeaaGreatDoor
open Go.ChangeShapes Go.WideShapes Go.ChangeAt Go.RowKit Go.Joins Go.Deep
set_option linter.unusedVariables false
theorem array6 {α : Type} {cs : Array α} (h : cs.size = 6) : ∃ c0 c1 c2 c3 c4 c5, cs = #[c0, c1, c2, c3, c4, c5] := by
  obtain ⟨l⟩ := cs
  match l, h with
  | [c0, c1, c2, c3, c4, c5], _ => exact ⟨c0, c1, c2, c3, c4, c5, rfl⟩
set_option maxRecDepth 100000 in
theorem okWide_ar {P : Program} {W : World} {r : Reach} {base n : Nat} {t e : TypeId} {v : Value} (ht : P.underlying t = some (.array n e)) (h : Value.okWide P W r base t v) : ∃ cs, v = .agg cs ∧ cs.size = P.cellsOf t := by
  simp only [Value.okWide, ht] at h
  obtain ⟨cs, h1, h2, _⟩ := h
  exact ⟨cs, h1, h2⟩
section
variable {H : Type} {enc : TypeId × Value → H} {W : World}
set_option maxRecDepth 100000 in
theorem words2_trod {base fuel : Nat} {spare : Nat → Bool} {held : Bool} {c0 c1 : Value} {x : DataW H × List MemPlace} (h : DataW.trod enc Tryz.prog W base spare held fuel 27 [c0, c1] = some x) :
    ∃ a b, c0 = .int .u64 a ∧ c1 = .int .u64 b ∧ (Lit.int .u64 a).wf = true ∧ (Lit.int .u64 b).wf = true := by
  have hce : Tryz.prog.cellsOf 26 = 1 := by kernel_rfl
  cases fuel with
  | zero => simp [DataW.trod] at h
  | succ n =>
    unfold DataW.trod at h
    rw [Tryz.underlying27] at h
    have r2 : List.range 2 = [0, 1] := rfl
    simp [r2, hce] at h
    obtain ⟨_, h⟩ := h
    cases h0 : DataW.trod enc Tryz.prog W base spare held n 26 [c0] with
    | none => simp [h0] at h
    | some y0 =>
      cases h1 : DataW.trod enc Tryz.prog W base spare held n 26 [c1] with
      | none => simp [h0, h1] at h
      | some y1 =>
        obtain ⟨a, e0, _, w0⟩ := DataW.trod_int Tryz.underlying26 h0
        obtain ⟨b, e1, _, w1⟩ := DataW.trod_int Tryz.underlying26 h1
        simp at e0 e1
        exact ⟨a, b, e0, e1, w0, w1⟩
set_option maxRecDepth 100000 in
theorem words2_of {r : Reach} {base : Nat} {v : Value} {d : DataW H} {p : List MemPlace} (hv : Value.okWide Tryz.prog W r base 27 v)
    (h0 : DataW.Trod enc Tryz.prog W 0 (fun _ => true) true 27 v d p) : ∃ a b, v = .agg #[.int .u64 a, .int .u64 b] ∧ (Lit.int .u64 a).wf = true ∧ (Lit.int .u64 b).wf = true := by
  obtain ⟨cs, rfl, hsz⟩ := okWide_ar Tryz.underlying27 hv
  obtain ⟨c0, c1, rfl⟩ := array2 (hsz.trans (by kernel_rfl))
  obtain ⟨fuel, hf⟩ := h0
  obtain ⟨a, b, rfl, rfl, w0, w1⟩ := words2_trod (by simpa [Value.cells] using hf)
  exact ⟨a, b, rfl, w0, w1⟩
set_option maxRecDepth 100000 in
theorem latch_of {r : Reach} {base : Nat} {v : Value} {d : DataW H} {p : List MemPlace} (hv : Value.okWide Tryz.prog W r base 25 v)
    (h0 : DataW.Trod enc Tryz.prog W 0 (fun _ => true) true 25 v d p) :
    ∃ a n c up ex wa gr a2 n2 c2 zs, v = .agg #[.slice a n c, .int .i64 up, .int .i64 ex, .int .i64 wa, .int .i64 gr, .slice a2 n2 c2] ∧ IsRow .i64 W a n c zs := by
  obtain ⟨cs, rfl, hsz⟩ := okWide_struct Tryz.underlying25 hv
  obtain ⟨c0, c1, c2, c3, c4, c5, rfl⟩ := array6 (hsz.trans (by kernel_rfl))
  obtain ⟨fuel, hf⟩ := h0
  obtain ⟨xs, n, _, _, _, hlen, hff⟩ := DataW.trod_struct Tryz.underlying25 hf
  have hl6 : xs.length = 6 := hlen
  have k1 : Tryz.prog.cellsOf 3 = 1 := by kernel_rfl
  have k2 : Tryz.prog.cellsOf 22 = 1 := by kernel_rfl
  have k3 : Tryz.prog.cellsOf 23 = 1 := by kernel_rfl
  obtain ⟨y0, e0⟩ : ∃ y, xs[0]? = some y := ⟨_, List.getElem?_eq_getElem (by omega)⟩
  have f0 := hff 0 _ rfl
  rw [e0] at f0
  obtain ⟨y1, e1⟩ : ∃ y, xs[1]? = some y := ⟨_, List.getElem?_eq_getElem (by omega)⟩
  have f1 := hff 1 _ rfl
  rw [e1] at f1
  obtain ⟨y2, e2⟩ : ∃ y, xs[2]? = some y := ⟨_, List.getElem?_eq_getElem (by omega)⟩
  have f2 := hff 2 _ rfl
  rw [e2] at f2
  obtain ⟨y3, e3⟩ : ∃ y, xs[3]? = some y := ⟨_, List.getElem?_eq_getElem (by omega)⟩
  have f3 := hff 3 _ rfl
  rw [e3] at f3
  obtain ⟨y4, e4⟩ : ∃ y, xs[4]? = some y := ⟨_, List.getElem?_eq_getElem (by omega)⟩
  have f4 := hff 4 _ rfl
  rw [e4] at f4
  obtain ⟨y5, e5⟩ : ∃ y, xs[5]? = some y := ⟨_, List.getElem?_eq_getElem (by omega)⟩
  have f5 := hff 5 _ rfl
  rw [e5] at f5
  simp [Value.cells, k1, k2, k3] at f0 f1 f2 f3 f4 f5
  obtain ⟨a, n1, c, g0⟩ := slice_form Tryz.underlying22 f0
  obtain ⟨up, g1, _, _⟩ := DataW.trod_int Tryz.underlying3 f1
  obtain ⟨ex, g2, _, _⟩ := DataW.trod_int Tryz.underlying3 f2
  obtain ⟨wa, g3, _, _⟩ := DataW.trod_int Tryz.underlying3 f3
  obtain ⟨gr, g4, _, _⟩ := DataW.trod_int Tryz.underlying3 f4
  obtain ⟨a2, n2, cc2, g5⟩ := slice_form Tryz.underlying23 f5
  simp at g0 g1 g2 g3 g4 g5
  subst g0
  obtain ⟨zs, hz⟩ : ∃ zs, IsRow .i64 W a n1 c zs := isRow_of Tryz.underlying22 Tryz.underlying3 (by kernel_rfl) ⟨n, by simpa [Value.cells] using f0⟩
  exact ⟨a, n1, c, up, ex, wa, gr, a2, n2, cc2, zs, by rw [g1, g2, g3, g4, g5], hz⟩
end
end Go.Proofs.YtjhidkjhfgbaeaaGreatDoor

/- LatchPacks: the second half of the law's walk. -/
namespace Go.Proofs.YtjhidkjhfgbaeaaGreatDoor
open Go.ChangeShapes Go.WideShapes Go.ChangeAt Go.RowKit
set_option linter.unusedVariables false
set_option linter.unusedSimpArgs false
attribute [local go_sem ↓] ldS_eq stS_eq blS_eq
noncomputable def lpT (k : Nat) : Code := dropS k (Tryz.f3.body.getD .skip)
set_option maxRecDepth 100000 in
set_option maxHeartbeats 4000000 in
theorem lpRest_no {w Z : World} {q7 w0 w1 : Nat} (v0 v1 v2 v3 v4 v5 v6 v8 v9 v10 v11 v12 v13 v14 v15 v16 v17 v18 v19 v20 v21 v22 v23 v24 v25 v26 v27 v28 v29 v30 v31 v32 v33 v34 v35 v36 v37 v38 v39 v40 v41 v42 v43 v44 v45 v46 v47 v48 v49 v50 v51 v52 v53 v54 v55 v56 v57 v58 v59 v60 v61 v62 v63 v64 v65 v66 v67 v68 v69 v70 v71 v72 v73 v74 : Value) (hF : Frm [] w Z) (g7 : Z.heap[q7]? = some (.cells #[.int .u64 w0, .int .u64 w1] 27 (0, 0))) (hL : Laid Z) (h0 : w0 < 18446744073709551616) (h1 : w1 < 18446744073709551616) (hr : rdB 64 w0 w1 = false) :
    Code.wp Tryz.prog (lpT 3) (bodyPost Tryz.prog Tryz.f3 (Ret (.bool true) (fun w' => Frm [] w w'))) ⟨List.toArray (v0 :: v1 :: v2 :: v3 :: v4 :: v5 :: v6 :: .pointer (some ⟨q7, 0, none⟩) :: v8 :: v9 :: v10 :: v11 :: v12 :: v13 :: v14 :: v15 :: v16 :: v17 :: v18 :: v19 :: v20 :: v21 :: v22 :: v23 :: v24 :: v25 :: v26 :: v27 :: v28 :: v29 :: v30 :: v31 :: v32 :: v33 :: v34 :: v35 :: v36 :: v37 :: v38 :: v39 :: v40 :: v41 :: v42 :: v43 :: v44 :: v45 :: v46 :: v47 :: v48 :: v49 :: v50 :: v51 :: v52 :: v53 :: v54 :: v55 :: v56 :: v57 :: v58 :: v59 :: v60 :: v61 :: v62 :: v63 :: v64 :: v65 :: v66 :: v67 :: v68 :: v69 :: v70 :: v71 :: v72 :: v73 :: v74 :: []), []⟩ Z := by
  have hz := zero_s.1
  obtain ⟨r0, r1⟩ := cells2L g7
  have hl7 := lt_of_heap g7
  have HF := Lib.hid hF
  have G7 := Lib.hid g7
  have HL := Lib.hid hL
  have HOF := Lib.hid (Of_any (w := Z) h0 h1)
  clear hF g7 hL
  conv => arg 2; whnf
  go_wp2_with fail
  refine HOF.out.mono ?_
  rintro e w2 ⟨rfl, hF2⟩
  rw [hr]
  have hst : (stS ⟨w2.heap.size, 0, none⟩ (.agg (rsC (rdLS w0 w1)).toArray)).run Tryz.prog (w2.alloc (.cells (rsC zS).toArray 31)) = .ok () (w2.alloc (.cells (rsC (rdLS w0 w1)).toArray 31)) := by
    rw [(rs_new w2 zS).store _, World.setRow_alloc_new]
  have HF2 := Lib.hid hF2
  obtain ⟨t0, t1⟩ := cells2L (hF2.heap G7.out (by simp))
  have hl72 := Nat.lt_of_lt_of_le hl7 hF2.size
  have HFY : Hid (Frm [] Z (w2.alloc (.cells (rsC (rdLS w0 w1)).toArray 31))) := Lib.hid (hF2.alloc _)
  clear hF2 HOF
  go_wp2_with fail
  refine (unpacks_no (HL.out.frm0 HFY.out) h0 h1 hr).mono ?_
  rintro e w3 ⟨rfl, hF3⟩
  have HF3 := Lib.hid (HFY.out.trans hF3)
  clear hF3
  go_wp2_with fail
  refine (known_true (HL.out.frm0 HF3.out)).mono ?_
  rintro e w4 ⟨rfl, hF4⟩
  have HF4 := Lib.hid (HF.out.trans (HF3.out.trans hF4))
  clear hF4
  go_wp2
  go_ret
  exact ⟨rfl, HF4.out⟩
end Go.Proofs.YtjhidkjhfgbaeaaGreatDoor

/- LatchPacks: the second half of the law's walk, its other case (by gen_lxo.py). -/
namespace Go.Proofs.YtjhidkjhfgbaeaaGreatDoor
open Go.ChangeShapes Go.WideShapes Go.ChangeAt Go.RowKit
set_option linter.unusedVariables false
set_option linter.unusedSimpArgs false
attribute [local go_sem ↓] ldS_eq stS_eq blS_eq
set_option maxRecDepth 100000 in
set_option maxHeartbeats 4000000 in
theorem lpRest_yes {w Z : World} {q7 w0 w1 : Nat} (v0 v1 v2 v3 v4 v5 v6 v8 v9 v10 v11 v12 v13 v14 v15 v16 v17 v18 v19 v20 v21 v22 v23 v24 v25 v26 v27 v28 v29 v30 v31 v32 v33 v34 v35 v36 v37 v38 v39 v40 v41 v42 v43 v44 v45 v46 v47 v48 v49 v50 v51 v52 v53 v54 v55 v56 v57 v58 v59 v60 v61 v62 v63 v64 v65 v66 v67 v68 v69 v70 v71 v72 v73 v74 : Value) (hF : Frm [] w Z) (g7 : Z.heap[q7]? = some (.cells #[.int .u64 w0, .int .u64 w1] 27 (0, 0))) (hL : Laid Z) (h0 : w0 < 18446744073709551616) (h1 : w1 < 18446744073709551616) (hr : rdB 64 w0 w1 = true) :
    Code.wp Tryz.prog (lpT 3) (bodyPost Tryz.prog Tryz.f3 (Ret (.bool true) (fun w' => Frm [] w w'))) ⟨List.toArray (v0 :: v1 :: v2 :: v3 :: v4 :: v5 :: v6 :: .pointer (some ⟨q7, 0, none⟩) :: v8 :: v9 :: v10 :: v11 :: v12 :: v13 :: v14 :: v15 :: v16 :: v17 :: v18 :: v19 :: v20 :: v21 :: v22 :: v23 :: v24 :: v25 :: v26 :: v27 :: v28 :: v29 :: v30 :: v31 :: v32 :: v33 :: v34 :: v35 :: v36 :: v37 :: v38 :: v39 :: v40 :: v41 :: v42 :: v43 :: v44 :: v45 :: v46 :: v47 :: v48 :: v49 :: v50 :: v51 :: v52 :: v53 :: v54 :: v55 :: v56 :: v57 :: v58 :: v59 :: v60 :: v61 :: v62 :: v63 :: v64 :: v65 :: v66 :: v67 :: v68 :: v69 :: v70 :: v71 :: v72 :: v73 :: v74 :: []), []⟩ Z := by
  have hz := zero_s.1
  obtain ⟨r0, r1⟩ := cells2L g7
  have hl7 := lt_of_heap g7
  have HF := Lib.hid hF
  have G7 := Lib.hid g7
  have HL := Lib.hid hL
  have HOF := Lib.hid (Of_any (w := Z) h0 h1)
  clear hF g7 hL
  conv => arg 2; whnf
  go_wp2_with fail
  refine HOF.out.mono ?_
  rintro e w2 ⟨rfl, hF2⟩
  rw [hr]
  have hst : (stS ⟨w2.heap.size, 0, none⟩ (.agg (rsC (rdLS w0 w1)).toArray)).run Tryz.prog (w2.alloc (.cells (rsC zS).toArray 31)) = .ok () (w2.alloc (.cells (rsC (rdLS w0 w1)).toArray 31)) := by
    rw [(rs_new w2 zS).store _, World.setRow_alloc_new]
  have HF2 := Lib.hid hF2
  obtain ⟨t0, t1⟩ := cells2L (hF2.heap G7.out (by simp))
  have hl72 := Nat.lt_of_lt_of_le hl7 hF2.size
  have HFY : Hid (Frm [] Z (w2.alloc (.cells (rsC (rdLS w0 w1)).toArray 31))) := Lib.hid (hF2.alloc _)
  clear hF2 HOF
  have HRY := Lib.hid (rs_new w2 (rdLS w0 w1))
  have HG : Hid (∀ w', Frm [] (w2.alloc (.cells (rsC (rdLS w0 w1)).toArray 31)) w' → w'.cell? ⟨q7, 0, none⟩ = some (.int .u64 w0) ∧ w'.cell? ⟨q7, 1, none⟩ = some (.int .u64 w1)) := Lib.hid fun w' g => cells2L ((HFY.out.trans g).heap G7.out (by simp))
  go_wp2_with fail
  generalize hq11 : w2.heap.size = q11 at hst HRY ⊢
  generalize w2.alloc (.cells (rsC (rdLS w0 w1)).toArray 31) = Y at hst HFY HRY HG ⊢
  have hbd : (-1 ≤ (rdLS w0 w1).up ∧ (rdLS w0 w1).up < 255) ∧ (-1 ≤ (rdLS w0 w1).ex ∧ (rdLS w0 w1).ex < 255) ∧ (-1 ≤ (rdLS w0 w1).wa ∧ (rdLS w0 w1).wa < 255) ∧ (-1 ≤ (rdLS w0 w1).fi ∧ (rdLS w0 w1).fi < 255) ∧ (-1 ≤ (rdLS w0 w1).la ∧ (rdLS w0 w1).la < 255) := by
    have b0 := nmI_bd w1 0
    have b1 := nmI_bd w1 1
    have b2 := nmI_bd w1 2
    have b3 := nmI_bd w1 3
    have b4 := nmI_bd w1 4
    simp only [rdLS]
    omega
  obtain ⟨s, hs⟩ : ∃ s, s = rdLS w0 w1 := ⟨_, rfl⟩
  rw [← hs] at hbd HRY
  have hsf := hbd.2.2.2.1
  have hsl := hbd.2.2.2.2
  have HB := Lib.hid hbd
  have HSS := Lib.hid hs
  clear hbd hs hst hq11 t0 t1 r0 r1
  refine wp_region_noPanic ?_
  refine wp_region_held_drew (S := fun w' => Frm [] Y w') (by kernel_rfl) ((Frm.refl _ _).drew) (fun hHeld => ?_)
  refine take_in (i := 0) (d := 62) (v := .agg #[.int .u64 w0, .int .u64 w1]) rfl rfl (by kernel_rfl) (by kernel_rfl) (by kernel_rfl) (fun _ _ _ h => h) (by kernel_rfl) (fun w' hS => by have hS' : Frm [] Y w' := hS; obtain ⟨k0, k1⟩ := HG.out w' hS'; go_simp) (by assumption) ?_
  try simp only [Act.put, List.setIfInBounds_toArray, List.set_cons_zero, List.set_cons_succ]
  refine take_in (i := 1) (d := 63) (v := .agg (rsC s).toArray) rfl rfl (by kernel_rfl) (by kernel_rfl) (by kernel_rfl) (fun _ _ _ h => h) (by kernel_rfl) (fun w' hS => by have hS' : Frm [] Y w' := hS; have hh := (HRY.out.frm hS' (by simp)).load; go_simp) (by assumption) ?_
  try simp only [Act.put, List.setIfInBounds_toArray, List.set_cons_zero, List.set_cons_succ]
  refine take_in (i := 3) (d := 65) (v := .pointer (some ⟨q11, 67, none⟩)) rfl rfl (by kernel_rfl) (by kernel_rfl) (by kernel_rfl) (fun _ _ _ h => h) (by kernel_rfl) (fun _ _ => rfl) (by assumption) ?_
  try simp only [Act.put, List.setIfInBounds_toArray, List.set_cons_zero, List.set_cons_succ]
  refine take_in (i := 4) (d := 66) (v := .int .i64 (s.fi + 1)) rfl rfl (by kernel_rfl) (by kernel_rfl) (by kernel_rfl) (fun _ _ _ h => h) (by kernel_rfl) (fun w' hS => by have hS' : Frm [] Y w' := hS; have hh := (HRY.out.frm hS' (by simp)).nums.2.2.2.1; go_simp) (by assumption) ?_
  try simp only [Act.put, List.setIfInBounds_toArray, List.set_cons_zero, List.set_cons_succ]
  refine take_in (i := 5) (d := 67) (v := .int .i64 s.fi) rfl rfl (by kernel_rfl) (by kernel_rfl) (by kernel_rfl) (fun _ _ _ h => h) (by kernel_rfl) (fun w' hS => by clear hS; go_simp; exact IntWalk.i64_in _ (by omega)) (by assumption) ?_
  try simp only [Act.put, List.setIfInBounds_toArray, List.set_cons_zero, List.set_cons_succ]
  refine take_in (i := 6) (d := 68) (v := .pointer (some ⟨q11, 68, none⟩)) rfl rfl (by kernel_rfl) (by kernel_rfl) (by kernel_rfl) (fun _ _ _ h => h) (by kernel_rfl) (fun _ _ => rfl) (by assumption) ?_
  try simp only [Act.put, List.setIfInBounds_toArray, List.set_cons_zero, List.set_cons_succ]
  refine take_in (i := 7) (d := 69) (v := .int .i64 (s.la + 1)) rfl rfl (by kernel_rfl) (by kernel_rfl) (by kernel_rfl) (fun _ _ _ h => h) (by kernel_rfl) (fun w' hS => by have hS' : Frm [] Y w' := hS; have hh := (HRY.out.frm hS' (by simp)).nums.2.2.2.2.1; go_simp) (by assumption) ?_
  try simp only [Act.put, List.setIfInBounds_toArray, List.set_cons_zero, List.set_cons_succ]
  refine take_in (i := 8) (d := 70) (v := .int .i64 s.la) rfl rfl (by kernel_rfl) (by kernel_rfl) (by kernel_rfl) (fun _ _ _ h => h) (by kernel_rfl) (fun w' hS => by clear hS; go_simp; exact IntWalk.i64_in _ (by omega)) (by assumption) ?_
  try simp only [Act.put, List.setIfInBounds_toArray, List.set_cons_zero, List.set_cons_succ]
  refine wpAnyH_ready (rs := [2]) (by kernel_rfl) (by simp) ?_
  refine AllReadyH.cons rfl (fun K hK => ?_) AllReadyH.nil
  go_simp
  go_at_call 14
  refine (Plain_any HB.out.1 HB.out.2.1 HB.out.2.2.1).mono ?_
  rintro e w3 ⟨a, n, c, rfl, g1, hRo⟩
  have s3 : Frm [] Y w3 := Frm.trans (by (repeat' (first | assumption | exact Frm.refl _ _ | apply Frm.drew | apply Frm.drewN))) g1
  obtain ⟨gb, hLi⟩ := hRo.li
  have hnl := hLi.len
  have HLi := Lib.hid hLi
  clear hLi hRo g1
  refine hK.out _ _ (by exact s3) (fun hHeld => ?_)
  clear hK K
  try change wpAnyH _ _ _ _ _ _ _ (Act.put _ (some 64) _) _
  try simp only [Act.put, List.setIfInBounds_toArray, List.set_cons_zero, List.set_cons_succ]
  refine wpAnyH_ready (rs := [9]) (by kernel_rfl) (by simp) ?_
  refine AllReadyH.cons rfl (fun K hK => ?_) AllReadyH.nil
  go_simp
  go_at_call 13
  refine (unpacks_ok (w := w3) (s := s) (HL.out.frm0 (HFY.out.trans s3)) h0 h1 hr (by rw [← HSS.out]; exact HLi.out) (by have := bitsL_len s.sh; omega) HSS.out.symm).mono ?_
  rintro e w4 ⟨rfl, g2⟩
  have s4 : Frm [] Y w4 := Frm.trans (by (repeat' (first | assumption | exact Frm.refl _ _ | apply Frm.drew | apply Frm.drewN))) g2
  clear g2
  refine hK.out _ _ (by exact s4) (fun hHeld => ?_)
  clear hK K
  try change wpAnyH _ _ _ _ _ _ _ (Act.put _ (some 71) _) _
  try simp only [Act.put, List.setIfInBounds_toArray, List.set_cons_zero, List.set_cons_succ]
  refine take_in (i := 10) (d := 72) (v := .bool true) rfl rfl (by kernel_rfl) (by kernel_rfl) (by kernel_rfl) (fun _ _ _ h => h) (by kernel_rfl) (fun _ _ => rfl) (by assumption) ?_
  try simp only [Act.put, List.setIfInBounds_toArray, List.set_cons_zero, List.set_cons_succ]
  refine wpAnyH_ready (rs := [11]) (by kernel_rfl) (by simp) ?_
  refine AllReadyH.cons rfl (fun K hK => ?_) AllReadyH.nil
  go_simp
  go_at_call 8
  refine (known_true (HL.out.frm0 (HFY.out.trans s4))).mono ?_
  rintro e w5 ⟨rfl, g3⟩
  have s5 : Frm [] Y w5 := Frm.trans (by (repeat' (first | assumption | exact Frm.refl _ _ | apply Frm.drew | apply Frm.drewN))) g3
  refine hK.out _ _ (by exact s5) (fun hHeld => ?_)
  clear hK K
  try change wpAnyH _ _ _ _ _ _ _ (Act.put _ (some 73) _) _
  try simp only [Act.put, List.setIfInBounds_toArray, List.set_cons_zero, List.set_cons_succ]
  refine take_in (i := 12) (d := 74) (v := .bool true) rfl rfl (by kernel_rfl) (by kernel_rfl) (by kernel_rfl) (fun _ _ _ h => h) (by kernel_rfl) (fun _ _ => rfl) (by assumption) ?_
  try simp only [Act.put, List.setIfInBounds_toArray, List.set_cons_zero, List.set_cons_succ]
  refine take_in (i := 13) (d := 8) (v := .bool true) rfl rfl (by kernel_rfl) (by kernel_rfl) (by kernel_rfl) (fun _ _ _ h => h) (by kernel_rfl) (fun _ _ => rfl) (by assumption) ?_
  try simp only [Act.put, List.setIfInBounds_toArray, List.set_cons_zero, List.set_cons_succ]
  refine wpAnyH_done (by kernel_rfl) ?_ _
  refine NoPanic.normal ?_
  go_wp2
  go_ret
  exact ⟨rfl, HF.out.trans (HFY.out.trans hHeld)⟩
end Go.Proofs.YtjhidkjhfgbaeaaGreatDoor

/- LatchPacks: the law's walk (by gen_lxm.py). -/
namespace Go.Proofs.YtjhidkjhfgbaeaaGreatDoor
open Go.ChangeShapes Go.WideShapes Go.ChangeAt Go.RowKit
set_option linter.unusedVariables false
set_option linter.unusedSimpArgs false
attribute [local go_sem ↓] ldS_eq stS_eq blS_eq
theorem pkO_fit {xs : List Int} {up ex wa gr fi la : Int} {s : LS} (h : pkO xs up ex wa gr fi la = some s) : s.Fit := by
  unfold pkO at h
  split at h
  · split at h
    · rename_i hm
      obtain rfl := Option.some.inj h
      exact (may_gd (T := 64) (by decide) hm).fit (by decide)
    · cases h
  · cases h
section
variable {w : World} {a e2 : Option Addr} {n c b o m f2 : Nat} {xs : List Int}
set_option maxRecDepth 100000 in
set_option maxHeartbeats 4000000 in
theorem packs_main (h : Li .i64 w a n c b o xs) (hn : n ≤ 70) (hm : m ≤ 70) (hL : Laid w) (up ex wa gr fi la : Int) {w0 w1 : Nat} (h0 : w0 < 18446744073709551616) (h1 : w1 < 18446744073709551616) :
    Calls Tryz.prog 3 #[.agg #[.slice a n c, .int .i64 up, .int .i64 ex, .int .i64 wa, .int .i64 gr, .slice e2 m f2], .int .i64 fi, .int .i64 la, .agg #[.int .u64 w0, .int .u64 w1]] w (Ret (.bool true) (fun w' => Frm [] w w')) := by
  have hz := zero_s.1
  obtain ⟨X, hX⟩ : ∃ X, X = (w.alloc (.cells #[.slice a n c, .int .i64 up, .int .i64 ex, .int .i64 wa, .int .i64 gr, .slice e2 m f2] 25)).alloc (.cells #[.int .u64 w0, .int .u64 w1] 27) := ⟨_, rfl⟩
  have hFX : Frm [] w X := by rw [hX]; exact ((Frm.refl _ _).alloc _).alloc _
  have g0 : X.heap[w.heap.size]? = some (.cells #[.slice a n c, .int .i64 up, .int .i64 ex, .int .i64 wa, .int .i64 gr, .slice e2 m f2] 25 (0, 0)) := by rw [hX]; exact heap_alloc_old _ (heap_alloc_new _ _)
  have g1 : X.heap[w.heap.size + 1]? = some (.cells #[.int .u64 w0, .int .u64 w1] 27 (0, 0)) := by rw [hX]; exact heap_alloc_at _ (by simp)
  obtain ⟨s0, s1, s2, s3, s4, s5⟩ := cells6L g0
  have hl0 := lt_of_heap g0
  have hl1 := lt_of_heap g1
  have HFX := Lib.hid hFX
  have G0 := Lib.hid g0
  have G1 := Lib.hid g1
  have HLI := Lib.hid (h.frm0 hFX)
  have HL := Lib.hid (hL.frm0 hFX)
  have d1 : decide ((70 : Int) < (n : Int)) = false := by simp; omega
  have d2 : decide ((70 : Int) < (m : Int)) = false := by simp; omega
  clear h hFX g0 g1 hL
  have fin : Hid (∀ W q7 (v0 v1 v2 v3 v4 v5 v6 v8 v9 v10 v11 v12 v13 v14 v15 v16 v17 v18 v19 v20 v21 v22 v23 v24 v25 v26 v27 v28 v29 v30 v31 v32 v33 v34 v35 v36 v37 v38 v39 v40 v41 v42 v43 v44 v45 v46 v47 v48 v49 v50 v51 v52 v53 v54 v55 v56 v57 v58 v59 v60 v61 v62 v63 v64 v65 v66 v67 v68 v69 v70 v71 v72 v73 v74 : Value), Frm [] w W → W.heap[q7]? = some (.cells #[.int .u64 w0, .int .u64 w1] 27 (0, 0)) → Laid W →
      Code.wp Tryz.prog (lpT 3) (bodyPost Tryz.prog Tryz.f3 (Ret (.bool true) (fun w' => Frm [] w w'))) ⟨List.toArray (v0 :: v1 :: v2 :: v3 :: v4 :: v5 :: v6 :: .pointer (some ⟨q7, 0, none⟩) :: v8 :: v9 :: v10 :: v11 :: v12 :: v13 :: v14 :: v15 :: v16 :: v17 :: v18 :: v19 :: v20 :: v21 :: v22 :: v23 :: v24 :: v25 :: v26 :: v27 :: v28 :: v29 :: v30 :: v31 :: v32 :: v33 :: v34 :: v35 :: v36 :: v37 :: v38 :: v39 :: v40 :: v41 :: v42 :: v43 :: v44 :: v45 :: v46 :: v47 :: v48 :: v49 :: v50 :: v51 :: v52 :: v53 :: v54 :: v55 :: v56 :: v57 :: v58 :: v59 :: v60 :: v61 :: v62 :: v63 :: v64 :: v65 :: v66 :: v67 :: v68 :: v69 :: v70 :: v71 :: v72 :: v73 :: v74 :: []), []⟩ W) := Lib.hid (by
    intro W q7 v0 v1 v2 v3 v4 v5 v6 v8 v9 v10 v11 v12 v13 v14 v15 v16 v17 v18 v19 v20 v21 v22 v23 v24 v25 v26 v27 v28 v29 v30 v31 v32 v33 v34 v35 v36 v37 v38 v39 v40 v41 v42 v43 v44 v45 v46 v47 v48 v49 v50 v51 v52 v53 v54 v55 v56 v57 v58 v59 v60 v61 v62 v63 v64 v65 v66 v67 v68 v69 v70 v71 v72 v73 v74 hF hg hLd
    cases hr : rdB 64 w0 w1 with
    | false => exact lpRest_no v0 v1 v2 v3 v4 v5 v6 v8 v9 v10 v11 v12 v13 v14 v15 v16 v17 v18 v19 v20 v21 v22 v23 v24 v25 v26 v27 v28 v29 v30 v31 v32 v33 v34 v35 v36 v37 v38 v39 v40 v41 v42 v43 v44 v45 v46 v47 v48 v49 v50 v51 v52 v53 v54 v55 v56 v57 v58 v59 v60 v61 v62 v63 v64 v65 v66 v67 v68 v69 v70 v71 v72 v73 v74 hF hg hLd h0 h1 hr
    | true => exact lpRest_yes v0 v1 v2 v3 v4 v5 v6 v8 v9 v10 v11 v12 v13 v14 v15 v16 v17 v18 v19 v20 v21 v22 v23 v24 v25 v26 v27 v28 v29 v30 v31 v32 v33 v34 v35 v36 v37 v38 v39 v40 v41 v42 v43 v44 v45 v46 v47 v48 v49 v50 v51 v52 v53 v54 v55 v56 v57 v58 v59 v60 v61 v62 v63 v64 v65 v66 v67 v68 v69 v70 v71 v72 v73 v74 hF hg hLd h0 h1 hr)
  go_enter Tryz.func3, Tryz.ntmps3
  refine wp_seq_k ?_
  intro K hK
  have HK := Lib.hid hK
  clear hK
  go_wp2_with fail
  refine HK.out _ _ ?_
  clear HK K
  rw [← hX]
  clear hX
  refine wp_seq_k ?_
  intro K hK
  have HK := Lib.hid hK
  clear hK
  go_wp2_with fail
  refine HK.out _ _ ?_
  clear HK K
  refine wp_seq_k ?_
  intro K hK
  have HK := Lib.hid hK
  clear hK
  go_wp2_with fail
  refine (From_any (e2 := e2) (m := m) (f2 := f2) HLI.out (by omega) up ex wa gr fi la).mono ?_
  rintro e w2 ⟨s', ⟨rfl, hF2⟩, hs'⟩
  have hst : (stS ⟨w2.heap.size, 0, none⟩ (.agg (rsC s').toArray)).run Tryz.prog (w2.alloc (.cells (rsC zS).toArray 31)) = .ok () (w2.alloc (.cells (rsC s').toArray 31)) := by
    rw [(rs_new w2 zS).store _, World.setRow_alloc_new]
  have HF2 := Lib.hid hF2
  have HS' := Lib.hid hs'
  have hl02 := Nat.lt_of_lt_of_le hl0 hF2.size
  obtain ⟨t0, t1, t2, t3, t4, t5⟩ := cells6L (hF2.heap G0.out (by simp))
  clear hF2 hs' d1 d2 s0 s1 s2 s3 s4 s5
  have hFY : Frm [] X (w2.alloc (.cells (rsC s').toArray 31)) := HF2.out.alloc (.cells (rsC s').toArray 31)
  have hRY := rs_new w2 s'
  have HFY := Lib.hid hFY
  have HRY := Lib.hid hRY
  clear hFY hRY
  cases hp : pkO xs up ex wa gr fi la with
  | none =>
    go_wp2_with fail
    refine (packs_true (e2 := e2) (m := m) (f2 := f2) (HLI.out.frm0 HFY.out) (by omega) (HL.out.frm0 HFY.out) up ex wa gr fi la 0 0 2 (by rw [hp]; rfl)).mono ?_
    rintro e w3 ⟨rfl, hF3⟩
    have hF4 := HFY.out.trans hF3
    have HF4 := Lib.hid hF4
    clear hF3 hF4
    go_wp2_with fail
    refine HK.out _ _ ?_
    clear HK K
    exact fin.out _ _ _ _ _ _ _ _ _ _ _ _ _ _ _ _ _ _ _ _ _ _ _ _ _ _ _ _ _ _ _ _ _ _ _ _ _ _ _ _ _ _ _ _ _ _ _ _ _ _ _ _ _ _ _ _ _ _ _ _ _ _ _ _ _ _ _ _ _ _ _ _ _ _ _ _ (HFX.out.trans HF4.out) (HF4.out.heap G1.out (by simp)) (HL.out.frm0 HF4.out)
  | some s =>
    obtain rfl := HS'.out s hp
    have HFIT := Lib.hid (pkO_fit hp)
    have HP := Lib.hid hp
    have HG : Hid (∀ w', Frm [] (w2.alloc (.cells (rsC s').toArray 31)) w' → w'.cell? ⟨w.heap.size, 0, none⟩ = some (.slice a n c) ∧ w'.cell? ⟨w.heap.size, 1, none⟩ = some (.int .i64 up) ∧ w'.cell? ⟨w.heap.size, 2, none⟩ = some (.int .i64 ex) ∧ w'.cell? ⟨w.heap.size, 3, none⟩ = some (.int .i64 wa) ∧ w'.cell? ⟨w.heap.size, 4, none⟩ = some (.int .i64 gr) ∧ w'.cell? ⟨w.heap.size, 5, none⟩ = some (.slice e2 m f2)) := Lib.hid fun w' g => cells6L ((HFY.out.trans g).heap G0.out (by simp))
    clear hp t0 t1 t2 t3 t4 t5
    generalize hq9 : w2.heap.size = q9 at hst HRY ⊢
    generalize w2.alloc (.cells (rsC s').toArray 31) = Y at hst HFY HRY HG ⊢
    go_wp2_with fail
    refine wp_region_noPanic ?_
    refine wp_region_held_drew (S := fun w' => Frm [] Y w') (by kernel_rfl) ((Frm.refl _ _).drew) (fun hHeld => ?_)
    refine take_in (i := 0) (d := 39) (v := .agg #[.slice a n c, .int .i64 up, .int .i64 ex, .int .i64 wa, .int .i64 gr, .slice e2 m f2]) rfl rfl (by kernel_rfl) (by kernel_rfl) (by kernel_rfl) (fun _ _ _ h => h) (by kernel_rfl) (fun w' hS => by have hS' : Frm [] Y w' := hS; obtain ⟨k0, k1, k2, k3, k4, k5⟩ := HG.out w' hS'; go_simp) (by assumption) ?_
    try simp only [Act.put, List.setIfInBounds_toArray, List.set_cons_zero, List.set_cons_succ]
    refine take_in (i := 1) (d := 40) (v := .int .i64 fi) rfl rfl (by kernel_rfl) (by kernel_rfl) (by kernel_rfl) (fun _ _ _ h => h) (by kernel_rfl) (fun _ _ => rfl) (by assumption) ?_
    try simp only [Act.put, List.setIfInBounds_toArray, List.set_cons_zero, List.set_cons_succ]
    refine take_in (i := 2) (d := 41) (v := .int .i64 la) rfl rfl (by kernel_rfl) (by kernel_rfl) (by kernel_rfl) (fun _ _ _ h => h) (by kernel_rfl) (fun _ _ => rfl) (by assumption) ?_
    try simp only [Act.put, List.setIfInBounds_toArray, List.set_cons_zero, List.set_cons_succ]
    refine take_in (i := 3) (d := 42) (v := .agg (rsC s').toArray) rfl rfl (by kernel_rfl) (by kernel_rfl) (by kernel_rfl) (fun _ _ _ h => h) (by kernel_rfl) (fun w' hS => by have hS' : Frm [] Y w' := hS; have hh := (HRY.out.frm hS' (by simp)).load; go_simp) (by assumption) ?_
    try simp only [Act.put, List.setIfInBounds_toArray, List.set_cons_zero, List.set_cons_succ]
    refine wpAnyH_ready (rs := [4]) (by kernel_rfl) (by simp) ?_
    refine AllReadyH.cons rfl (fun K hK => ?_) AllReadyH.nil
    go_simp
    go_at_call 11
    refine (Words_any HFIT.out).mono ?_
    rintro e w3 ⟨rfl, g1⟩
    have s3 : Frm [] Y w3 := Frm.trans (by (repeat' (first | assumption | exact Frm.refl _ _ | apply Frm.drew | apply Frm.drewN))) g1
    clear g1
    refine hK.out _ _ (by exact s3) (fun hHeld => ?_)
    clear hK K
    try change wpAnyH _ _ _ _ _ _ _ (Act.put _ (some 43) _) _
    try simp only [Act.put, List.setIfInBounds_toArray, List.set_cons_zero, List.set_cons_succ]
    refine wpAnyH_ready (rs := [5]) (by kernel_rfl) (by simp) ?_
    refine AllReadyH.cons rfl (fun K hK => ?_) AllReadyH.nil
    go_simp
    go_at_call 10
    refine (packs_true (e2 := e2) (m := m) (f2 := f2) (HLI.out.frm0 (HFY.out.trans s3)) (by omega) (HL.out.frm0 (HFY.out.trans s3)) up ex wa gr fi la s'.sh s'.w1 0 (by rw [HP.out]; rfl)).mono ?_
    rintro e w4 ⟨rfl, g2⟩
    have s4 : Frm [] Y w4 := Frm.trans (by (repeat' (first | assumption | exact Frm.refl _ _ | apply Frm.drew | apply Frm.drewN))) g2
    clear g2
    refine hK.out _ _ (by exact s4) (fun hHeld => ?_)
    clear hK K
    try change wpAnyH _ _ _ _ _ _ _ (Act.put _ (some 44) _) _
    try simp only [Act.put, List.setIfInBounds_toArray, List.set_cons_zero, List.set_cons_succ]
    refine take_in (i := 6) (d := 45) (v := .bool false) rfl rfl (by kernel_rfl) (by kernel_rfl) (by kernel_rfl) (fun _ _ _ h => h) (by kernel_rfl) (fun _ _ => rfl) (by assumption) ?_
    try simp only [Act.put, List.setIfInBounds_toArray, List.set_cons_zero, List.set_cons_succ]
    refine wpAnyH_done (by kernel_rfl) ?_ _
    refine NoPanic.normal ?_
    go_wp2_with fail
    refine HK.out _ _ ?_
    clear HK K
    exact fin.out _ _ _ _ _ _ _ _ _ _ _ _ _ _ _ _ _ _ _ _ _ _ _ _ _ _ _ _ _ _ _ _ _ _ _ _ _ _ _ _ _ _ _ _ _ _ _ _ _ _ _ _ _ _ _ _ _ _ _ _ _ _ _ _ _ _ _ _ _ _ _ _ _ _ _ _ (HFX.out.trans (HFY.out.trans hHeld)) ((HFY.out.trans hHeld).heap G1.out (by simp)) (HL.out.frm0 (HFY.out.trans hHeld))
end
end Go.Proofs.YtjhidkjhfgbaeaaGreatDoor

/- LatchPacks: the law's walk from what came in. -/
namespace Go.Proofs.YtjhidkjhfgbaeaaGreatDoor
open Go.ChangeShapes Go.WideShapes Go.ChangeAt Go.RowKit
set_option linter.unusedVariables false
set_option linter.unusedSimpArgs false
theorem u64_nat_of {x : Int} (h : (Lit.int .u64 x).wf = true) : ∃ k : Nat, x = k ∧ k < 18446744073709551616 := by
  simp [Lit.wf, IntKind.min, IntKind.max, IntKind.signed, IntKind.bits] at h
  exact ⟨x.toNat, by omega, by omega⟩
section
set_option maxRecDepth 100000 in
set_option maxHeartbeats 4000000 in
theorem packs_long {w : World} {a e2 : Option Addr} {n c m f2 : Nat} (hL : Laid w) (hh : 70 < n ∨ 70 < m) (up ex wa gr fi la x y : Int) :
    Calls Tryz.prog 3 #[.agg #[.slice a n c, .int .i64 up, .int .i64 ex, .int .i64 wa, .int .i64 gr, .slice e2 m f2], .int .i64 fi, .int .i64 la, .agg #[.int .u64 x, .int .u64 y]] w (Ret (.bool true) (fun w' => Frm [] w w')) := by
  obtain ⟨X, hX⟩ : ∃ X, X = (w.alloc (.cells #[.slice a n c, .int .i64 up, .int .i64 ex, .int .i64 wa, .int .i64 gr, .slice e2 m f2] 25)).alloc (.cells #[.int .u64 x, .int .u64 y] 27) := ⟨_, rfl⟩
  have hFX : Frm [] w X := by rw [hX]; exact ((Frm.refl _ _).alloc _).alloc _
  have g0 : X.heap[w.heap.size]? = some (.cells #[.slice a n c, .int .i64 up, .int .i64 ex, .int .i64 wa, .int .i64 gr, .slice e2 m f2] 25 (0, 0)) := by rw [hX]; exact heap_alloc_old _ (heap_alloc_new _ _)
  obtain ⟨s0, s1, s2, s3, s4, s5⟩ := cells6L g0
  have hl0 := lt_of_heap g0
  have HFX := Lib.hid hFX
  have HK := Lib.hid (known_true (hL.frm0 hFX))
  clear hFX g0 hL
  by_cases h1 : 70 < n
  · have d1 : decide ((70 : Int) < (n : Int)) = true := by simp; omega
    clear hh h1
    go_enter Tryz.func3, Tryz.ntmps3
    go_wp2_with fail
    rw [← hX]
    clear hX
    go_wp2_with fail
    refine HK.out.mono ?_
    rintro e w1 ⟨rfl, hF⟩
    have HF := Lib.hid hF
    clear hF
    go_wp2
    go_ret
    exact ⟨rfl, HFX.out.trans HF.out⟩
  · have d1 : decide ((70 : Int) < (n : Int)) = false := by simp; omega
    have d2 : decide ((70 : Int) < (m : Int)) = true := by simp; omega
    clear hh h1
    go_enter Tryz.func3, Tryz.ntmps3
    go_wp2_with fail
    rw [← hX]
    clear hX
    go_wp2_with fail
    refine HK.out.mono ?_
    rintro e w1 ⟨rfl, hF⟩
    have HF := Lib.hid hF
    clear hF
    go_wp2
    go_ret
    exact ⟨rfl, HFX.out.trans HF.out⟩
end
theorem walk_LatchPacks (a : Option Addr) (n c : Nat) (up ex wa gr : Int) (e2 : Option Addr) (m f2 : Nat) (zs : List Int) (fi : Int) (wfi : (Lit.int .i64 fi).wf = true) (la : Int) (wla : (Lit.int .i64 la).wf = true) (x : Int) (wx : (Lit.int .u64 x).wf = true) (y : Int) (wy : (Lit.int .u64 y).wf = true) (W : World) (hW : Laid W) (hR : IsRow .i64 W a n c zs) :
    Calls Tryz.prog 3 #[.agg #[.slice a n c, .int .i64 up, .int .i64 ex, .int .i64 wa, .int .i64 gr, .slice e2 m f2], .int .i64 fi, .int .i64 la, .agg #[.int .u64 x, .int .u64 y]] W (Ret (.bool true) (fun w' => Below W.heap.size W w')) := by
  obtain ⟨b, o, hL, _, _⟩ := li_of_row hR
  have hb : ∀ e w', Ret (.bool true) (fun w' => Frm [] W w') e w' → Ret (.bool true) (fun w' => Below W.heap.size W w') e w' := fun e w' h => ⟨h.1, h.2.below (Nat.le_refl _) (by simp)⟩
  by_cases hl : 70 < n ∨ 70 < m
  · exact (packs_long hW hl up ex wa gr fi la x y).mono hb
  · obtain ⟨w0, rfl, h0⟩ := u64_nat_of wx
    obtain ⟨w1, rfl, h1⟩ := u64_nat_of wy
    exact (packs_main hL (by omega) (by omega) hW up ex wa gr fi la h0 h1).mono hb
#print axioms walk_LatchPacks
end Go.Proofs.YtjhidkjhfgbaeaaGreatDoor
