/- LxH, LxJ in one text (by mkbundle.py). -/
import Derived.Test.YtjhidkjhfgbaeaaGreatDoorBn15
/- The reference's Of (by gen_lxh.py). -/
namespace Go.Proofs.YtjhidkjhfgbaeaaGreatDoor
open Go.ChangeShapes Go.WideShapes Go.ChangeAt Go.RowKit
set_option linter.unusedVariables false
set_option linter.unusedSimpArgs false
attribute [local go_sem ↓] ldS_eq stS_eq blS_eq
theorem RsAt.setV {w : World} {b t : Nat} {s : LS} (h : RsAt w b s) (ht : t < 64) (v : Bool) (x : Nat) (hx : ∀ i, i < 64 → x.testBit i = if i = t then v else s.sh.testBit i) : RsAt (w.setCell ⟨b, t, none⟩ (.bool v)) b { s with sh := x } := by
  have := heap_setCell_at (i := t) (.bool v) h
  unfold RsAt
  rw [this]
  congr 2
  apply Array.ext_getElem?
  intro i
  rw [Array.getElem?_setIfInBounds]
  simp only [List.size_toArray, rsC_len, List.getElem?_toArray]
  by_cases e : t = i
  · subst e
    rw [if_pos rfl, if_pos (by omega), rsC_bit _ ht]
    simp [hx t ht]
  · rw [if_neg e]
    by_cases hi : i < 64
    · rw [rsC_bit _ hi, rsC_bit _ hi]
      simp [hx i hi, Ne.symm e]
    · obtain ⟨j, rfl⟩ : ∃ j, i = 64 + j := ⟨i - 64, by omega⟩
      rw [rsC_num, rsC_num]; rfl
theorem mod_bit (x k : Nat) (i : Nat) : (x % 2 ^ (k + 1)).testBit i = if i = k then x.testBit k else (x % 2 ^ k).testBit i := by
  rw [Nat.testBit_mod_two_pow, Nat.testBit_mod_two_pow]
  by_cases e : i = k
  · subst e; simp
  · rw [if_neg e]
    congr 1
    have : (i < k + 1) = (i < k) := by apply propext; omega
    simp only [this]
theorem bit_eq (x k : Nat) : ((((x / 2 ^ k : Nat) : Int) % 2) == 1) = x.testBit k := by
  rw [Nat.testBit_eq_decide_div_mod_eq]
  by_cases h : x / 2 ^ k % 2 = 1
  · have : (((x / 2 ^ k : Nat) : Int) % 2) = 1 := by omega
    rw [this]; simp [h]
  · have : ¬ (((x / 2 ^ k : Nat) : Int) % 2) = 1 := by omega
    simp only [beq_eq_false_iff_ne.2 this, h, decide_false]
def nf (w1 k i : Nat) : Int := if i < k then nmI w1 i else 0
def arr6 (w1 k : Nat) : Array Value := #[.int .i64 (nf w1 k 0), .int .i64 (nf w1 k 1), .int .i64 (nf w1 k 2), .int .i64 (nf w1 k 3), .int .i64 (nf w1 k 4), .int .i64 (nf w1 k 5)]
theorem arr6_set (w1 k : Nat) (hk : k < 6) : (arr6 w1 k).setIfInBounds k (.int .i64 (nmI w1 k)) = arr6 w1 (k + 1) := by
  match k, hk with
  | 0, _ | 1, _ | 2, _ | 3, _ | 4, _ | 5, _ => simp [arr6, nf]
theorem rsC_six (s : LS) (u e v f l g : Int) : ((((((rsC s).toArray.setIfInBounds 64 (.int .i64 u)).setIfInBounds 65 (.int .i64 e)).setIfInBounds 66 (.int .i64 v)).setIfInBounds 67 (.int .i64 f)).setIfInBounds 68 (.int .i64 l)).setIfInBounds 69 (.int .i64 g) = (rsC ⟨s.sh, u - 1, e - 1, v - 1, g, f - 1, l - 1⟩).toArray := by
  have hr : rsC ⟨s.sh, u - 1, e - 1, v - 1, g, f - 1, l - 1⟩ = (List.range 64).map (fun t => Value.bool (s.sh.testBit t)) ++ [.int .i64 u, .int .i64 e, .int .i64 v, .int .i64 f, .int .i64 l, .int .i64 g] := by
    simp only [rsC, rsN, Int.sub_add_cancel]
  refine Eq.trans ?_ (congrArg List.toArray hr.symm)
  kernel_rfl
theorem RsAt.six {w : World} {b : Nat} {s : LS} (h : RsAt w b s) (u e v f l g : Int) : RsAt ((((((w.setCell ⟨b, 64, none⟩ (.int .i64 u)).setCell ⟨b, 65, none⟩ (.int .i64 e)).setCell ⟨b, 66, none⟩ (.int .i64 v)).setCell ⟨b, 67, none⟩ (.int .i64 f)).setCell ⟨b, 68, none⟩ (.int .i64 l)).setCell ⟨b, 69, none⟩ (.int .i64 g)) b ⟨s.sh, u - 1, e - 1, v - 1, g, f - 1, l - 1⟩ := by
  have := heap_setCell_at (i := 69) (.int .i64 g) (heap_setCell_at (i := 68) (.int .i64 l) (heap_setCell_at (i := 67) (.int .i64 f) (heap_setCell_at (i := 66) (.int .i64 v) (heap_setCell_at (i := 65) (.int .i64 e) (heap_setCell_at (i := 64) (.int .i64 u) h)))))
  unfold RsAt
  rw [this, rsC_six]
theorem nm_eq (w1 k : Nat) : nmI w1 k = ((w1 / 2 ^ (8 * k) : Nat) : Int) % 256 := by
  unfold nmI
  rw [Int.toNat_natCast]
  omega
theorem arr6_cells {w : World} {b w1 : Nat} (h : w.heap[b]? = some (.cells (arr6 w1 6) 116 (0, 0))) : w.cell? ⟨b, 0, none⟩ = some (.int .i64 (nmI w1 0)) ∧ w.cell? ⟨b, 1, none⟩ = some (.int .i64 (nmI w1 1)) ∧ w.cell? ⟨b, 2, none⟩ = some (.int .i64 (nmI w1 2)) ∧ w.cell? ⟨b, 3, none⟩ = some (.int .i64 (nmI w1 3)) ∧ w.cell? ⟨b, 4, none⟩ = some (.int .i64 (nmI w1 4)) ∧ w.cell? ⟨b, 5, none⟩ = some (.int .i64 (nmI w1 5)) :=
  cells6L h
end Go.Proofs.YtjhidkjhfgbaeaaGreatDoor

/- The reference's Of: its last region, as a piece (by gen_lxj.py). -/
namespace Go.Proofs.YtjhidkjhfgbaeaaGreatDoor
open Go.ChangeShapes Go.WideShapes Go.ChangeAt Go.RowKit
set_option linter.unusedVariables false
set_option linter.unusedSimpArgs false
attribute [local go_sem ↓] ldS_eq stS_eq blS_eq
noncomputable def ofT (k : Nat) : Code := dropS k (Tryz.f12.body.getD .skip)
set_option maxRecDepth 1000000 in
set_option maxHeartbeats 4000000 in
theorem of14y {w W : World} {s : LS} {p4 q6 B : Nat} {v : Bool} (v0 v2 v3 v5 v7 v8 v9 v10 v11 v12 v13 v14 v15 v16 v17 v18 v19 v20 v21 v22 v23 v24 v25 v26 v27 v28 v29 v30 v31 v32 v33 v34 v35 v36 v37 v38 v39 v40 v41 v42 v43 v44 v45 v46 v47 v48 v49 v50 v51 v52 v53 v54 v55 v56 v57 : Value) (hF : Frm [] w W) (hp : w.heap.size ≤ p4) (h4 : RsAt W p4 zS) (h6 : RsAt W q6 s) (hne : q6 ≠ p4) (hsh : s.sh < 18446744073709551616)
    (hu : (-1 ≤ s.up ∧ s.up < 255) ∧ (-1 ≤ s.ex ∧ s.ex < 255) ∧ (-1 ≤ s.wa ∧ s.wa < 255) ∧ (-1 ≤ s.fi ∧ s.fi < 255) ∧ (-1 ≤ s.la ∧ s.la < 255)) (hB : (((B : Nat) : Int) == 0) = true) (hv : v = s.may 64) :
    Code.wp Tryz.prog (ofT 6) (bodyPost Tryz.prog Tryz.f12 (Ret (.tuple #[.agg (rsC s).toArray, .bool v]) (fun w' => Frm [] w w'))) ⟨List.toArray (v0 :: .int .u64 ((B : Nat) : Int) :: v2 :: v3 :: .pointer (some ⟨p4, 0, none⟩) :: v5 :: .pointer (some ⟨q6, 0, none⟩) :: v7 :: v8 :: v9 :: v10 :: v11 :: v12 :: v13 :: v14 :: v15 :: v16 :: v17 :: v18 :: v19 :: v20 :: v21 :: v22 :: v23 :: v24 :: v25 :: v26 :: v27 :: v28 :: v29 :: v30 :: v31 :: v32 :: v33 :: v34 :: v35 :: v36 :: v37 :: v38 :: v39 :: v40 :: v41 :: v42 :: v43 :: v44 :: v45 :: v46 :: v47 :: v48 :: v49 :: v50 :: v51 :: v52 :: v53 :: v54 :: v55 :: v56 :: v57 :: []), []⟩ W := by
  have HF := Lib.hid hF
  have HP := Lib.hid hp
  have H4 := Lib.hid h4
  have H6 := Lib.hid h6
  have HSH := Lib.hid hsh
  have HU := Lib.hid hu
  have HV := Lib.hid hv
  have hst : ∀ w', RsAt w' p4 zS → (stS ⟨p4, 0, none⟩ (.agg (rsC s).toArray)).run Tryz.prog w' = .ok () (w'.setRow p4 (rsC s).toArray) := fun w' h => h.store _
  have hr0 := H4.out
  have hr1 : ∀ n, RsAt (W.drewN n) p4 zS := fun n => H4.out
  have hr2 : RsAt W.drew p4 zS := H4.out
  have hld := h6.load
  clear hF hp h4 h6 hsh hu hv
  conv => arg 2; whnf
  go_wp2_with fail
  refine wp_region_noPanic ?_
  refine wp_region_held_drew (S := fun w' => Frm [p4] W w') (by kernel_rfl) ((Frm.refl _ _).drew) (fun hHeld => ?_)
  refine take_in (i := 0) (d := 51) (v := .agg (rsC s).toArray) rfl rfl (by kernel_rfl) (by kernel_rfl) (by kernel_rfl) (fun _ _ _ h => h) (by kernel_rfl) (fun w' hS => by have hS' : Frm [p4] W w' := hS; have hh := (H6.out.frm hS' (by simpa using hne)).load; go_simp) (by assumption) ?_
  try simp only [Act.put, List.setIfInBounds_toArray, List.set_cons_zero, List.set_cons_succ]
  refine take_in (i := 1) (d := 52) (v := .int .u64 ((B : Nat) : Int)) rfl rfl (by kernel_rfl) (by kernel_rfl) (by kernel_rfl) (fun _ _ _ h => h) (by kernel_rfl) (fun _ _ => rfl) (by assumption) ?_
  try simp only [Act.put, List.setIfInBounds_toArray, List.set_cons_zero, List.set_cons_succ]
  refine take_in (i := 2) (d := 53) (v := .bool true) rfl rfl (by kernel_rfl) (by kernel_rfl) (by kernel_rfl) (fun _ _ _ h => h) (by kernel_rfl) (fun w' hS => by go_simp) (by assumption) ?_
  try simp only [Act.put, List.setIfInBounds_toArray, List.set_cons_zero, List.set_cons_succ]
  refine take_in (i := 3) (d := 54) (v := .bool true) rfl rfl (by kernel_rfl) (by kernel_rfl) (by kernel_rfl) (fun _ _ _ h => h) (by kernel_rfl) (fun _ _ => rfl) (by assumption) ?_
  try simp only [Act.put, List.setIfInBounds_toArray, List.set_cons_zero, List.set_cons_succ]
  refine take_in (i := 4) (d := 55) (v := .agg (rsC s).toArray) rfl rfl (by kernel_rfl) (by kernel_rfl) (by kernel_rfl) (fun _ _ _ h => h) (by kernel_rfl) (fun w' hS => by have hS' : Frm [p4] W w' := hS; have hh := (H6.out.frm hS' (by simpa using hne)).load; go_simp) (by assumption) ?_
  try simp only [Act.put, List.setIfInBounds_toArray, List.set_cons_zero, List.set_cons_succ]
  refine wpAnyH_ready (rs := [5]) (by kernel_rfl) (by simp) ?_
  refine AllReadyH.cons rfl (fun K hK => ?_) AllReadyH.nil
  go_simp
  go_at_call 44
  refine (Right_any (s := s) HSH.out HU.out.1 HU.out.2.1 HU.out.2.2.1 HU.out.2.2.2.1 HU.out.2.2.2.2).mono ?_
  rintro e w2 ⟨rfl, g1⟩
  have hr0 : RsAt w2 p4 zS := RsAt.frm (by exact H4.out) g1 (by simp)
  have hr1 : ∀ n, RsAt (w2.drewN n) p4 zS := fun n => hr0
  have hr2 : RsAt w2.drew p4 zS := hr0
  have s2 : Frm [p4] W w2 := Frm.trans (by (repeat' (first | assumption | exact Frm.refl _ _ | apply Frm.drew | apply Frm.drewN))) g1.nil
  refine hK.out _ _ (by exact s2) (fun hHeld => ?_)
  clear hK K
  try change wpAnyH _ _ _ _ _ _ _ (Act.put _ (some 56) _) _
  try simp only [Act.put, List.setIfInBounds_toArray, List.set_cons_zero, List.set_cons_succ]
  refine take_in (i := 6) (d := 57) (v := .bool (s.may 64)) rfl rfl (by kernel_rfl) (by kernel_rfl) (by kernel_rfl) (fun _ _ _ h => h) (by kernel_rfl) (fun _ _ => rfl) (by assumption) ?_
  try simp only [Act.put, List.setIfInBounds_toArray, List.set_cons_zero, List.set_cons_succ]
  refine wpAnyH_ready (rs := [7]) (by kernel_rfl) (by simp) ?_
  refine AllReadyH.cons rfl (fun K hK => ?_) AllReadyH.nil
  go_simp
  refine hK.out _ _ (Frm.trans (by (repeat' (first | assumption | exact Frm.refl _ _ | apply Frm.drew | apply Frm.drewN))) (frm_row _ _ _)) (fun hHeld => ?_)
  clear hK K
  try simp only [Act.put, List.setIfInBounds_toArray, List.set_cons_zero, List.set_cons_succ]
  refine take_in (i := 8) (d := 5) (v := .bool (s.may 64)) rfl rfl (by kernel_rfl) (by kernel_rfl) (by kernel_rfl) (fun _ _ _ h => h) (by kernel_rfl) (fun _ _ => rfl) (by assumption) ?_
  try simp only [Act.put, List.setIfInBounds_toArray, List.set_cons_zero, List.set_cons_succ]
  refine wpAnyH_done (by kernel_rfl) ?_ _
  refine NoPanic.normal ?_
  go_wp2
  first
    | exact bodyPost_ret (results_st rfl _ rfl rfl (hr0.row s)) rfl ⟨by first | rfl | (rw [HV.out]; rfl) | rw [HV.out], HF.out.trans_new hHeld (fun x hx => .inr (by rw [List.mem_singleton.1 hx]; exact HP.out))⟩
    | exact bodyPost_ret (results_st rfl _ rfl rfl hB2) rfl ⟨by first | rfl | (rw [HV.out]; rfl) | rw [HV.out], HF.out.trans_new hHeld (fun x hx => .inr (by rw [List.mem_singleton.1 hx]; exact HP.out))⟩
set_option maxRecDepth 1000000 in
set_option maxHeartbeats 4000000 in
theorem of14n {w W : World} {s : LS} {p4 q6 B : Nat} {v : Bool} (v0 v2 v3 v5 v7 v8 v9 v10 v11 v12 v13 v14 v15 v16 v17 v18 v19 v20 v21 v22 v23 v24 v25 v26 v27 v28 v29 v30 v31 v32 v33 v34 v35 v36 v37 v38 v39 v40 v41 v42 v43 v44 v45 v46 v47 v48 v49 v50 v51 v52 v53 v54 v55 v56 v57 : Value) (hF : Frm [] w W) (hp : w.heap.size ≤ p4) (h4 : RsAt W p4 zS) (h6 : RsAt W q6 s) (hne : q6 ≠ p4) (hsh : s.sh < 18446744073709551616)
    (hu : (-1 ≤ s.up ∧ s.up < 255) ∧ (-1 ≤ s.ex ∧ s.ex < 255) ∧ (-1 ≤ s.wa ∧ s.wa < 255) ∧ (-1 ≤ s.fi ∧ s.fi < 255) ∧ (-1 ≤ s.la ∧ s.la < 255)) (hB : (((B : Nat) : Int) == 0) = false) (hv : v = false) :
    Code.wp Tryz.prog (ofT 6) (bodyPost Tryz.prog Tryz.f12 (Ret (.tuple #[.agg (rsC s).toArray, .bool v]) (fun w' => Frm [] w w'))) ⟨List.toArray (v0 :: .int .u64 ((B : Nat) : Int) :: v2 :: v3 :: .pointer (some ⟨p4, 0, none⟩) :: v5 :: .pointer (some ⟨q6, 0, none⟩) :: v7 :: v8 :: v9 :: v10 :: v11 :: v12 :: v13 :: v14 :: v15 :: v16 :: v17 :: v18 :: v19 :: v20 :: v21 :: v22 :: v23 :: v24 :: v25 :: v26 :: v27 :: v28 :: v29 :: v30 :: v31 :: v32 :: v33 :: v34 :: v35 :: v36 :: v37 :: v38 :: v39 :: v40 :: v41 :: v42 :: v43 :: v44 :: v45 :: v46 :: v47 :: v48 :: v49 :: v50 :: v51 :: v52 :: v53 :: v54 :: v55 :: v56 :: v57 :: []), []⟩ W := by
  have HF := Lib.hid hF
  have HP := Lib.hid hp
  have H4 := Lib.hid h4
  have H6 := Lib.hid h6
  have HSH := Lib.hid hsh
  have HU := Lib.hid hu
  have HV := Lib.hid hv
  have hst : ∀ w', RsAt w' p4 zS → (stS ⟨p4, 0, none⟩ (.agg (rsC s).toArray)).run Tryz.prog w' = .ok () (w'.setRow p4 (rsC s).toArray) := fun w' h => h.store _
  have hr0 := H4.out
  have hr1 : ∀ n, RsAt (W.drewN n) p4 zS := fun n => H4.out
  have hr2 : RsAt W.drew p4 zS := H4.out
  have hld := h6.load
  clear hF hp h4 h6 hsh hu hv
  conv => arg 2; whnf
  go_wp2_with fail
  refine wp_region_noPanic ?_
  refine wp_region_held_drew (S := fun w' => Frm [p4] W w') (by kernel_rfl) ((Frm.refl _ _).drew) (fun hHeld => ?_)
  refine take_in (i := 0) (d := 51) (v := .agg (rsC s).toArray) rfl rfl (by kernel_rfl) (by kernel_rfl) (by kernel_rfl) (fun _ _ _ h => h) (by kernel_rfl) (fun w' hS => by have hS' : Frm [p4] W w' := hS; have hh := (H6.out.frm hS' (by simpa using hne)).load; go_simp) (by assumption) ?_
  try simp only [Act.put, List.setIfInBounds_toArray, List.set_cons_zero, List.set_cons_succ]
  refine take_in (i := 1) (d := 52) (v := .int .u64 ((B : Nat) : Int)) rfl rfl (by kernel_rfl) (by kernel_rfl) (by kernel_rfl) (fun _ _ _ h => h) (by kernel_rfl) (fun _ _ => rfl) (by assumption) ?_
  try simp only [Act.put, List.setIfInBounds_toArray, List.set_cons_zero, List.set_cons_succ]
  refine take_in (i := 2) (d := 53) (v := .bool false) rfl rfl (by kernel_rfl) (by kernel_rfl) (by kernel_rfl) (fun _ _ _ h => h) (by kernel_rfl) (fun w' hS => by go_simp) (by assumption) ?_
  try simp only [Act.put, List.setIfInBounds_toArray, List.set_cons_zero, List.set_cons_succ]
  refine take_in (i := 3) (d := 54) (v := .bool false) rfl rfl (by kernel_rfl) (by kernel_rfl) (by kernel_rfl) (fun _ _ _ h => h) (by kernel_rfl) (fun _ _ => rfl) (by assumption) ?_
  try simp only [Act.put, List.setIfInBounds_toArray, List.set_cons_zero, List.set_cons_succ]
  refine take_out (i := 4) (d := 55) rfl rfl (by kernel_rfl) (by kernel_rfl) (by kernel_rfl) (fun _ _ _ h => h) (by kernel_rfl) (by assumption) ?_
  try simp only [Act.put, List.setIfInBounds_toArray, List.set_cons_zero, List.set_cons_succ]
  refine take_out (i := 5) (d := 56) rfl rfl (by kernel_rfl) (by kernel_rfl) (by kernel_rfl) (fun _ _ _ h => h) (by kernel_rfl) (by assumption) ?_
  try simp only [Act.put, List.setIfInBounds_toArray, List.set_cons_zero, List.set_cons_succ]
  refine take_in (i := 6) (d := 57) (v := .bool false) rfl rfl (by kernel_rfl) (by kernel_rfl) (by kernel_rfl) (fun _ _ _ h => h) (by kernel_rfl) (fun _ _ => rfl) (by assumption) ?_
  try simp only [Act.put, List.setIfInBounds_toArray, List.set_cons_zero, List.set_cons_succ]
  refine wpAnyH_ready (rs := [7]) (by kernel_rfl) (by simp) ?_
  refine AllReadyH.cons rfl (fun K hK => ?_) AllReadyH.nil
  go_simp
  refine hK.out _ _ (Frm.trans (by (repeat' (first | assumption | exact Frm.refl _ _ | apply Frm.drew | apply Frm.drewN))) (frm_row _ _ _)) (fun hHeld => ?_)
  have hB1 : RsAt (W.setRow p4 (rsC s).toArray) p4 s := H4.out.row _
  clear hK K
  try simp only [Act.put, List.setIfInBounds_toArray, List.set_cons_zero, List.set_cons_succ]
  refine take_in (i := 8) (d := 5) (v := .bool false) rfl rfl (by kernel_rfl) (by kernel_rfl) (by kernel_rfl) (fun _ _ _ h => h) (by kernel_rfl) (fun _ _ => rfl) (by assumption) ?_
  try simp only [Act.put, List.setIfInBounds_toArray, List.set_cons_zero, List.set_cons_succ]
  refine wpAnyH_done (by kernel_rfl) ?_ _
  refine NoPanic.normal ?_
  go_wp2
  first
    | exact bodyPost_ret (results_st rfl _ rfl rfl (hr0.row s)) rfl ⟨by first | rfl | (rw [HV.out]; rfl) | rw [HV.out], HF.out.trans_new hHeld (fun x hx => .inr (by rw [List.mem_singleton.1 hx]; exact HP.out))⟩
    | exact bodyPost_ret (results_st rfl _ rfl rfl hB1) rfl ⟨by first | rfl | (rw [HV.out]; rfl) | rw [HV.out], HF.out.trans_new hHeld (fun x hx => .inr (by rw [List.mem_singleton.1 hx]; exact HP.out))⟩
end Go.Proofs.YtjhidkjhfgbaeaaGreatDoor
