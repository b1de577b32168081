/- The reference's Next at a word that is read. (By gen_vpd.py.) -/
import Derived.Test.YtbhnijkphkkalaaVpD
import Derived.Test.YtbhnijkphkkalaaAp
namespace Go.Proofs.Ytbhnijkphkkalaa
open Go.ChangeShapes Go.WideShapes Go.ChangeAt Go.RowKit
set_option linter.unusedVariables false

/-- What was read, in a row that is new. -/
def NewR (w w' : World) (a : Option Addr) (n c : Nat) (l : List Int) : Prop := ∃ B, w.heap.size ≤ B ∧ Row .u64 22 B w' a n c l
def RdQ (w : World) (n g : Nat) (ws' : List Int) (V F : Int) (la : Option Addr) (ln lc : Nat) (many tries steps first : Int) (rn : Nat) (res : Int) (rl : List Int) (e : Ending) (w' : World) : Prop :=
  ∃ a2 k2, NxQ w n g ws' #[.bool false, .int .i64 V, .int .i64 F, .slice la ln lc, .int .i64 many, .int .i64 tries, .int .i64 steps, .int .u64 first, .slice a2 (rn + 1) k2, .int .u64 res, .bool false] false 0 e w' ∧ NewR w w' a2 (rn + 1) k2 rl
section
variable {w : World} {W : Bool} {V F : Int} {la : Option Addr} {ln lc : Nat} {many tries steps first : Int} {ra : Option Addr} {rn rcap : Nat} {res : Int} {ended : Bool} {n g oo c : Nat} {ws ws' : List Int}

set_option maxRecDepth 100000 in
set_option maxHeartbeats 8000000 in
theorem next_read {ak wd af k2 d2 v y : Int} (hg : g < w.heap.size)
    (HA : Hid (∀ w', Frm [] w w' → Calls Try.prog 40 #[.agg #[.bool false, .int .i64 V, .int .i64 F, .slice la ln lc, .int .i64 many, .int .i64 tries, .int .i64 steps, .int .u64 first, .slice ra rn rcap, .int .u64 res, .bool false]] w' (Ret (.agg #[.int .i64 ak, .int .i64 wd, .int .u64 0, .int .u64 af]) (fun w'' => Frm [] w' w''))))
    (HD : Hid (∀ w', Frm [] w w' → Calls Try.prog 39 #[.slice (some ⟨g, oo, none⟩) n c, .agg #[.int .i64 ak, .int .i64 wd, .int .u64 0, .int .u64 af]] w' (DoQ w' n g ws' k2 d2 v y 0))) (hv0 : 0 ≤ v) (h1 : 1 ≤ steps) (h2 : steps ≤ 300) (hsl : steps ≤ many) {rb ro : Nat} {rl : List Int} (hLR : Li .u64 w ra rn rcap rb ro rl) (hrn : rn ≤ 300) :
    Calls Try.prog 23 #[.agg #[.bool false, .int .i64 V, .int .i64 F, .slice la ln lc, .int .i64 many, .int .i64 tries, .int .i64 steps, .int .u64 first, .slice ra rn rcap, .int .u64 res, .bool false], .slice (some ⟨g, oo, none⟩) n c] w (RdQ w n g ws' V F la ln lc many tries (steps + 1) first rn res (rl ++ [v])) := by
  have HG := Lib.hid hg
  have hs0 : (steps == 0) = false := by simp; omega
  have hs1 : IntKind.i64.wrap (steps + 1) = steps + 1 := by rw [IntWalk.i64_in _ (by omega)]
  have hs2 : decide (steps ≤ many) = true := by simp; omega
  have hs3 : 0 ≤ steps := by omega
  have HRN := Lib.hid hrn
  have HLR0 := Lib.hid hLR
  clear hsl hLR hrn
  have h1 := HA.out _ (((Frm.refl [] w).alloc (.cells #[.bool false, .int .i64 V, .int .i64 F, .slice la ln lc, .int .i64 many, .int .i64 tries, .int .i64 steps, .int .u64 first, .slice ra rn rcap, .int .u64 res, .bool false] 48)).alloc (.cells #[.bool false, .int .i64 0, .int .i64 0, .slice none 0 0, .int .i64 0, .int .i64 0, .int .i64 0, .int .u64 0, .slice none 0 0, .int .u64 0, .bool false] 48))
  have HA1 := Lib.hid h1
  clear h1
  go_enter Try.func23, Try.ntmps23
  go_wp2_with fail
  refine HA1.out.mono ?_
  rintro e w1 ⟨rfl, hF1⟩
  have hFa : Frm [] w w1 := (((Frm.refl [] w).alloc _).alloc _).trans hF1
  have hB2 : w1.heap[w.heap.size]? = some (.cells #[.bool false, .int .i64 V, .int .i64 F, .slice la ln lc, .int .i64 many, .int .i64 tries, .int .i64 steps, .int .u64 first, .slice ra rn rcap, .int .u64 res, .bool false] 48 (0, 0)) := hF1.heap (heap_alloc_old _ (heap_alloc_new _ _)) (by simp)
  have hB4 : w1.heap[w.heap.size + 1]? = some (.cells #[.bool false, .int .i64 0, .int .i64 0, .slice none 0 0, .int .i64 0, .int .i64 0, .int .i64 0, .int .u64 0, .slice none 0 0, .int .u64 0, .bool false] 48 (0, 0)) := hF1.heap (heap_alloc_at _ (by simp)) (by simp)
  have HD1 := Lib.hid (HD.out w1 hFa)
  have HFA := Lib.hid hFa
  have HB2 := Lib.hid hB2
  have HB4 := Lib.hid hB4
  clear hF1 hFa hB2 hB4 HA1 HA HD
  go_wp2_with fail
  refine HD1.out.mono ?_
  rintro e w2 ⟨b', o', c', rfl, hF2, hR2, hb2⟩
  have hFb : Frm [] w w2 := HFA.out.trans hF2
  obtain ⟨X, hX⟩ : ∃ X, X = w2.alloc (.cells #[.int .i64 k2, .int .i64 d2, .int .u64 v, .int .u64 y] 91) := ⟨_, rfl⟩
  have hFX : Frm [] w X := by rw [hX]; exact hFb.alloc _
  have hX2 : X.heap[w.heap.size]? = some (.cells #[.bool false, .int .i64 V, .int .i64 F, .slice la ln lc, .int .i64 many, .int .i64 tries, .int .i64 steps, .int .u64 first, .slice ra rn rcap, .int .u64 res, .bool false] 48 (0, 0)) := by rw [hX]; exact heap_alloc_old _ (hF2.heap HB2.out (by simp))
  have hX4 : X.heap[w.heap.size + 1]? = some (.cells #[.bool false, .int .i64 0, .int .i64 0, .slice none 0 0, .int .i64 0, .int .i64 0, .int .i64 0, .int .u64 0, .slice none 0 0, .int .u64 0, .bool false] 48 (0, 0)) := by rw [hX]; exact heap_alloc_old _ (hF2.heap HB4.out (by simp))
  have hXa : X.heap[w2.heap.size]? = some (.cells #[.int .i64 k2, .int .i64 d2, .int .u64 v, .int .u64 y] 91 (0, 0)) := by rw [hX]; exact heap_alloc_new _ _
  have hXr : Rd X (.slice (some ⟨b', o', none⟩) n c') (u64s ws') := by rw [hX]; exact hR2.frm ((Frm.refl [] w2).alloc _) (by simp)
  have hXb : b' = g ∨ w.heap.size + 2 ≤ b' := by rcases hb2 with h | h; exact .inl h; exact .inr (by have := lt_of_heap HB4.out; omega)
  have hne : w.heap.size ≠ w2.heap.size ∧ w.heap.size + 1 ≠ w2.heap.size := by have h1 := lt_of_heap HB4.out; have h2 := hF2.size; omega
  obtain ⟨q0, q1, q2, q3, q4, q5, q6, q7, q8, q9, q10⟩ := cells11 hX2
  obtain ⟨t0, t1, t2, t3, t4, t5, t6, t7, t8, t9, t10⟩ := cells11 hX4
  obtain ⟨f0, f1, f2, f3, f4, f5, f6, f7, f8, f9, f10⟩ := frozen11 hX2
  obtain ⟨g0, g1, g2, g3, g4, g5, g6, g7, g8, g9, g10⟩ := frozen11 hX4
  obtain ⟨a0, a1, a2, a3⟩ := cells4 hXa
  have HX := Lib.hid hX
  have HFX := Lib.hid hFX
  have HX2 := Lib.hid hX2
  have HX4 := Lib.hid hX4
  have HXR := Lib.hid hXr
  have HXB := Lib.hid hXb
  generalize ha9 : w2.heap.size = na at *
  obtain ⟨hn1, hn2⟩ := hne
  clear hX hFX hX2 hX4 hXa hXr hXb hF2 hR2 hb2 hFb HD1 HFA HB2 HB4
  go_upto_region 4 with fail
  rw [← HX.out]
  go_upto_region 22 with fail
  have hX2l : w.heap.size < X.heap.size := lt_of_heap HX2.out
  have HLR := Lib.hid (HLR0.out.frm0 HFX.out)
  have HS4 : Hid (∀ w', Frm [w.heap.size] X w' → w'.cell? ⟨na, 2, none⟩ = some (.int .u64 v)) := Lib.hid (fun w' hf => (hf.cell (World.block_lt_of_cell? X _ a2) (by simpa using hn1.symm)).trans a2)
  have hXw : w.heap.size + 2 ≤ X.heap.size := by have := lt_of_heap HX4.out; omega
  refine wp_region_noPanic ?_
  refine wp_region_held_drew (S := fun w' => Frm [w.heap.size] X w') (by kernel_rfl) ((Frm.refl _ _).drew) (fun hHeld => ?_)
  refine take_in (i := 0) (d := 85) (v := .pointer (some ⟨w.heap.size, 8, none⟩)) rfl rfl (by kernel_rfl) (by kernel_rfl) (by kernel_rfl) (fun _ _ _ h => h) (by kernel_rfl) (fun _ _ => rfl) (by assumption) ?_
  try simp only [Act.put, List.setIfInBounds_toArray, List.set_cons_zero, List.set_cons_succ]
  refine take_in (i := 3) (d := 88) (v := .pointer (some ⟨na, 2, none⟩)) rfl rfl (by kernel_rfl) (by kernel_rfl) (by kernel_rfl) (fun _ _ _ h => h) (by kernel_rfl) (fun _ _ => rfl) (by assumption) ?_
  try simp only [Act.put, List.setIfInBounds_toArray, List.set_cons_zero, List.set_cons_succ]
  refine take_in (i := 4) (d := 89) (v := .int .u64 v) rfl rfl (by kernel_rfl) (by kernel_rfl) (by kernel_rfl) (fun _ _ _ h => h) (by kernel_rfl) (fun w' hS => by have hS' : Frm [w.heap.size] X w' := hS; have hh := HS4.out w' hS'; go_simp) (by assumption) ?_
  try simp only [Act.put, List.setIfInBounds_toArray, List.set_cons_zero, List.set_cons_succ]
  refine wpAnyH_ready (rs := [1, 5]) (by kernel_rfl) (by simp) ?_
  refine AllReadyH.cons rfl (fun K hK => ?_) (AllReadyH.cons rfl (fun K hK => ?_) AllReadyH.nil)
  · have hq8 : X.drew.cell? ⟨w.heap.size, 8, none⟩ = some (.slice ra rn rcap) := q8
    go_simp
    clear hq8
    have s1 : Frm [w.heap.size] X X.drew := ((Frm.refl [] X).drew).weak (by simp)
    refine hK.out _ _ (by exact s1) (fun hHeld => ?_)
    clear hK K
    try change wpAnyH _ _ _ _ _ _ _ (Act.put _ (some 86) _) _
    try simp only [Act.put, List.setIfInBounds_toArray, List.set_cons_zero, List.set_cons_succ]
    refine wpAnyH_ready (rs := [2, 5]) (by kernel_rfl) (by simp) ?_
    refine AllReadyH.cons rfl (fun K hK => ?_) (AllReadyH.cons rfl (fun K hK => ?_) AllReadyH.nil)
    · refine step_appW Try.underlying23 info_u64 (by decide) (by decide) rfl (.const (.slice none 0 0)) (.tmp 86) rfl (B := X.heap.size) (a := none) (n := 0) (c := 0) (m := rn) (l := []) (l2 := rl) (by rfl) (by simp [Act.eval]) (Row.nil _ _ _ _) (HLR.out.frm0 ((Frm.refl [] X).drew)) (by have := HRN.out; simp; omega) (((Frm.refl [] X).drew).size) ?_
      intro a1 k1 V2 row2 fa2 pa2
      have fr2 : Frm [] X V2 := ((Frm.refl [] X).drew).trans fa2
      have s2 : Frm [w.heap.size] X V2 := fr2.weak (by simp)
      clear pa2
      refine hK.out _ _ (by exact s2) (fun hHeld => ?_)
      clear hK K
      try change wpAnyH _ _ _ _ _ _ _ (Act.put _ (some 87) _) _
      try simp only [Act.put, List.setIfInBounds_toArray, List.set_cons_zero, List.set_cons_succ]
      refine wpAnyH_ready (rs := [5]) (by kernel_rfl) (by simp) ?_
      refine AllReadyH.cons rfl (fun K hK => ?_) AllReadyH.nil
      go_simp
      obtain ⟨U3, hU3⟩ : ∃ U3, U3 = V2.alloc (.cells #[.int .u64 v] 22) := ⟨_, rfl⟩
      have fr3 : Frm [] X U3 := by rw [hU3]; exact fr2.alloc _
      have lb3 : Li .u64 U3 (some ⟨V2.heap.size, 0, none⟩) 1 1 V2.heap.size 0 [v] := by rw [hU3]; exact li_new rfl (heap_alloc_new _ _)
      rw [← hU3]
      have s3 : Frm [w.heap.size] X U3 := fr3.weak (by simp)
      have row3 : Row .u64 22 X.heap.size U3 a1 (0 + rn) k1 ([] ++ rl) := by rw [hU3]; exact row2.frm0 ((Frm.refl [] _).alloc _)
      clear hU3
      refine hK.out _ _ (by exact s3) (fun hHeld => ?_)
      clear hK K
      try change wpAnyH _ _ _ _ _ _ _ (Act.put _ (some 90) _) _
      try simp only [Act.put, List.setIfInBounds_toArray, List.set_cons_zero, List.set_cons_succ]
      refine wpAnyH_ready (rs := [6]) (by kernel_rfl) (by simp) ?_
      refine AllReadyH.cons rfl (fun K hK => ?_) AllReadyH.nil
      refine step_appW Try.underlying23 info_u64 (by decide) (by decide) rfl (.tmp 87) (.tmp 90) rfl (B := X.heap.size) (a := a1) (n := 0 + rn) (c := k1) (m := 1) (l := [] ++ rl) (l2 := [v]) (by simp [Act.eval]) (by simp [Act.eval]) row3 lb3 (by have := HRN.out; have := HLR.out.len; simp; omega) (fr3.size) ?_
      intro a2 k2 V4 row4 fa4 pa4
      have fr4 : Frm [] X V4 := fr3.trans_new fa4 (fun x hx => .inr (row3.blk x hx).1)
      have s4 : Frm [w.heap.size] X V4 := fr4.weak (by simp)
      clear pa4 fa4
      refine hK.out _ _ (by exact s4) (fun hHeld => ?_)
      clear hK K
      try change wpAnyH _ _ _ _ _ _ _ (Act.put _ (some 91) _) _
      try simp only [Act.put, List.setIfInBounds_toArray, List.set_cons_zero, List.set_cons_succ]
      refine take_in (i := 7) (d := 92) (v := .pointer (some ⟨w.heap.size, 8, none⟩)) rfl rfl (by kernel_rfl) (by kernel_rfl) (by kernel_rfl) (fun _ _ _ h => h) (by kernel_rfl) (fun _ _ => rfl) (by assumption) ?_
      try simp only [Act.put, List.setIfInBounds_toArray, List.set_cons_zero, List.set_cons_succ]
      refine wpAnyH_ready (rs := [8]) (by kernel_rfl) (by simp) ?_
      refine AllReadyH.cons rfl (fun K hK => ?_) AllReadyH.nil
      have hq8 : V4.cell? ⟨w.heap.size, 8, none⟩ = some (.slice ra rn rcap) := ((fr4.cell hX2l (by simp)).trans q8)
      have hz8 : V4.frozen? ⟨w.heap.size, 8, none⟩ = false := (fr4.frozen hX2l (by simp)).trans f8
      go_simp
      clear hq8 hz8
      have s5 : Frm [w.heap.size] X (V4.setCell ⟨w.heap.size, 8, none⟩ (.slice a2 (0 + rn + 1) k2)) := (fr4.weak (by simp)).setCell _ _ (.inl (by simp))
      refine hK.out _ _ (by first | exact s5 | (simp only [Nat.zero_add] at s5 ⊢; exact s5)) (fun hHeld => ?_)
      clear hK K
      try simp only [Act.put, List.setIfInBounds_toArray, List.set_cons_zero, List.set_cons_succ]
      refine wpAnyH_done (by kernel_rfl) ?_ _
      refine NoPanic.normal ?_
      have rowS : Row .u64 22 X.heap.size V4 a2 (rn + 1) k2 (rl ++ [v]) := by have := row4; simpa [Nat.zero_add] using this
      have hY2 : (V4.setCell ⟨w.heap.size, 8, none⟩ (.slice a2 (rn + 1) k2)).heap[w.heap.size]? = some (.cells #[.bool false, .int .i64 V, .int .i64 F, .slice la ln lc, .int .i64 many, .int .i64 tries, .int .i64 steps, .int .u64 first, .slice a2 (rn + 1) k2, .int .u64 res, .bool false] 48 (0, 0)) := by
        have := heap_setCell_at (i := 8) (.slice a2 (rn + 1) k2) (fr4.heap HX2.out (by simp))
        simpa using this
      have hY4 : (V4.setCell ⟨w.heap.size, 8, none⟩ (.slice a2 (rn + 1) k2)).heap[w.heap.size + 1]? = _ := heap_setCell_far ⟨w.heap.size, 8, none⟩ (.slice a2 (rn + 1) k2) (by show w.heap.size ≠ w.heap.size + 1; omega) (fr4.heap HX4.out (by simp))
      have hYF : Frm [] w (V4.setCell ⟨w.heap.size, 8, none⟩ (.slice a2 (rn + 1) k2)) := (HFX.out.trans fr4).setCell ⟨w.heap.size, 8, none⟩ (.slice a2 (rn + 1) k2) (.inr (Nat.le_refl _))
      have hFY : Frm [w.heap.size] X (V4.setCell ⟨w.heap.size, 8, none⟩ (.slice a2 (rn + 1) k2)) := ((fr4).weak (by simp)).setCell ⟨w.heap.size, 8, none⟩ (.slice a2 (rn + 1) k2) (.inl (by simp))
      have hYR : Rd (V4.setCell ⟨w.heap.size, 8, none⟩ (.slice a2 (rn + 1) k2)) (.slice (some ⟨b', o', none⟩) n c') (u64s ws') := HXR.out.frm hFY (by intro y hy; cases hy; have hg := HG.out; rcases HXB.out with h | h <;> simp <;> omega)
      have hYL : Row .u64 22 X.heap.size (V4.setCell ⟨w.heap.size, 8, none⟩ (.slice a2 (rn + 1) k2)) a2 (rn + 1) k2 (rl ++ [v]) := rowS.frm ((Frm.refl [w.heap.size] _).setCell _ _ (.inl (by simp))) (fun x hx => by have := (rowS.blk x hx).1; simp; omega)
      generalize (V4.setCell ⟨w.heap.size, 8, none⟩ (.slice a2 (rn + 1) k2)) = Y at hY2 hY4 hYF hYR hYL ⊢
      clear q0 q1 q2 q3 q4 q5 q6 q7 q8 q9 q10 t0 t1 t2 t3 t4 t5 t6 t7 t8 t9 t10 f0 f1 f2 f3 f4 f5 f6 f7 f8 f9 f10 g0 g1 g2 g3 g4 g5 g6 g7 g8 g9 g10
      obtain ⟨q0, q1, q2, q3, q4, q5, q6, q7, q8, q9, q10⟩ := cells11 hY2
      obtain ⟨t0, t1, t2, t3, t4, t5, t6, t7, t8, t9, t10⟩ := cells11 hY4
      have f6 : Y.frozen? ⟨w.heap.size, 6, none⟩ = false := frozen_of_heap hY2
      obtain ⟨g0, g1, g2, g3, g4, g5, g6, g7, g8, g9, g10⟩ := frozen11 hY4
      have HYL := Lib.hid hYL
      clear HX HFX HX4 HXR HX2
      have HFX := Lib.hid hYF
      have HX4 := Lib.hid hY4
      have HXR := Lib.hid hYR
      clear hY2 hY4 hYF hYR hYL
      go_wp2
      have hR4 := setCells11 (heap_setCell_far ⟨w.heap.size, 6, none⟩ (.int .i64 (steps + 1)) (by show w.heap.size ≠ w.heap.size + 1; omega) HX4.out) (.bool false) (.int .i64 V) (.int .i64 F) (.slice la ln lc) (.int .i64 many) (.int .i64 tries) (.int .i64 (steps + 1)) (.int .u64 first) (.slice a2 (rn + 1) k2) (.int .u64 res) (.bool false)
      have hF4 := (HFX.out.setCell ⟨w.heap.size, 6, none⟩ (.int .i64 (steps + 1)) (.inr (Nat.le_refl _))).set11 (w.heap.size + 1) (.bool false) (.int .i64 V) (.int .i64 F) (.slice la ln lc) (.int .i64 many) (.int .i64 tries) (.int .i64 (steps + 1)) (.int .u64 first) (.slice a2 (rn + 1) k2) (.int .u64 res) (.bool false) (.inr (Nat.le_succ _))
      have hR5 : Rd ((((((((((((Y.setCell ⟨w.heap.size, 6, none⟩ (.int .i64 (steps + 1))).setCell ⟨w.heap.size + 1, 0, none⟩ (.bool false)).setCell ⟨w.heap.size + 1, 1, none⟩ (.int .i64 V)).setCell ⟨w.heap.size + 1, 2, none⟩ (.int .i64 F)).setCell ⟨w.heap.size + 1, 3, none⟩ (.slice la ln lc)).setCell ⟨w.heap.size + 1, 4, none⟩ (.int .i64 many)).setCell ⟨w.heap.size + 1, 5, none⟩ (.int .i64 tries)).setCell ⟨w.heap.size + 1, 6, none⟩ (.int .i64 (steps + 1))).setCell ⟨w.heap.size + 1, 7, none⟩ (.int .u64 first)).setCell ⟨w.heap.size + 1, 8, none⟩ (.slice a2 (rn + 1) k2)).setCell ⟨w.heap.size + 1, 9, none⟩ (.int .u64 res)).setCell ⟨w.heap.size + 1, 10, none⟩ (.bool false)) (.slice (some ⟨b', o', none⟩) n c') (u64s ws') := HXR.out.frm (((Frm.refl [w.heap.size, w.heap.size + 1] Y).setCell ⟨w.heap.size, 6, none⟩ (.int .i64 (steps + 1)) (.inl (by simp))).set11 (w.heap.size + 1) (.bool false) (.int .i64 V) (.int .i64 F) (.slice la ln lc) (.int .i64 many) (.int .i64 tries) (.int .i64 (steps + 1)) (.int .u64 first) (.slice a2 (rn + 1) k2) (.int .u64 res) (.bool false) (.inl (by simp))) (by intro y hy; cases hy; have hg := HG.out; rcases HXB.out with h | h <;> simp <;> omega)
      have hL9 : NewR w ((((((((((((Y.setCell ⟨w.heap.size, 6, none⟩ (.int .i64 (steps + 1))).setCell ⟨w.heap.size + 1, 0, none⟩ (.bool false)).setCell ⟨w.heap.size + 1, 1, none⟩ (.int .i64 V)).setCell ⟨w.heap.size + 1, 2, none⟩ (.int .i64 F)).setCell ⟨w.heap.size + 1, 3, none⟩ (.slice la ln lc)).setCell ⟨w.heap.size + 1, 4, none⟩ (.int .i64 many)).setCell ⟨w.heap.size + 1, 5, none⟩ (.int .i64 tries)).setCell ⟨w.heap.size + 1, 6, none⟩ (.int .i64 (steps + 1))).setCell ⟨w.heap.size + 1, 7, none⟩ (.int .u64 first)).setCell ⟨w.heap.size + 1, 8, none⟩ (.slice a2 (rn + 1) k2)).setCell ⟨w.heap.size + 1, 9, none⟩ (.int .u64 res)).setCell ⟨w.heap.size + 1, 10, none⟩ (.bool false)) a2 (rn + 1) k2 (rl ++ [v]) := by
        have h9 := HYL.out.frm (((Frm.refl [w.heap.size, w.heap.size + 1] Y).setCell ⟨w.heap.size, 6, none⟩ (.int .i64 (steps + 1)) (.inl (by simp))).set11 (w.heap.size + 1) (.bool false) (.int .i64 V) (.int .i64 F) (.slice la ln lc) (.int .i64 many) (.int .i64 tries) (.int .i64 (steps + 1)) (.int .u64 first) (.slice a2 (rn + 1) k2) (.int .u64 res) (.bool false) (.inl (by simp))) (fun x hx => by have := (HYL.out.blk x hx).1; simp; omega)
        exact ⟨X.heap.size, by omega, h9⟩
      generalize ((((((((((((Y.setCell ⟨w.heap.size, 6, none⟩ (.int .i64 (steps + 1))).setCell ⟨w.heap.size + 1, 0, none⟩ (.bool false)).setCell ⟨w.heap.size + 1, 1, none⟩ (.int .i64 V)).setCell ⟨w.heap.size + 1, 2, none⟩ (.int .i64 F)).setCell ⟨w.heap.size + 1, 3, none⟩ (.slice la ln lc)).setCell ⟨w.heap.size + 1, 4, none⟩ (.int .i64 many)).setCell ⟨w.heap.size + 1, 5, none⟩ (.int .i64 tries)).setCell ⟨w.heap.size + 1, 6, none⟩ (.int .i64 (steps + 1))).setCell ⟨w.heap.size + 1, 7, none⟩ (.int .u64 first)).setCell ⟨w.heap.size + 1, 8, none⟩ (.slice a2 (rn + 1) k2)).setCell ⟨w.heap.size + 1, 9, none⟩ (.int .u64 res)).setCell ⟨w.heap.size + 1, 10, none⟩ (.bool false)) = w9 at hR4 hF4 hR5 hL9 ⊢
      clear t0 t1 t2 t3 t4 t5 t6 t7 t8 t9 t10
      obtain ⟨t0, t1, t2, t3, t4, t5, t6, t7, t8, t9, t10⟩ := cells11 hR4
      refine bodyPost_ret (v := .tuple #[.agg #[.bool false, .int .i64 V, .int .i64 F, .slice la ln lc, .int .i64 many, .int .i64 tries, .int .i64 (steps + 1), .int .u64 first, .slice a2 (rn + 1) k2, .int .u64 res, .bool false], .slice (some ⟨b', o', none⟩) n c', .bool false, .int .i64 0]) ?_ rfl ?_
      · simp [results, Try.results23, go_sem, t0, t1, t2, t3, t4, t5, t6, t7, t8, t9, t10]
      exact ⟨a2, k2, ⟨b', o', c', rfl, hF4, hR5, by rcases HXB.out with h | h; exact .inl h; exact .inr (by omega)⟩, hL9⟩
    · go_simp
      obtain ⟨U2, hU2⟩ : ∃ U2, U2 = (X.alloc (.cells #[.int .u64 v] 22)).drew := ⟨_, rfl⟩
      have fr2 : Frm [] X U2 := by rw [hU2]; exact ((Frm.refl [] X).alloc _).drew
      have lb2 : Li .u64 U2 (some ⟨X.heap.size, 0, none⟩) 1 1 X.heap.size 0 [v] := by rw [hU2]; exact (li_new rfl (heap_alloc_new X _))
      rw [← hU2]
      have s2 : Frm [w.heap.size] X U2 := fr2.weak (by simp)
      clear hU2
      refine hK.out _ _ (by exact s2) (fun hHeld => ?_)
      clear hK K
      try change wpAnyH _ _ _ _ _ _ _ (Act.put _ (some 90) _) _
      try simp only [Act.put, List.setIfInBounds_toArray, List.set_cons_zero, List.set_cons_succ]
      refine wpAnyH_ready (rs := [2]) (by kernel_rfl) (by simp) ?_
      refine AllReadyH.cons rfl (fun K hK => ?_) AllReadyH.nil
      refine step_appW Try.underlying23 info_u64 (by decide) (by decide) rfl (.const (.slice none 0 0)) (.tmp 86) rfl (B := X.heap.size) (a := none) (n := 0) (c := 0) (m := rn) (l := []) (l2 := rl) (by rfl) (by simp [Act.eval]) (Row.nil _ _ _ _) (HLR.out.frm0 fr2) (by have := HRN.out; simp; omega) (fr2.size) ?_
      intro a1 k1 V3 row3 fa3 pa3
      have fr3 : Frm [] X V3 := fr2.trans fa3
      have s3 : Frm [w.heap.size] X V3 := fr3.weak (by simp)
      clear pa3
      have lb3 := lb2.frm0 fa3
      refine hK.out _ _ (by exact s3) (fun hHeld => ?_)
      clear hK K
      try change wpAnyH _ _ _ _ _ _ _ (Act.put _ (some 87) _) _
      try simp only [Act.put, List.setIfInBounds_toArray, List.set_cons_zero, List.set_cons_succ]
      refine wpAnyH_ready (rs := [6]) (by kernel_rfl) (by simp) ?_
      refine AllReadyH.cons rfl (fun K hK => ?_) AllReadyH.nil
      refine step_appW Try.underlying23 info_u64 (by decide) (by decide) rfl (.tmp 87) (.tmp 90) rfl (B := X.heap.size) (a := a1) (n := 0 + rn) (c := k1) (m := 1) (l := [] ++ rl) (l2 := [v]) (by simp [Act.eval]) (by simp [Act.eval]) row3 lb3 (by have := HRN.out; have := HLR.out.len; simp; omega) (fr3.size) ?_
      intro a2 k2 V4 row4 fa4 pa4
      have fr4 : Frm [] X V4 := fr3.trans_new fa4 (fun x hx => .inr (row3.blk x hx).1)
      have s4 : Frm [w.heap.size] X V4 := fr4.weak (by simp)
      clear pa4 fa4
      refine hK.out _ _ (by exact s4) (fun hHeld => ?_)
      clear hK K
      try change wpAnyH _ _ _ _ _ _ _ (Act.put _ (some 91) _) _
      try simp only [Act.put, List.setIfInBounds_toArray, List.set_cons_zero, List.set_cons_succ]
      refine take_in (i := 7) (d := 92) (v := .pointer (some ⟨w.heap.size, 8, none⟩)) rfl rfl (by kernel_rfl) (by kernel_rfl) (by kernel_rfl) (fun _ _ _ h => h) (by kernel_rfl) (fun _ _ => rfl) (by assumption) ?_
      try simp only [Act.put, List.setIfInBounds_toArray, List.set_cons_zero, List.set_cons_succ]
      refine wpAnyH_ready (rs := [8]) (by kernel_rfl) (by simp) ?_
      refine AllReadyH.cons rfl (fun K hK => ?_) AllReadyH.nil
      have hq8 : V4.cell? ⟨w.heap.size, 8, none⟩ = some (.slice ra rn rcap) := ((fr4.cell hX2l (by simp)).trans q8)
      have hz8 : V4.frozen? ⟨w.heap.size, 8, none⟩ = false := (fr4.frozen hX2l (by simp)).trans f8
      go_simp
      clear hq8 hz8
      have s5 : Frm [w.heap.size] X (V4.setCell ⟨w.heap.size, 8, none⟩ (.slice a2 (0 + rn + 1) k2)) := (fr4.weak (by simp)).setCell _ _ (.inl (by simp))
      refine hK.out _ _ (by first | exact s5 | (simp only [Nat.zero_add] at s5 ⊢; exact s5)) (fun hHeld => ?_)
      clear hK K
      try simp only [Act.put, List.setIfInBounds_toArray, List.set_cons_zero, List.set_cons_succ]
      refine wpAnyH_done (by kernel_rfl) ?_ _
      refine NoPanic.normal ?_
      have rowS : Row .u64 22 X.heap.size V4 a2 (rn + 1) k2 (rl ++ [v]) := by have := row4; simpa [Nat.zero_add] using this
      have hY2 : (V4.setCell ⟨w.heap.size, 8, none⟩ (.slice a2 (rn + 1) k2)).heap[w.heap.size]? = some (.cells #[.bool false, .int .i64 V, .int .i64 F, .slice la ln lc, .int .i64 many, .int .i64 tries, .int .i64 steps, .int .u64 first, .slice a2 (rn + 1) k2, .int .u64 res, .bool false] 48 (0, 0)) := by
        have := heap_setCell_at (i := 8) (.slice a2 (rn + 1) k2) (fr4.heap HX2.out (by simp))
        simpa using this
      have hY4 : (V4.setCell ⟨w.heap.size, 8, none⟩ (.slice a2 (rn + 1) k2)).heap[w.heap.size + 1]? = _ := heap_setCell_far ⟨w.heap.size, 8, none⟩ (.slice a2 (rn + 1) k2) (by show w.heap.size ≠ w.heap.size + 1; omega) (fr4.heap HX4.out (by simp))
      have hYF : Frm [] w (V4.setCell ⟨w.heap.size, 8, none⟩ (.slice a2 (rn + 1) k2)) := (HFX.out.trans fr4).setCell ⟨w.heap.size, 8, none⟩ (.slice a2 (rn + 1) k2) (.inr (Nat.le_refl _))
      have hFY : Frm [w.heap.size] X (V4.setCell ⟨w.heap.size, 8, none⟩ (.slice a2 (rn + 1) k2)) := ((fr4).weak (by simp)).setCell ⟨w.heap.size, 8, none⟩ (.slice a2 (rn + 1) k2) (.inl (by simp))
      have hYR : Rd (V4.setCell ⟨w.heap.size, 8, none⟩ (.slice a2 (rn + 1) k2)) (.slice (some ⟨b', o', none⟩) n c') (u64s ws') := HXR.out.frm hFY (by intro y hy; cases hy; have hg := HG.out; rcases HXB.out with h | h <;> simp <;> omega)
      have hYL : Row .u64 22 X.heap.size (V4.setCell ⟨w.heap.size, 8, none⟩ (.slice a2 (rn + 1) k2)) a2 (rn + 1) k2 (rl ++ [v]) := rowS.frm ((Frm.refl [w.heap.size] _).setCell _ _ (.inl (by simp))) (fun x hx => by have := (rowS.blk x hx).1; simp; omega)
      generalize (V4.setCell ⟨w.heap.size, 8, none⟩ (.slice a2 (rn + 1) k2)) = Y at hY2 hY4 hYF hYR hYL ⊢
      clear q0 q1 q2 q3 q4 q5 q6 q7 q8 q9 q10 t0 t1 t2 t3 t4 t5 t6 t7 t8 t9 t10 f0 f1 f2 f3 f4 f5 f6 f7 f8 f9 f10 g0 g1 g2 g3 g4 g5 g6 g7 g8 g9 g10
      obtain ⟨q0, q1, q2, q3, q4, q5, q6, q7, q8, q9, q10⟩ := cells11 hY2
      obtain ⟨t0, t1, t2, t3, t4, t5, t6, t7, t8, t9, t10⟩ := cells11 hY4
      have f6 : Y.frozen? ⟨w.heap.size, 6, none⟩ = false := frozen_of_heap hY2
      obtain ⟨g0, g1, g2, g3, g4, g5, g6, g7, g8, g9, g10⟩ := frozen11 hY4
      have HYL := Lib.hid hYL
      clear HX HFX HX4 HXR HX2
      have HFX := Lib.hid hYF
      have HX4 := Lib.hid hY4
      have HXR := Lib.hid hYR
      clear hY2 hY4 hYF hYR hYL
      go_wp2
      have hR4 := setCells11 (heap_setCell_far ⟨w.heap.size, 6, none⟩ (.int .i64 (steps + 1)) (by show w.heap.size ≠ w.heap.size + 1; omega) HX4.out) (.bool false) (.int .i64 V) (.int .i64 F) (.slice la ln lc) (.int .i64 many) (.int .i64 tries) (.int .i64 (steps + 1)) (.int .u64 first) (.slice a2 (rn + 1) k2) (.int .u64 res) (.bool false)
      have hF4 := (HFX.out.setCell ⟨w.heap.size, 6, none⟩ (.int .i64 (steps + 1)) (.inr (Nat.le_refl _))).set11 (w.heap.size + 1) (.bool false) (.int .i64 V) (.int .i64 F) (.slice la ln lc) (.int .i64 many) (.int .i64 tries) (.int .i64 (steps + 1)) (.int .u64 first) (.slice a2 (rn + 1) k2) (.int .u64 res) (.bool false) (.inr (Nat.le_succ _))
      have hR5 : Rd ((((((((((((Y.setCell ⟨w.heap.size, 6, none⟩ (.int .i64 (steps + 1))).setCell ⟨w.heap.size + 1, 0, none⟩ (.bool false)).setCell ⟨w.heap.size + 1, 1, none⟩ (.int .i64 V)).setCell ⟨w.heap.size + 1, 2, none⟩ (.int .i64 F)).setCell ⟨w.heap.size + 1, 3, none⟩ (.slice la ln lc)).setCell ⟨w.heap.size + 1, 4, none⟩ (.int .i64 many)).setCell ⟨w.heap.size + 1, 5, none⟩ (.int .i64 tries)).setCell ⟨w.heap.size + 1, 6, none⟩ (.int .i64 (steps + 1))).setCell ⟨w.heap.size + 1, 7, none⟩ (.int .u64 first)).setCell ⟨w.heap.size + 1, 8, none⟩ (.slice a2 (rn + 1) k2)).setCell ⟨w.heap.size + 1, 9, none⟩ (.int .u64 res)).setCell ⟨w.heap.size + 1, 10, none⟩ (.bool false)) (.slice (some ⟨b', o', none⟩) n c') (u64s ws') := HXR.out.frm (((Frm.refl [w.heap.size, w.heap.size + 1] Y).setCell ⟨w.heap.size, 6, none⟩ (.int .i64 (steps + 1)) (.inl (by simp))).set11 (w.heap.size + 1) (.bool false) (.int .i64 V) (.int .i64 F) (.slice la ln lc) (.int .i64 many) (.int .i64 tries) (.int .i64 (steps + 1)) (.int .u64 first) (.slice a2 (rn + 1) k2) (.int .u64 res) (.bool false) (.inl (by simp))) (by intro y hy; cases hy; have hg := HG.out; rcases HXB.out with h | h <;> simp <;> omega)
      have hL9 : NewR w ((((((((((((Y.setCell ⟨w.heap.size, 6, none⟩ (.int .i64 (steps + 1))).setCell ⟨w.heap.size + 1, 0, none⟩ (.bool false)).setCell ⟨w.heap.size + 1, 1, none⟩ (.int .i64 V)).setCell ⟨w.heap.size + 1, 2, none⟩ (.int .i64 F)).setCell ⟨w.heap.size + 1, 3, none⟩ (.slice la ln lc)).setCell ⟨w.heap.size + 1, 4, none⟩ (.int .i64 many)).setCell ⟨w.heap.size + 1, 5, none⟩ (.int .i64 tries)).setCell ⟨w.heap.size + 1, 6, none⟩ (.int .i64 (steps + 1))).setCell ⟨w.heap.size + 1, 7, none⟩ (.int .u64 first)).setCell ⟨w.heap.size + 1, 8, none⟩ (.slice a2 (rn + 1) k2)).setCell ⟨w.heap.size + 1, 9, none⟩ (.int .u64 res)).setCell ⟨w.heap.size + 1, 10, none⟩ (.bool false)) a2 (rn + 1) k2 (rl ++ [v]) := by
        have h9 := HYL.out.frm (((Frm.refl [w.heap.size, w.heap.size + 1] Y).setCell ⟨w.heap.size, 6, none⟩ (.int .i64 (steps + 1)) (.inl (by simp))).set11 (w.heap.size + 1) (.bool false) (.int .i64 V) (.int .i64 F) (.slice la ln lc) (.int .i64 many) (.int .i64 tries) (.int .i64 (steps + 1)) (.int .u64 first) (.slice a2 (rn + 1) k2) (.int .u64 res) (.bool false) (.inl (by simp))) (fun x hx => by have := (HYL.out.blk x hx).1; simp; omega)
        exact ⟨X.heap.size, by omega, h9⟩
      generalize ((((((((((((Y.setCell ⟨w.heap.size, 6, none⟩ (.int .i64 (steps + 1))).setCell ⟨w.heap.size + 1, 0, none⟩ (.bool false)).setCell ⟨w.heap.size + 1, 1, none⟩ (.int .i64 V)).setCell ⟨w.heap.size + 1, 2, none⟩ (.int .i64 F)).setCell ⟨w.heap.size + 1, 3, none⟩ (.slice la ln lc)).setCell ⟨w.heap.size + 1, 4, none⟩ (.int .i64 many)).setCell ⟨w.heap.size + 1, 5, none⟩ (.int .i64 tries)).setCell ⟨w.heap.size + 1, 6, none⟩ (.int .i64 (steps + 1))).setCell ⟨w.heap.size + 1, 7, none⟩ (.int .u64 first)).setCell ⟨w.heap.size + 1, 8, none⟩ (.slice a2 (rn + 1) k2)).setCell ⟨w.heap.size + 1, 9, none⟩ (.int .u64 res)).setCell ⟨w.heap.size + 1, 10, none⟩ (.bool false)) = w9 at hR4 hF4 hR5 hL9 ⊢
      clear t0 t1 t2 t3 t4 t5 t6 t7 t8 t9 t10
      obtain ⟨t0, t1, t2, t3, t4, t5, t6, t7, t8, t9, t10⟩ := cells11 hR4
      refine bodyPost_ret (v := .tuple #[.agg #[.bool false, .int .i64 V, .int .i64 F, .slice la ln lc, .int .i64 many, .int .i64 tries, .int .i64 (steps + 1), .int .u64 first, .slice a2 (rn + 1) k2, .int .u64 res, .bool false], .slice (some ⟨b', o', none⟩) n c', .bool false, .int .i64 0]) ?_ rfl ?_
      · simp [results, Try.results23, go_sem, t0, t1, t2, t3, t4, t5, t6, t7, t8, t9, t10]
      exact ⟨a2, k2, ⟨b', o', c', rfl, hF4, hR5, by rcases HXB.out with h | h; exact .inl h; exact .inr (by omega)⟩, hL9⟩
  · go_simp
    obtain ⟨U1, hU1⟩ : ∃ U1, U1 = (X.alloc (.cells #[.int .u64 v] 22)).drew := ⟨_, rfl⟩
    have fr1 : Frm [] X U1 := by rw [hU1]; exact ((Frm.refl [] X).alloc _).drew
    have lb1 : Li .u64 U1 (some ⟨X.heap.size, 0, none⟩) 1 1 X.heap.size 0 [v] := by rw [hU1]; exact (li_new rfl (heap_alloc_new X _))
    rw [← hU1]
    have s1 : Frm [w.heap.size] X U1 := fr1.weak (by simp)
    clear hU1
    refine hK.out _ _ (by exact s1) (fun hHeld => ?_)
    clear hK K
    try change wpAnyH _ _ _ _ _ _ _ (Act.put _ (some 90) _) _
    try simp only [Act.put, List.setIfInBounds_toArray, List.set_cons_zero, List.set_cons_succ]
    refine wpAnyH_ready (rs := [1]) (by kernel_rfl) (by simp) ?_
    refine AllReadyH.cons rfl (fun K hK => ?_) AllReadyH.nil
    have hq8 : U1.cell? ⟨w.heap.size, 8, none⟩ = some (.slice ra rn rcap) := ((fr1.cell hX2l (by simp)).trans q8)
    go_simp
    clear hq8
    have s2 : Frm [w.heap.size] X U1 := fr1.weak (by simp)
    refine hK.out _ _ (by exact s2) (fun hHeld => ?_)
    clear hK K
    try change wpAnyH _ _ _ _ _ _ _ (Act.put _ (some 86) _) _
    try simp only [Act.put, List.setIfInBounds_toArray, List.set_cons_zero, List.set_cons_succ]
    refine wpAnyH_ready (rs := [2]) (by kernel_rfl) (by simp) ?_
    refine AllReadyH.cons rfl (fun K hK => ?_) AllReadyH.nil
    refine step_appW Try.underlying23 info_u64 (by decide) (by decide) rfl (.const (.slice none 0 0)) (.tmp 86) rfl (B := X.heap.size) (a := none) (n := 0) (c := 0) (m := rn) (l := []) (l2 := rl) (by rfl) (by simp [Act.eval]) (Row.nil _ _ _ _) (HLR.out.frm0 fr1) (by have := HRN.out; simp; omega) (fr1.size) ?_
    intro a1 k1 V3 row3 fa3 pa3
    have fr3 : Frm [] X V3 := fr1.trans fa3
    have s3 : Frm [w.heap.size] X V3 := fr3.weak (by simp)
    clear pa3
    have lb3 := lb1.frm0 fa3
    refine hK.out _ _ (by exact s3) (fun hHeld => ?_)
    clear hK K
    try change wpAnyH _ _ _ _ _ _ _ (Act.put _ (some 87) _) _
    try simp only [Act.put, List.setIfInBounds_toArray, List.set_cons_zero, List.set_cons_succ]
    refine wpAnyH_ready (rs := [6]) (by kernel_rfl) (by simp) ?_
    refine AllReadyH.cons rfl (fun K hK => ?_) AllReadyH.nil
    refine step_appW Try.underlying23 info_u64 (by decide) (by decide) rfl (.tmp 87) (.tmp 90) rfl (B := X.heap.size) (a := a1) (n := 0 + rn) (c := k1) (m := 1) (l := [] ++ rl) (l2 := [v]) (by simp [Act.eval]) (by simp [Act.eval]) row3 lb3 (by have := HRN.out; have := HLR.out.len; simp; omega) (fr3.size) ?_
    intro a2 k2 V4 row4 fa4 pa4
    have fr4 : Frm [] X V4 := fr3.trans_new fa4 (fun x hx => .inr (row3.blk x hx).1)
    have s4 : Frm [w.heap.size] X V4 := fr4.weak (by simp)
    clear pa4 fa4
    refine hK.out _ _ (by exact s4) (fun hHeld => ?_)
    clear hK K
    try change wpAnyH _ _ _ _ _ _ _ (Act.put _ (some 91) _) _
    try simp only [Act.put, List.setIfInBounds_toArray, List.set_cons_zero, List.set_cons_succ]
    refine take_in (i := 7) (d := 92) (v := .pointer (some ⟨w.heap.size, 8, none⟩)) rfl rfl (by kernel_rfl) (by kernel_rfl) (by kernel_rfl) (fun _ _ _ h => h) (by kernel_rfl) (fun _ _ => rfl) (by assumption) ?_
    try simp only [Act.put, List.setIfInBounds_toArray, List.set_cons_zero, List.set_cons_succ]
    refine wpAnyH_ready (rs := [8]) (by kernel_rfl) (by simp) ?_
    refine AllReadyH.cons rfl (fun K hK => ?_) AllReadyH.nil
    have hq8 : V4.cell? ⟨w.heap.size, 8, none⟩ = some (.slice ra rn rcap) := ((fr4.cell hX2l (by simp)).trans q8)
    have hz8 : V4.frozen? ⟨w.heap.size, 8, none⟩ = false := (fr4.frozen hX2l (by simp)).trans f8
    go_simp
    clear hq8 hz8
    have s5 : Frm [w.heap.size] X (V4.setCell ⟨w.heap.size, 8, none⟩ (.slice a2 (0 + rn + 1) k2)) := (fr4.weak (by simp)).setCell _ _ (.inl (by simp))
    refine hK.out _ _ (by first | exact s5 | (simp only [Nat.zero_add] at s5 ⊢; exact s5)) (fun hHeld => ?_)
    clear hK K
    try simp only [Act.put, List.setIfInBounds_toArray, List.set_cons_zero, List.set_cons_succ]
    refine wpAnyH_done (by kernel_rfl) ?_ _
    refine NoPanic.normal ?_
    have rowS : Row .u64 22 X.heap.size V4 a2 (rn + 1) k2 (rl ++ [v]) := by have := row4; simpa [Nat.zero_add] using this
    have hY2 : (V4.setCell ⟨w.heap.size, 8, none⟩ (.slice a2 (rn + 1) k2)).heap[w.heap.size]? = some (.cells #[.bool false, .int .i64 V, .int .i64 F, .slice la ln lc, .int .i64 many, .int .i64 tries, .int .i64 steps, .int .u64 first, .slice a2 (rn + 1) k2, .int .u64 res, .bool false] 48 (0, 0)) := by
      have := heap_setCell_at (i := 8) (.slice a2 (rn + 1) k2) (fr4.heap HX2.out (by simp))
      simpa using this
    have hY4 : (V4.setCell ⟨w.heap.size, 8, none⟩ (.slice a2 (rn + 1) k2)).heap[w.heap.size + 1]? = _ := heap_setCell_far ⟨w.heap.size, 8, none⟩ (.slice a2 (rn + 1) k2) (by show w.heap.size ≠ w.heap.size + 1; omega) (fr4.heap HX4.out (by simp))
    have hYF : Frm [] w (V4.setCell ⟨w.heap.size, 8, none⟩ (.slice a2 (rn + 1) k2)) := (HFX.out.trans fr4).setCell ⟨w.heap.size, 8, none⟩ (.slice a2 (rn + 1) k2) (.inr (Nat.le_refl _))
    have hFY : Frm [w.heap.size] X (V4.setCell ⟨w.heap.size, 8, none⟩ (.slice a2 (rn + 1) k2)) := ((fr4).weak (by simp)).setCell ⟨w.heap.size, 8, none⟩ (.slice a2 (rn + 1) k2) (.inl (by simp))
    have hYR : Rd (V4.setCell ⟨w.heap.size, 8, none⟩ (.slice a2 (rn + 1) k2)) (.slice (some ⟨b', o', none⟩) n c') (u64s ws') := HXR.out.frm hFY (by intro y hy; cases hy; have hg := HG.out; rcases HXB.out with h | h <;> simp <;> omega)
    have hYL : Row .u64 22 X.heap.size (V4.setCell ⟨w.heap.size, 8, none⟩ (.slice a2 (rn + 1) k2)) a2 (rn + 1) k2 (rl ++ [v]) := rowS.frm ((Frm.refl [w.heap.size] _).setCell _ _ (.inl (by simp))) (fun x hx => by have := (rowS.blk x hx).1; simp; omega)
    generalize (V4.setCell ⟨w.heap.size, 8, none⟩ (.slice a2 (rn + 1) k2)) = Y at hY2 hY4 hYF hYR hYL ⊢
    clear q0 q1 q2 q3 q4 q5 q6 q7 q8 q9 q10 t0 t1 t2 t3 t4 t5 t6 t7 t8 t9 t10 f0 f1 f2 f3 f4 f5 f6 f7 f8 f9 f10 g0 g1 g2 g3 g4 g5 g6 g7 g8 g9 g10
    obtain ⟨q0, q1, q2, q3, q4, q5, q6, q7, q8, q9, q10⟩ := cells11 hY2
    obtain ⟨t0, t1, t2, t3, t4, t5, t6, t7, t8, t9, t10⟩ := cells11 hY4
    have f6 : Y.frozen? ⟨w.heap.size, 6, none⟩ = false := frozen_of_heap hY2
    obtain ⟨g0, g1, g2, g3, g4, g5, g6, g7, g8, g9, g10⟩ := frozen11 hY4
    have HYL := Lib.hid hYL
    clear HX HFX HX4 HXR HX2
    have HFX := Lib.hid hYF
    have HX4 := Lib.hid hY4
    have HXR := Lib.hid hYR
    clear hY2 hY4 hYF hYR hYL
    go_wp2
    have hR4 := setCells11 (heap_setCell_far ⟨w.heap.size, 6, none⟩ (.int .i64 (steps + 1)) (by show w.heap.size ≠ w.heap.size + 1; omega) HX4.out) (.bool false) (.int .i64 V) (.int .i64 F) (.slice la ln lc) (.int .i64 many) (.int .i64 tries) (.int .i64 (steps + 1)) (.int .u64 first) (.slice a2 (rn + 1) k2) (.int .u64 res) (.bool false)
    have hF4 := (HFX.out.setCell ⟨w.heap.size, 6, none⟩ (.int .i64 (steps + 1)) (.inr (Nat.le_refl _))).set11 (w.heap.size + 1) (.bool false) (.int .i64 V) (.int .i64 F) (.slice la ln lc) (.int .i64 many) (.int .i64 tries) (.int .i64 (steps + 1)) (.int .u64 first) (.slice a2 (rn + 1) k2) (.int .u64 res) (.bool false) (.inr (Nat.le_succ _))
    have hR5 : Rd ((((((((((((Y.setCell ⟨w.heap.size, 6, none⟩ (.int .i64 (steps + 1))).setCell ⟨w.heap.size + 1, 0, none⟩ (.bool false)).setCell ⟨w.heap.size + 1, 1, none⟩ (.int .i64 V)).setCell ⟨w.heap.size + 1, 2, none⟩ (.int .i64 F)).setCell ⟨w.heap.size + 1, 3, none⟩ (.slice la ln lc)).setCell ⟨w.heap.size + 1, 4, none⟩ (.int .i64 many)).setCell ⟨w.heap.size + 1, 5, none⟩ (.int .i64 tries)).setCell ⟨w.heap.size + 1, 6, none⟩ (.int .i64 (steps + 1))).setCell ⟨w.heap.size + 1, 7, none⟩ (.int .u64 first)).setCell ⟨w.heap.size + 1, 8, none⟩ (.slice a2 (rn + 1) k2)).setCell ⟨w.heap.size + 1, 9, none⟩ (.int .u64 res)).setCell ⟨w.heap.size + 1, 10, none⟩ (.bool false)) (.slice (some ⟨b', o', none⟩) n c') (u64s ws') := HXR.out.frm (((Frm.refl [w.heap.size, w.heap.size + 1] Y).setCell ⟨w.heap.size, 6, none⟩ (.int .i64 (steps + 1)) (.inl (by simp))).set11 (w.heap.size + 1) (.bool false) (.int .i64 V) (.int .i64 F) (.slice la ln lc) (.int .i64 many) (.int .i64 tries) (.int .i64 (steps + 1)) (.int .u64 first) (.slice a2 (rn + 1) k2) (.int .u64 res) (.bool false) (.inl (by simp))) (by intro y hy; cases hy; have hg := HG.out; rcases HXB.out with h | h <;> simp <;> omega)
    have hL9 : NewR w ((((((((((((Y.setCell ⟨w.heap.size, 6, none⟩ (.int .i64 (steps + 1))).setCell ⟨w.heap.size + 1, 0, none⟩ (.bool false)).setCell ⟨w.heap.size + 1, 1, none⟩ (.int .i64 V)).setCell ⟨w.heap.size + 1, 2, none⟩ (.int .i64 F)).setCell ⟨w.heap.size + 1, 3, none⟩ (.slice la ln lc)).setCell ⟨w.heap.size + 1, 4, none⟩ (.int .i64 many)).setCell ⟨w.heap.size + 1, 5, none⟩ (.int .i64 tries)).setCell ⟨w.heap.size + 1, 6, none⟩ (.int .i64 (steps + 1))).setCell ⟨w.heap.size + 1, 7, none⟩ (.int .u64 first)).setCell ⟨w.heap.size + 1, 8, none⟩ (.slice a2 (rn + 1) k2)).setCell ⟨w.heap.size + 1, 9, none⟩ (.int .u64 res)).setCell ⟨w.heap.size + 1, 10, none⟩ (.bool false)) a2 (rn + 1) k2 (rl ++ [v]) := by
      have h9 := HYL.out.frm (((Frm.refl [w.heap.size, w.heap.size + 1] Y).setCell ⟨w.heap.size, 6, none⟩ (.int .i64 (steps + 1)) (.inl (by simp))).set11 (w.heap.size + 1) (.bool false) (.int .i64 V) (.int .i64 F) (.slice la ln lc) (.int .i64 many) (.int .i64 tries) (.int .i64 (steps + 1)) (.int .u64 first) (.slice a2 (rn + 1) k2) (.int .u64 res) (.bool false) (.inl (by simp))) (fun x hx => by have := (HYL.out.blk x hx).1; simp; omega)
      exact ⟨X.heap.size, by omega, h9⟩
    generalize ((((((((((((Y.setCell ⟨w.heap.size, 6, none⟩ (.int .i64 (steps + 1))).setCell ⟨w.heap.size + 1, 0, none⟩ (.bool false)).setCell ⟨w.heap.size + 1, 1, none⟩ (.int .i64 V)).setCell ⟨w.heap.size + 1, 2, none⟩ (.int .i64 F)).setCell ⟨w.heap.size + 1, 3, none⟩ (.slice la ln lc)).setCell ⟨w.heap.size + 1, 4, none⟩ (.int .i64 many)).setCell ⟨w.heap.size + 1, 5, none⟩ (.int .i64 tries)).setCell ⟨w.heap.size + 1, 6, none⟩ (.int .i64 (steps + 1))).setCell ⟨w.heap.size + 1, 7, none⟩ (.int .u64 first)).setCell ⟨w.heap.size + 1, 8, none⟩ (.slice a2 (rn + 1) k2)).setCell ⟨w.heap.size + 1, 9, none⟩ (.int .u64 res)).setCell ⟨w.heap.size + 1, 10, none⟩ (.bool false)) = w9 at hR4 hF4 hR5 hL9 ⊢
    clear t0 t1 t2 t3 t4 t5 t6 t7 t8 t9 t10
    obtain ⟨t0, t1, t2, t3, t4, t5, t6, t7, t8, t9, t10⟩ := cells11 hR4
    refine bodyPost_ret (v := .tuple #[.agg #[.bool false, .int .i64 V, .int .i64 F, .slice la ln lc, .int .i64 many, .int .i64 tries, .int .i64 (steps + 1), .int .u64 first, .slice a2 (rn + 1) k2, .int .u64 res, .bool false], .slice (some ⟨b', o', none⟩) n c', .bool false, .int .i64 0]) ?_ rfl ?_
    · simp [results, Try.results23, go_sem, t0, t1, t2, t3, t4, t5, t6, t7, t8, t9, t10]
    exact ⟨a2, k2, ⟨b', o', c', rfl, hF4, hR5, by rcases HXB.out with h | h; exact .inl h; exact .inr (by omega)⟩, hL9⟩
end
#print axioms next_read
end Go.Proofs.Ytbhnijkphkkalaa
